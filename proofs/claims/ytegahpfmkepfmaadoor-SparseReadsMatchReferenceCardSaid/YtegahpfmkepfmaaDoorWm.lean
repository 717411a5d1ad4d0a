/- Plain facts on the encoding of integers: groups of seven bits, decoding, and that the two fit. No program is spoken of. -/
import Init.Data.List.Lemmas
namespace Go.Proofs.YtegahpfmkepfmaaDoor.Wr

/-- The groups of z, at most k + 1 of them. -/
def enc : Nat → Nat → List UInt8
  | 0, z => [UInt8.ofNat z]
  | k + 1, z => if z < 128 then [UInt8.ofNat z] else UInt8.ofNat (z % 128 + 128) :: enc k (z / 128)

/-- What the first bytes of a list encode, and how many they are. -/
def jn : Nat → Bool → List UInt8 → Option (Nat × Nat)
  | 0, _, _ => none
  | _ + 1, _, [] => none
  | k + 1, first, b :: l => if 128 ≤ b.toNat then (jn k false l).map (fun p => (b.toNat % 128 + 128 * p.1, p.2 + 1)) else if b.toNat = 0 ∧ first = false then none else some (b.toNat, 1)

theorem toNat_of (n : Nat) (h : n < 256) : (UInt8.ofNat n).toNat = n := by
  simp [Nat.mod_eq_of_lt h]

theorem enc_len (k z : Nat) : 1 ≤ (enc k z).length ∧ (enc k z).length ≤ k + 1 := by
  induction k generalizing z with
  | zero => simp [enc]
  | succ k ih =>
    unfold enc
    split
    · simp
    · have := ih (z / 128); simp; omega

theorem jn_enc (k z : Nat) (first : Bool) (r : List UInt8) (h : z < 128 ^ (k + 1)) (hf : first = true ∨ 0 < z) : jn (k + 1) first (enc k z ++ r) = some (z, (enc k z).length) := by
  induction k generalizing z first with
  | zero =>
    have hz : z < 128 := by simpa using h
    have e := toNat_of z (by omega)
    simp only [enc, List.cons_append, List.nil_append, jn, e]
    rw [if_neg (by omega), if_neg (by rcases hf with hf | hf <;> simp [hf]; omega)]
    rfl
  | succ k ih =>
    unfold enc
    by_cases hz : z < 128
    · have e := toNat_of z (by omega)
      rw [if_pos hz]
      simp only [List.cons_append, List.nil_append, jn, e]
      rw [if_neg (by omega), if_neg (by rcases hf with hf | hf <;> simp [hf]; omega)]
      rfl
    · rw [if_neg hz]
      have e := toNat_of (z % 128 + 128) (by omega)
      have h' : z / 128 < 128 ^ (k + 1) := by
        rw [Nat.pow_succ] at h
        exact Nat.div_lt_of_lt_mul (by omega)
      have := ih (z / 128) false h' (.inr (by omega))
      simp only [List.cons_append]
      rw [jn, e, if_pos (by omega), this]
      simp
      omega

theorem jn_sound (k : Nat) (first : Bool) (l : List UInt8) (z n : Nat) (h : jn (k + 1) first l = some (z, n)) :
    n ≤ l.length ∧ 1 ≤ n ∧ l.take n = enc k z ∧ z < 128 ^ (k + 1) ∧ (first = false → 0 < z) := by
  induction k generalizing first l z n with
  | zero =>
    match l with
    | [] => simp [jn] at h
    | b :: l =>
      rw [jn] at h
      split at h
      · simp [jn] at h
      · split at h
        · cases h
        · rename_i h1 h2
          simp at h
          obtain ⟨rfl, rfl⟩ := h
          refine ⟨by simp, by omega, by simp [enc], by simp; omega, fun hf => ?_⟩
          simp [hf] at h2
          have : b.toNat ≠ 0 := fun e => h2 e
          omega
  | succ k ih =>
    match l with
    | [] => simp [jn] at h
    | b :: l =>
      rw [jn] at h
      split at h
      · rename_i h1
        cases hj : jn (k + 1) false l with
        | none => simp [hj] at h
        | some p =>
          obtain ⟨z', n'⟩ := p
          simp [hj] at h
          obtain ⟨rfl, rfl⟩ := h
          obtain ⟨a1, a2, a3, a4, a5⟩ := ih false l z' n' hj
          have hz' := a5 rfl
          have hb : b.toNat < 256 := b.toNat_lt
          refine ⟨by simp; omega, by omega, ?_, ?_, fun _ => by omega⟩
          · rw [enc, if_neg (by omega), List.take_succ_cons, a3]
            congr 1
            · rw [← UInt8.toNat_inj, toNat_of _ (by omega)]; omega
            · congr 1; omega
          · rw [Nat.pow_succ]; omega
      · split at h
        · cases h
        · rename_i h1 h2
          simp at h
          obtain ⟨rfl, rfl⟩ := h
          refine ⟨by simp, by omega, ?_, ?_, fun hf => ?_⟩
          · rw [enc, if_pos (by omega)]; simp
          · have : 0 < 128 ^ (k + 1) := Nat.pow_pos (by omega)
            rw [Nat.pow_succ]; omega
          · simp [hf] at h2
            have : b.toNat ≠ 0 := fun e => h2 e
            omega

theorem jn_cut (k z : Nat) (first : Bool) (n : Nat) (h : z < 128 ^ (k + 1)) (hn : n < (enc k z).length) : jn (k + 1) first ((enc k z).take n) = none := by
  induction k generalizing z first n with
  | zero =>
    simp [enc] at hn
    subst hn
    simp [jn]
  | succ k ih =>
    unfold enc at hn ⊢
    by_cases hz : z < 128
    · rw [if_pos hz] at hn ⊢
      simp at hn
      subst hn
      simp [jn]
    · rw [if_neg hz] at hn ⊢
      have h' : z / 128 < 128 ^ (k + 1) := by
        rw [Nat.pow_succ] at h
        exact Nat.div_lt_of_lt_mul (by omega)
      have e := toNat_of (z % 128 + 128) (by omega)
      cases n with
      | zero => simp [jn]
      | succ n =>
        simp at hn
        rw [List.take_succ_cons, jn, e, if_pos (by omega), ih (z / 128) false n h' hn]
        rfl

/-- The number that stands for n. -/
def foldI (n : Int) : Nat := (if n < 0 then -2 * n - 1 else 2 * n).toNat
/-- The integer for which z stands. -/
def unfoldI (z : Nat) : Int := if z % 2 = 1 then - ((z / 2 : Nat) : Int) - 1 else ((z / 2 : Nat) : Int)

theorem unfold_fold (n : Int) : unfoldI (foldI n) = n := by
  unfold unfoldI foldI
  by_cases h : n < 0
  · rw [if_pos h]; split <;> omega
  · rw [if_neg h]; split <;> omega
theorem fold_unfold (z : Nat) : foldI (unfoldI z) = z := by
  unfold unfoldI foldI
  split
  · rw [if_pos (by omega)]; omega
  · rw [if_neg (by omega)]; omega
theorem fold_lt (n : Int) (h1 : -4611686018427387903 ≤ n) (h2 : n ≤ 4611686018427387903) : foldI n ≤ 9223372036854775806 := by
  unfold foldI; split <;> omega
theorem unfold_bd (z : Nat) (h : z ≤ 9223372036854775806) : -4611686018427387903 ≤ unfoldI z ∧ unfoldI z ≤ 4611686018427387903 := by
  unfold unfoldI; split <;> omega

/-- The encoding of an integer. -/
def putL (n : Int) : List UInt8 := enc 8 (foldI n)

/-- What 'Int' answers for the bytes l at an offset. -/
def getL (l : List UInt8) (k : Nat) : Option (Int × Nat) :=
  match jn 9 true (l.drop k) with
  | none => none
  | some p => if p.1 ≤ 9223372036854775806 then some (unfoldI p.1, k + p.2) else none

/-- What 'String' answers. -/
def getT (l : List UInt8) (k : Nat) : Option (List UInt8 × Nat) :=
  match getL l k with
  | none => none
  | some p => if 0 ≤ p.1 ∧ p.1 ≤ 65536 ∧ p.2 + p.1.toNat ≤ l.length then some ((l.drop p.2).take p.1.toNat, p.2 + p.1.toNat) else none

theorem putL_len (n : Int) : 1 ≤ (putL n).length ∧ (putL n).length ≤ 9 := enc_len 8 _

theorem getL_putL (p q : List UInt8) (n : Int) (h1 : -4611686018427387903 ≤ n) (h2 : n ≤ 4611686018427387903) :
    getL (p ++ putL n ++ q) p.length = some (n, p.length + (putL n).length) := by
  have hf := fold_lt n h1 h2
  have e : (p ++ putL n ++ q).drop p.length = putL n ++ q := by rw [List.append_assoc, List.drop_left]
  unfold getL
  rw [e]
  unfold putL
  rw [jn_enc 8 _ true q (by omega) (.inl rfl)]
  simp only [if_pos hf, unfold_fold]

theorem getL_sound (l : List UInt8) (k : Nat) (n : Int) (m : Nat) (h : getL l k = some (n, m)) :
    -4611686018427387903 ≤ n ∧ n ≤ 4611686018427387903 ∧ (k ≤ l.length → m ≤ l.length) ∧ k < m ∧ (l.drop k).take (m - k) = putL n := by
  unfold getL at h
  split at h
  · cases h
  · rename_i p hj
    obtain ⟨z, i⟩ := p
    split at h
    · rename_i hz
      simp at h hz
      obtain ⟨rfl, rfl⟩ := h
      obtain ⟨a1, a2, a3, a4, _⟩ := jn_sound 8 true _ _ _ hj
      have := unfold_bd z hz
      rw [List.length_drop] at a1
      refine ⟨this.1, this.2, fun _ => by omega, by omega, ?_⟩
      rw [putL, fold_unfold, show k + i - k = i by omega, a3]
    · cases h

theorem getL_cut (n : Int) (i : Nat) (h1 : -4611686018427387903 ≤ n) (h2 : n ≤ 4611686018427387903) (hi : i < (putL n).length) : getL ((putL n).take i) 0 = none := by
  have hf := fold_lt n h1 h2
  unfold getL putL
  rw [List.drop_zero, jn_cut 8 _ true i (by omega) hi]

theorem getT_putT (p q t : List UInt8) (ht : t.length ≤ 65536) :
    getT (p ++ (putL t.length ++ t) ++ q) p.length = some (t, p.length + (putL t.length ++ t).length) := by
  have e : p ++ (putL t.length ++ t) ++ q = p ++ putL t.length ++ (t ++ q) := by simp [List.append_assoc]
  unfold getT
  rw [e, getL_putL p (t ++ q) t.length (by omega) (by omega)]
  have e2 : (p ++ putL t.length ++ (t ++ q)).drop (p.length + (putL (t.length : Int)).length) = t ++ q := by
    rw [← List.length_append, List.drop_left]
  simp only [e2, Int.toNat_natCast]
  rw [if_pos ⟨by omega, by omega, by simp; omega⟩, List.take_left]
  simp [Nat.add_assoc]

theorem getT_sound (l : List UInt8) (k : Nat) (t : List UInt8) (m : Nat) (hk : k ≤ l.length) (h : getT l k = some (t, m)) :
    t.length ≤ 65536 ∧ k ≤ m ∧ m ≤ l.length ∧ (l.drop k).take (m - k) = putL t.length ++ t := by
  unfold getT at h
  split at h
  · cases h
  · rename_i p hj
    obtain ⟨n, i⟩ := p
    split at h
    · rename_i hz
      simp at h hz
      obtain ⟨rfl, rfl⟩ := h
      obtain ⟨a1, a2, a3, a4, a5⟩ := getL_sound _ _ _ _ hj
      have a3 := a3 hk
      have hl : ((l.drop i).take n.toNat).length = n.toNat := by simp; omega
      refine ⟨by omega, by omega, by omega, ?_⟩
      rw [hl, show ((n.toNat : Nat) : Int) = n by omega, ← a5]
      have : i + n.toNat - k = (i - k) + n.toNat := by omega
      rw [this, List.take_add, List.drop_drop, show k + (i - k) = i by omega]
    · cases h

theorem getT_cut (t : List UInt8) (i : Nat) (ht : t.length ≤ 65536) (hi : i < (putL t.length ++ t).length) : getT ((putL t.length ++ t).take i) 0 = none := by
  unfold getT
  by_cases hc : i < (putL (t.length : Int)).length
  · rw [List.take_append_of_le_length (by omega), getL_cut _ i (by omega) (by omega) hc]
  · have e : (putL (t.length : Int) ++ t).take i = [] ++ putL (t.length : Int) ++ t.take (i - (putL (t.length : Int)).length) := by
      rw [List.take_append, List.take_of_length_le (by omega)]; rfl
    have := getL_putL [] (t.take (i - (putL (t.length : Int)).length)) t.length (by omega) (by omega)
    rw [e]
    rw [List.length_nil] at this
    rw [this]
    simp only [Int.toNat_natCast]
    rw [if_neg]
    intro h
    have h3 := h.2.2
    simp at h3 hi
    omega

/-- The encodings of two integers: one begins with the other exactly if they are the same. -/
theorem putL_prefix (a b : Int) (ha1 : -4611686018427387903 ≤ a) (ha2 : a ≤ 4611686018427387903) (hb1 : -4611686018427387903 ≤ b) (hb2 : b ≤ 4611686018427387903)
    (h : (putL b).take (putL a).length = putL a) : a = b := by
  have g1 := getL_putL [] ((putL b).drop (putL a).length) a ha1 ha2
  have g2 := getL_putL [] [] b hb1 hb2
  have e : [] ++ putL a ++ (putL b).drop (putL a).length = [] ++ putL b ++ [] := by
    simp only [List.nil_append, List.append_nil]
    conv => rhs; rw [← List.take_append_drop (putL a).length (putL b), h]
  rw [e, g2] at g1
  simp at g1
  exact g1.1.symm
end Go.Proofs.YtegahpfmkepfmaaDoor.Wr
