/- Plain facts on the checksum: one step of its register, that steps are linear, four steps by a table, and that a change of at most 32 bits in a row changes it. No program is spoken of. -/
import Init.Data.BitVec.Lemmas
namespace Go.Proofs.YtimfhnnabocliaaDoor

/-- One step of the register: it is shifted by one bit; where that bit was 1, the polynomial is added. -/
def st (r : BitVec 32) : BitVec 32 := (r >>> 1) ^^^ (if r.getLsbD 0 then 0x82F63B78#32 else 0#32)

theorem st_xor (a b : BitVec 32) : st (a ^^^ b) = st a ^^^ st b := by
  unfold st
  rw [BitVec.ushiftRight_xor_distrib, BitVec.getLsbD_xor]
  have e : ∀ (x y : BitVec 32) (p q : Bool), (x ^^^ y) ^^^ (if (p ^^ q) = true then 0x82F63B78#32 else 0#32) = (x ^^^ (if p = true then 0x82F63B78#32 else 0#32)) ^^^ (y ^^^ (if q = true then 0x82F63B78#32 else 0#32)) := by
    intro x y p q
    have h1 : ∀ P : BitVec 32, x ^^^ P ^^^ (y ^^^ P) = x ^^^ y := fun P => by
      rw [show x ^^^ P ^^^ (y ^^^ P) = x ^^^ y ^^^ (P ^^^ P) by ac_rfl]; simp
    cases p <;> cases q
    · simp
    · simp; ac_rfl
    · simp; ac_rfl
    · simp [h1]
  exact e _ _ _ _
theorem st_zero : st 0#32 = 0#32 := by decide

/-- n steps. -/
def stn : Nat → BitVec 32 → BitVec 32
  | 0, r => r
  | n + 1, r => stn n (st r)
theorem stn_xor (n : Nat) (a b : BitVec 32) : stn n (a ^^^ b) = stn n a ^^^ stn n b := by
  induction n generalizing a b with
  | zero => rfl
  | succ n ih => rw [stn, st_xor, ih]; rfl
theorem stn_zero (n : Nat) : stn n 0#32 = 0#32 := by
  induction n with
  | zero => rfl
  | succ n ih => rw [stn, st_zero, ih]
theorem stn_add (m n : Nat) (r : BitVec 32) : stn (m + n) r = stn n (stn m r) := by
  induction m generalizing r with
  | zero => simp [stn]
  | succ m ih => rw [Nat.succ_add, stn, ih]; rfl

theorem st_inj0 (r : BitVec 32) (h : st r = 0#32) : r = 0#32 := by
  unfold st at h
  cases hb : r.getLsbD 0 with
  | true =>
    rw [hb] at h
    have := congrArg (fun x => x.getLsbD 31) h
    simp at this
  | false =>
    rw [hb] at h
    simp at h
    apply BitVec.eq_of_getLsbD_eq
    intro i hi
    cases i with
    | zero => rw [hb]; simp
    | succ i =>
      have := congrArg (fun x => x.getLsbD i) h
      simp at this
      rw [show i + 1 = 1 + i by omega]
      simpa using this
theorem stn_inj0 (n : Nat) (r : BitVec 32) (h : stn n r = 0#32) : r = 0#32 := by
  induction n generalizing r with
  | zero => exact h
  | succ n ih => exact st_inj0 _ (ih _ h)
/-- A number below 2^31, shifted up, is shifted down by one step. -/
theorem st_even (v : Nat) (h : v < 2 ^ 31) : st (BitVec.ofNat 32 (2 * v)) = BitVec.ofNat 32 v := by
  unfold st
  have : (BitVec.ofNat 32 (2 * v)).getLsbD 0 = false := by
    rw [BitVec.getLsbD_ofNat]; simp
  rw [this]
  apply BitVec.eq_of_toNat_eq
  simp [Nat.shiftRight_eq_div_pow]
  omega
theorem stn_pow (n v : Nat) (h : 2 ^ n * v < 2 ^ 32) : stn n (BitVec.ofNat 32 (2 ^ n * v)) = BitVec.ofNat 32 v := by
  induction n generalizing v with
  | zero => simp [stn]
  | succ n ih =>
    have e : 2 ^ (n + 1) * v = 2 * (2 ^ n * v) := by rw [Nat.pow_succ]; simp [Nat.mul_comm, Nat.mul_left_comm]
    rw [e] at h ⊢
    rw [stn, st_even _ (by omega), ih v (by omega)]

theorem xor_low (n v m : Nat) (hm : m < 2 ^ n) : 2 ^ n * v + m = (2 ^ n * v) ^^^ m := by
  apply Nat.eq_of_testBit_eq
  intro j
  rw [Nat.testBit_two_pow_mul_add _ hm, Nat.testBit_xor, Nat.testBit_two_pow_mul]
  by_cases h : j < n
  · rw [if_pos h]; simp [show ¬ n ≤ j by omega]
  · rw [if_neg h, Nat.testBit_lt_two_pow (x := m) (i := j) (Nat.lt_of_lt_of_le hm (Nat.pow_le_pow_right (by omega) (by omega)))]
    simp [show n ≤ j by omega]
/-- A number's low bits, and the rest, apart. -/
theorem split_low (n v m : Nat) (hm : m < 2 ^ n) : BitVec.ofNat 32 (2 ^ n * v + m) = BitVec.ofNat 32 (2 ^ n * v) ^^^ BitVec.ofNat 32 m := by
  rw [xor_low n v m hm]
  apply BitVec.eq_of_toNat_eq
  simp

/-- The table of four steps. -/
def hv : List Int := [0, 274646895, 549293790, 820201905, 1098587580, 1361435347, 1640403810, 1905808397, 2197175160, 2460548119, 2722870694, 2987750089, 3280807620, 3553878443, 3811616794, 4084100981]
theorem hv_at (m : Nat) (h : m < 16) : hv.getD m 0 = ((stn 4 (BitVec.ofNat 32 m)).toNat : Int) := by
  have : ∀ m : Fin 16, hv.getD m.1 0 = ((stn 4 (BitVec.ofNat 32 m.1)).toNat : Int) := by decide
  exact this ⟨m, h⟩
theorem four_steps (x : Nat) (h : x < 4294967296) : (x / 16) ^^^ (stn 4 (BitVec.ofNat 32 (x % 16))).toNat = (stn 4 (BitVec.ofNat 32 x)).toNat := by
  have e : x = 2 ^ 4 * (x / 16) + x % 16 := by omega
  have h1 : stn 4 (BitVec.ofNat 32 x) = BitVec.ofNat 32 (x / 16) ^^^ stn 4 (BitVec.ofNat 32 (x % 16)) := by
    conv => lhs; rw [e, split_low 4 _ _ (by omega), stn_xor, stn_pow 4 _ (by omega)]
  rw [h1, BitVec.toNat_xor, BitVec.toNat_ofNat, Nat.mod_eq_of_lt (a := x / 16) (by omega)]

/-- The register behind the bytes of l. -/
def rg (r : BitVec 32) (l : List UInt8) : BitVec 32 := l.foldl (fun r b => stn 8 (r ^^^ BitVec.ofNat 32 b.toNat)) r
theorem rg_snoc (r : BitVec 32) (l : List UInt8) (b : UInt8) : rg r (l ++ [b]) = stn 8 (rg r l ^^^ BitVec.ofNat 32 b.toNat) := by
  simp [rg]
/-- The checksum. -/
def crc (l : List UInt8) : Nat := 4294967295 ^^^ (rg 4294967295#32 l).toNat

/-- The XOR of two lists of bytes. -/
def xl (a b : List UInt8) : List UInt8 := List.zipWith (· ^^^ ·) a b
theorem ofNat_xor (a b : UInt8) : BitVec.ofNat 32 (a ^^^ b).toNat = BitVec.ofNat 32 a.toNat ^^^ BitVec.ofNat 32 b.toNat := by
  apply BitVec.eq_of_toNat_eq
  rw [UInt8.toNat_xor]
  simp
theorem rg_xor (a b : List UInt8) (r q : BitVec 32) (h : a.length = b.length) : rg (r ^^^ q) (xl a b) = rg r a ^^^ rg q b := by
  induction a generalizing b r q with
  | nil => cases b with
    | nil => rfl
    | cons => cases h
  | cons x a ih => cases b with
    | nil => cases h
    | cons y b =>
      simp only [rg, xl, List.zipWith_cons_cons, List.foldl_cons]
      rw [ofNat_xor, show r ^^^ q ^^^ (BitVec.ofNat 32 x.toNat ^^^ BitVec.ofNat 32 y.toNat) = (r ^^^ BitVec.ofNat 32 x.toNat) ^^^ (q ^^^ BitVec.ofNat 32 y.toNat) by ac_rfl, stn_xor]
      exact ih b _ _ (by simpa using h)

theorem crc_affine (a b c : List UInt8) (h1 : a.length = b.length) (h2 : a.length = c.length) : crc (xl (xl a b) c) = crc a ^^^ crc b ^^^ crc c := by
  have h3 : (xl a b).length = c.length := by simp [xl]; omega
  have e : rg 4294967295#32 (xl (xl a b) c) = rg 4294967295#32 a ^^^ rg 4294967295#32 b ^^^ rg 4294967295#32 c := by
    have e1 : (4294967295#32) = (4294967295#32 ^^^ 4294967295#32) ^^^ 4294967295#32 := by decide
    conv => lhs; rw [e1]
    rw [rg_xor _ _ _ _ h3, rg_xor _ _ _ _ h1]
  unfold crc
  rw [e, BitVec.toNat_xor, BitVec.toNat_xor]
  generalize (rg 4294967295#32 a).toNat = x
  generalize (rg 4294967295#32 b).toNat = y
  generalize (rg 4294967295#32 c).toNat = z
  have : ∀ P : Nat, P ^^^ x ^^^ (P ^^^ y) = x ^^^ y := fun P => by
    rw [show P ^^^ x ^^^ (P ^^^ y) = x ^^^ y ^^^ (P ^^^ P) by ac_rfl]; simp
  rw [this]
  ac_rfl

/-! ### Bit by bit -/
/-- The low k bits of v. -/
def lb : Nat → Nat → List Bool
  | 0, _ => []
  | k + 1, v => v.testBit 0 :: lb k (v / 2)
theorem lb_len (k v : Nat) : (lb k v).length = k := by
  induction k generalizing v with
  | zero => rfl
  | succ k ih => simp [lb, ih]
theorem lb_get (k v j : Nat) (h : j < k) : (lb k v)[j]? = some (v.testBit j) := by
  induction k generalizing v j with
  | zero => omega
  | succ k ih =>
    cases j with
    | zero => simp [lb]
    | succ j =>
      simp only [lb, List.getElem?_cons_succ]
      rw [ih _ _ (by omega), Nat.testBit_succ]
/-- The register behind some bits. -/
def br (r : BitVec 32) (l : List Bool) : BitVec 32 := l.foldl (fun r b => st (r ^^^ BitVec.ofNat 32 b.toNat)) r
theorem br_append (r : BitVec 32) (l m : List Bool) : br r (l ++ m) = br (br r l) m := by simp [br]
theorem br_low (k v : Nat) (r : BitVec 32) (hk : k ≤ 32) (h : v < 2 ^ k) : stn k (r ^^^ BitVec.ofNat 32 v) = br r (lb k v) := by
  induction k generalizing v r with
  | zero =>
    have : v = 0 := by simpa using h
    subst this
    simp [stn, lb, br]
  | succ k ih =>
    have e : v = 2 ^ 1 * (v / 2) + v % 2 := by omega
    have h31 : 2 ^ k ≤ 2 ^ 31 := Nat.pow_le_pow_right (by omega) (by omega)
    have hv2 : v / 2 < 2 ^ k := by rw [Nat.pow_succ] at h; omega
    have e0 : v % 2 = (v.testBit 0).toNat := by
      rw [Nat.testBit_zero]
      rcases Nat.mod_two_eq_zero_or_one v with h0 | h0 <;> simp [h0]
    have h1 : st (r ^^^ BitVec.ofNat 32 v) = st (r ^^^ BitVec.ofNat 32 (v.testBit 0).toNat) ^^^ BitVec.ofNat 32 (v / 2) := by
      conv => lhs; rw [e, split_low 1 _ _ (by omega)]
      rw [e0, st_xor, st_xor, st_xor, show 2 ^ 1 * (v / 2) = 2 * (v / 2) by omega, st_even _ (by omega)]
      ac_rfl
    rw [stn, h1, ih _ _ (by omega) hv2]
    rfl
def bitsOf (l : List UInt8) : List Bool := l.flatMap fun b => lb 8 b.toNat
theorem rg_bits (l : List UInt8) (r : BitVec 32) : rg r l = br r (bitsOf l) := by
  induction l generalizing r with
  | nil => rfl
  | cons b l ih =>
    have hb : b.toNat < 2 ^ 8 := b.toNat_lt
    show rg (stn 8 (r ^^^ BitVec.ofNat 32 b.toNat)) l = br r (lb 8 b.toNat ++ bitsOf l)
    rw [ih, br_append, br_low 8 _ _ (by omega) hb]
theorem bitsOf_len (l : List UInt8) : (bitsOf l).length = 8 * l.length := by
  induction l with
  | nil => rfl
  | cons b l ih =>
    rw [bitsOf, List.flatMap_cons, List.length_append, lb_len]
    show 8 + (bitsOf l).length = _
    rw [ih]; simp; omega
/-- Bit j of a list of bytes. -/
def bitAt (l : List UInt8) (j : Nat) : Bool := (l.getD (j / 8) 0).toNat.testBit (j % 8)
theorem bitsOf_get (l : List UInt8) (j : Nat) (h : j < 8 * l.length) : (bitsOf l)[j]? = some (bitAt l j) := by
  induction l generalizing j with
  | nil => simp at h
  | cons b l ih =>
    simp only [bitsOf, List.flatMap_cons] at ih ⊢
    by_cases h8 : j < 8
    · rw [List.getElem?_append_left (by rw [lb_len]; exact h8), lb_get _ _ _ h8]
      unfold bitAt
      rw [show j / 8 = 0 by omega, show j % 8 = j by omega]; rfl
    · rw [List.getElem?_append_right (by rw [lb_len]; omega), lb_len, ih _ (by simp at h; omega)]
      unfold bitAt
      obtain ⟨i, rfl⟩ : ∃ i, j = i + 8 := ⟨j - 8, by omega⟩
      rw [show i + 8 - 8 = i by omega, show (i + 8) / 8 = i / 8 + 1 by omega, show (i + 8) % 8 = i % 8 by omega]; rfl
theorem br_zeros (k : Nat) (r : BitVec 32) : br r (List.replicate k false) = stn k r := by
  induction k generalizing r with
  | zero => rfl
  | succ k ih =>
    show br (st (r ^^^ BitVec.ofNat 32 0)) (List.replicate k false) = stn k (st r)
    rw [show r ^^^ BitVec.ofNat 32 0 = r by simp, ih]

/-- Between s and t the bits from 'at' on, at most i of them, are turned by the pattern. -/
def Turned (s t : List UInt8) (at_ i pat : Nat) : Prop := t.length = s.length ∧ ∀ j, j < 8 * s.length → bitAt t j = (bitAt s j ^^ (decide (at_ ≤ j ∧ j < at_ + i) && pat.testBit (j - at_)))

theorem turned_zero (s : List UInt8) (a p : Nat) : Turned s s a 0 p := ⟨rfl, fun j _ => by rw [decide_eq_false (by omega)]; simp⟩

theorem bitAt_xl (a b : List UInt8) (h : a.length = b.length) (j : Nat) (hj : j < 8 * a.length) : bitAt (xl a b) j = (bitAt a j ^^ bitAt b j) := by
  unfold bitAt xl
  have h1 : j / 8 < a.length := by omega
  have h2 : j / 8 < b.length := by omega
  simp [List.getD, List.getElem?_zipWith, List.getElem?_eq_getElem h1, List.getElem?_eq_getElem h2, Nat.testBit_xor]

/-- A change of at most 32 bits in a row changes the register, if it changes a bit. -/
theorem burst (s t : List UInt8) (a m pat : Nat) (r : BitVec 32) (hm : m ≤ 32) (ham : a + m ≤ 8 * s.length) (h : Turned s t a m pat) (hp : pat < 2 ^ m) : rg r s = rg r t ↔ pat = 0 := by
  obtain ⟨hl, hb⟩ := h
  have e : bitsOf (xl s t) = List.replicate a false ++ lb m pat ++ List.replicate (8 * s.length - a - m) false := by
    have hxl : (xl s t).length = s.length := by simp [xl]; omega
    apply List.ext_getElem?
    intro j
    by_cases hj : j < 8 * s.length
    · rw [bitsOf_get _ _ (by omega), bitAt_xl _ _ hl.symm _ hj, hb j hj]
      by_cases h1 : j < a
      · rw [List.append_assoc, List.getElem?_append_left (by simpa using h1), List.getElem?_replicate, if_pos h1, decide_eq_false (by omega)]; simp
      · by_cases h2 : j < a + m
        · rw [List.getElem?_append_left (by simp [lb_len]; omega), List.getElem?_append_right (by simpa using by omega), List.length_replicate, lb_get _ _ _ (by omega), decide_eq_true (by omega)]; simp
        · rw [List.getElem?_append_right (by simp [lb_len]; omega), List.getElem?_replicate, if_pos (by simp [lb_len]; omega), decide_eq_false (by omega)]; simp
    · rw [List.getElem?_eq_none (by rw [bitsOf_len]; omega), List.getElem?_eq_none (by simp [lb_len]; omega)]
  have e2 : rg r s ^^^ rg r t = stn (8 * s.length - a - m) (stn m (BitVec.ofNat 32 pat)) := by
    rw [← rg_xor s t r r hl.symm, rg_bits, e, br_append, br_append, br_zeros, br_zeros, BitVec.xor_self, stn_zero, ← br_low m pat _ hm hp]
    simp
  constructor
  · intro h
    rw [h, BitVec.xor_self] at e2
    have := stn_inj0 _ _ (stn_inj0 _ _ e2.symm)
    have h3 := congrArg BitVec.toNat this
    have h32 : 2 ^ m ≤ 2 ^ 32 := Nat.pow_le_pow_right (by omega) hm
    simp at h3
    omega
  · intro h
    subst h
    rw [show BitVec.ofNat 32 0 = 0#32 from rfl, stn_zero, stn_zero] at e2
    have h5 : rg r s ^^^ (rg r s ^^^ rg r t) = rg r s ^^^ 0#32 := by rw [e2]
    rw [← BitVec.xor_assoc, BitVec.xor_self] at h5
    simpa using h5.symm
theorem crc_eq (s t : List UInt8) : crc s = crc t ↔ rg 4294967295#32 s = rg 4294967295#32 t := by
  constructor
  · intro h
    unfold crc at h
    have h2 := congrArg (fun x => 4294967295 ^^^ x) h
    simp only [← Nat.xor_assoc, Nat.xor_self, Nat.zero_xor] at h2
    exact BitVec.eq_of_toNat_eq h2
  · intro h
    unfold crc
    rw [h]
theorem crc_lt (s : List UInt8) : crc s < 4294967296 := by
  unfold crc
  exact Nat.xor_lt_two_pow (n := 32) (by omega) (rg _ s).isLt
end Go.Proofs.YtimfhnnabocliaaDoor
