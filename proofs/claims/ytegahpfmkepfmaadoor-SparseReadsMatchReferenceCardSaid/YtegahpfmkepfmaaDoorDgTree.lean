/- Plain facts on trees of digests over lists of strings: what a proof's value is, that the proof of an entry is accepted, how long it is, and that two entries with one value collide. No program is spoken of: 'leaf', 'node' are any functions. -/
namespace Go.Proofs.YtegahpfmkepfmaaDoor

abbrev Str := List UInt8

/-- the greatest power of two that is less than n, found by doubling -/
def lfGo : Nat → Nat → Nat → Nat
  | 0, k, _ => k
  | f + 1, k, n => if k < n - k then lfGo f (2 * k) n else k
def lf (n : Nat) : Nat := lfGo n 1 n
theorem lfGo_spec (f k n j : Nat) (hk : k = 2 ^ j) (hn : k < n) (hf : n ≤ k + f) : ∃ i, lfGo f k n = 2 ^ i ∧ lfGo f k n < n ∧ n ≤ 2 * lfGo f k n := by
  induction f generalizing k j with
  | zero => omega
  | succ f ih =>
    rw [lfGo]
    have hp : 0 < 2 ^ j := Nat.pow_pos (by omega)
    split
    · exact ih (2 * k) (j + 1) (by rw [hk, Nat.pow_succ]; omega) (by omega) (by omega)
    · exact ⟨j, hk, hn, by omega⟩
theorem lf_spec (n : Nat) (h : 2 ≤ n) : ∃ i, lf n = 2 ^ i ∧ lf n < n ∧ n ≤ 2 * lf n := lfGo_spec n 1 n 0 rfl (by omega) (by omega)
theorem lf_pos (n : Nat) (h : 2 ≤ n) : 1 ≤ lf n := by
  obtain ⟨i, e, _, _⟩ := lf_spec n h
  rw [e]; exact Nat.pow_pos (by omega)
theorem lf_lt (n : Nat) (h : 2 ≤ n) : lf n < n := (lf_spec n h).choose_spec.2.1
theorem lf_half (n : Nat) (h : 2 ≤ n) : n ≤ 2 * lf n := (lf_spec n h).choose_spec.2.2
theorem lf_same (m k j : Nat) (h : 2 ≤ m) (hk : k = 2 ^ j) (h1 : k < m) (h2 : m ≤ 2 * k) : lf m = k := by
  obtain ⟨i, e, h3, h4⟩ := lf_spec m h
  rw [e] at h3 h4 ⊢
  rw [hk] at h1 h2 ⊢
  have a1 : i < j + 1 := (Nat.pow_lt_pow_iff_right (a := 2) (by omega)).1 (by rw [Nat.pow_succ]; omega)
  have a2 : j < i + 1 := (Nat.pow_lt_pow_iff_right (a := 2) (by omega)).1 (by rw [Nat.pow_succ]; omega)
  rw [show i = j by omega]
theorem lf_le_pow (n j : Nat) (h : 2 ≤ n) (hj : n ≤ 2 ^ (j + 1)) : lf n ≤ 2 ^ j := by
  obtain ⟨i, e, h1, _⟩ := lf_spec n h
  rw [e] at h1 ⊢
  have : i < j + 1 := (Nat.pow_lt_pow_iff_right (by omega)).1 (Nat.lt_of_lt_of_le h1 hj)
  exact Nat.pow_le_pow_right (by omega) (by omega)

section
variable (empty : Str) (leaf : Str → Str) (node : Str → Str → Str)

/-- the root of l, with fuel -/
def rootF : Nat → List Str → Str
  | 0, _ => empty
  | f + 1, l => match l with
    | [] => empty
    | [s] => leaf s
    | a :: b :: t => node (rootF f ((a :: b :: t).take (lf (t.length + 2)))) (rootF f ((a :: b :: t).drop (lf (t.length + 2))))
def root (l : List Str) : Str := rootF empty leaf node (l.length + 1) l
theorem rootF_eq (f g : Nat) (l : List Str) (hf : l.length < f) (hg : l.length < g) : rootF empty leaf node f l = rootF empty leaf node g l := by
  induction f generalizing g l with
  | zero => omega
  | succ f ih =>
    cases g with
    | zero => omega
    | succ g =>
      match l with
      | [] => rfl
      | [s] => rfl
      | a :: b :: t =>
        have h1 := lf_lt (t.length + 2) (by omega)
        have h2 := lf_pos (t.length + 2) (by omega)
        simp only [List.length_cons] at hf hg
        simp only [rootF]
        rw [ih g _ (by simp; omega) (by simp; omega), ih g _ (by simp; omega) (by simp; omega)]
theorem root_nil : root empty leaf node [] = empty := rfl
theorem root_one (s : Str) : root empty leaf node [s] = leaf s := rfl
theorem root_split (l : List Str) (h : 2 ≤ l.length) : root empty leaf node l = node (root empty leaf node (l.take (lf l.length))) (root empty leaf node (l.drop (lf l.length))) := by
  match l, h with
  | a :: b :: t, _ =>
    have h1 := lf_lt (t.length + 2) (by omega)
    have h2 := lf_pos (t.length + 2) (by omega)
    show node _ _ = _
    simp only [List.length_cons]
    unfold root
    rw [rootF_eq empty leaf node _ _ _ (by simp; omega) (Nat.lt_succ_self _), rootF_eq empty leaf node _ _ (List.drop _ _) (by simp; omega) (Nat.lt_succ_self _)]

/-- the proof of entry i, with fuel -/
def prfF : Nat → List Str → Nat → List Str
  | 0, _, _ => []
  | f + 1, l, i => if l.length ≤ 1 then [] else
      if i < lf l.length then prfF f (l.take (lf l.length)) i ++ [root empty leaf node (l.drop (lf l.length))]
      else prfF f (l.drop (lf l.length)) (i - lf l.length) ++ [root empty leaf node (l.take (lf l.length))]
/-- how long a proof of entry i of n is -/
def vlen : Nat → Nat → Nat → Nat
  | 0, _, _ => 0
  | f + 1, n, i => if n ≤ 1 then 0 else if i < lf n then vlen f (lf n) i + 1 else vlen f (n - lf n) (i - lf n) + 1
/-- the value of n, i, s and a proof; none where the proof has not the right length -/
def val : Nat → Nat → Nat → Str → List Str → Option Str
  | 0, _, _, _, _ => none
  | f + 1, n, i, s, p => if n ≤ 1 then (if p = [] then some (leaf s) else none) else
      match p.getLast? with
      | none => none
      | some x => if i < lf n then (val f (lf n) i s p.dropLast).map (fun v => node v x) else (val f (n - lf n) (i - lf n) s p.dropLast).map (fun v => node x v)

theorem val_len (f n i : Nat) (s : Str) (p : List Str) (h : n < f) : (val leaf node f n i s p).isSome = true ↔ p.length = vlen f n i := by
  induction f generalizing n i p with
  | zero => omega
  | succ f ih =>
    unfold val vlen
    by_cases hn : n ≤ 1
    · rw [if_pos hn, if_pos hn]
      by_cases hp : p = []
      · simp [hp]
      · rw [if_neg hp]; simp [hp]
    · rw [if_neg hn, if_neg hn]
      have h1 := lf_lt n (by omega)
      have h2 := lf_pos n (by omega)
      rcases List.eq_nil_or_concat p with rfl | ⟨q, x, rfl⟩
      · simp; split <;> simp
      · simp only [List.concat_eq_append, List.getLast?_append, List.getLast?_singleton, Option.some_or, List.dropLast_concat, List.length_append, List.length_singleton]
        split
        · rw [Option.isSome_map, ih _ _ _ (by omega)]; omega
        · rw [Option.isSome_map, ih _ _ _ (by omega)]; omega

theorem vlen_le (f n i j : Nat) (h : n < f) (hi : i < n) (hj : n ≤ 2 ^ j) : vlen f n i ≤ j := by
  induction f generalizing n i j with
  | zero => omega
  | succ f ih =>
    unfold vlen
    by_cases hn : n ≤ 1
    · rw [if_pos hn]; omega
    · rw [if_neg hn]
      have h1 := lf_lt n (by omega)
      have h2 := lf_pos n (by omega)
      have h3 := lf_half n (by omega)
      cases j with
      | zero => simp at hj; omega
      | succ j =>
        have h4 := lf_le_pow n j (by omega) hj
        split
        · have := ih (lf n) i j (by omega) (by omega) h4; omega
        · have := ih (n - lf n) (i - lf n) j (by omega) (by omega) (by omega); omega

/-- The proof of an entry has the root as its value. -/
theorem val_prf (f : Nat) (l : List Str) (i : Nat) (h : l.length < f) (hi : i < l.length) : val leaf node f l.length i (l.getD i []) (prfF empty leaf node f l i) = some (root empty leaf node l) := by
  induction f generalizing l i with
  | zero => omega
  | succ f ih =>
    unfold val prfF
    by_cases hn : l.length ≤ 1
    · rw [if_pos hn, if_pos hn, if_pos rfl]
      match l, hn, hi with
      | [s], _, hi =>
        have : i = 0 := by simpa using hi
        subst this
        rfl
    · rw [if_neg hn, if_neg hn]
      have h1 := lf_lt l.length (by omega)
      have h2 := lf_pos l.length (by omega)
      rw [root_split empty leaf node l (by omega)]
      by_cases hk : i < lf l.length
      · rw [if_pos hk]
        simp only [List.getLast?_append, List.getLast?_singleton, Option.some_or, List.dropLast_concat]
        rw [if_pos hk]
        have hl : (l.take (lf l.length)).length = lf l.length := by simp; omega
        have e := ih (l.take (lf l.length)) i (by omega) (by omega)
        rw [hl] at e
        have eg : (l.take (lf l.length)).getD i [] = l.getD i [] := by simp [List.getD, List.getElem?_take_of_lt hk]
        rw [eg] at e
        rw [e]; rfl
      · rw [if_neg hk]
        simp only [List.getLast?_append, List.getLast?_singleton, Option.some_or, List.dropLast_concat]
        rw [if_neg hk]
        have hl : (l.drop (lf l.length)).length = l.length - lf l.length := by simp
        have e := ih (l.drop (lf l.length)) (i - lf l.length) (by omega) (by omega)
        rw [hl] at e
        have eg : (l.drop (lf l.length)).getD (i - lf l.length) [] = l.getD i [] := by
          simp only [List.getD, List.getElem?_drop]; rw [show lf l.length + (i - lf l.length) = i by omega]
        rw [eg] at e
        rw [e]; rfl
theorem prf_len (f : Nat) (l : List Str) (i : Nat) (h : l.length < f) (hi : i < l.length) : (prfF empty leaf node f l i).length = vlen f l.length i :=
  (val_len leaf node f l.length i (l.getD i []) _ h).1 (by rw [val_prf empty leaf node f l i h hi]; rfl)

/-! ### Extensions -/
/-- part(l, m, whole), with fuel -/
def partF : Nat → List Str → Nat → Bool → List Str
  | 0, _, _, _ => []
  | f + 1, l, m, whole => if m = l.length then (if whole then [] else [root empty leaf node l]) else
      if m ≤ lf l.length then partF f (l.take (lf l.length)) m whole ++ [root empty leaf node (l.drop (lf l.length))]
      else partF f (l.drop (lf l.length)) (m - lf l.length) false ++ [root empty leaf node (l.take (lf l.length))]
/-- the two values; none where the proof has not the right length -/
def both : Nat → Str → Nat → Nat → List Str → Bool → Option (Str × Str)
  | 0, _, _, _, _, _ => none
  | f + 1, old, m, n, p, whole => if m = n then (if whole then (if p = [] then some (old, old) else none) else match p with | [x] => some (x, x) | _ => none) else
      match p.getLast? with
      | none => none
      | some x => if m ≤ lf n then (both f old m (lf n) p.dropLast whole).map (fun v => (v.1, node v.2 x)) else (both f old (m - lf n) (n - lf n) p.dropLast false).map (fun v => (node x v.1, node x v.2))
/-- The extension of a beginning has the roots of the beginning and of the list as its values. -/
theorem both_part (f : Nat) (l : List Str) (m : Nat) (whole : Bool) (old : Str) (h : l.length < f) (h1 : 1 ≤ m) (hm : m ≤ l.length) (ho : whole = true → old = root empty leaf node (l.take m)) :
    both node f old m l.length (partF empty leaf node f l m whole) whole = some (root empty leaf node (l.take m), root empty leaf node l) := by
  induction f generalizing l m whole with
  | zero => omega
  | succ f ih =>
    unfold both partF
    by_cases hml : m = l.length
    · rw [if_pos hml, if_pos hml]
      have e : l.take m = l := List.take_of_length_le (by omega)
      cases whole with
      | true => rw [e] at ho ⊢; simp [ho rfl]
      | false => rw [e]; rfl
    · rw [if_neg hml, if_neg hml]
      have k1 := lf_lt l.length (by omega)
      have k2 := lf_pos l.length (by omega)
      have hr := root_split empty leaf node l (by omega)
      by_cases hk : m ≤ lf l.length
      · rw [if_pos hk]
        simp only [List.getLast?_append, List.getLast?_singleton, Option.some_or, List.dropLast_concat]
        rw [if_pos hk]
        have hl : (l.take (lf l.length)).length = lf l.length := by simp; omega
        have et : (l.take (lf l.length)).take m = l.take m := by rw [List.take_take]; congr 1; omega
        have e := ih (l.take (lf l.length)) m whole (by omega) h1 (by omega) (by rw [et]; exact ho)
        rw [hl, et] at e
        rw [e, hr]; rfl
      · rw [if_neg hk]
        simp only [List.getLast?_append, List.getLast?_singleton, Option.some_or, List.dropLast_concat]
        rw [if_neg hk]
        have hl : (l.drop (lf l.length)).length = l.length - lf l.length := by simp
        have e := ih (l.drop (lf l.length)) (m - lf l.length) false (by omega) (by omega) (by omega) (by intro h; cases h)
        rw [hl] at e
        have hm2 : lf (l.take m).length = lf l.length := by
          have h3 := lf_half l.length (by omega)
          obtain ⟨i, hi, _, _⟩ := lf_spec l.length (by omega)
          have : (l.take m).length = m := by simp; omega
          rw [this]
          exact lf_same m (lf l.length) i (by omega) hi (by omega) (by omega)
        have hr2 := root_split empty leaf node (l.take m) (by simp; omega)
        rw [hm2] at hr2
        have e1 : (l.take m).take (lf l.length) = l.take (lf l.length) := by rw [List.take_take]; congr 1; omega
        have e2 : (l.take m).drop (lf l.length) = (l.drop (lf l.length)).take (m - lf l.length) := by rw [List.drop_take]
        rw [e1, e2] at hr2
        rw [hr2, e, hr]
        rfl
end

/-! ### Binding -/
section
variable (H : Str → Str) (hH : ∀ s, (H s).length = 32)

def leafH (s : Str) : Str := H (0 :: s)
def nodeH (a b : Str) : Str := H (1 :: (a ++ b))
/-- the strings of which the digest is computed for a proof, from the root on; and the value -/
def wayF : Nat → Nat → Nat → Str → List Str → List Str × Str
  | 0, _, _, s, _ => ([0 :: s], leafH H s)
  | f + 1, n, i, s, p => if n ≤ 1 ∨ p = [] then ([0 :: s], leafH H s) else
      if i < lf n then ((1 :: ((wayF f (lf n) i s p.dropLast).2 ++ p.getLast?.getD [])) :: (wayF f (lf n) i s p.dropLast).1, nodeH H (wayF f (lf n) i s p.dropLast).2 (p.getLast?.getD []))
      else ((1 :: (p.getLast?.getD [] ++ (wayF f (n - lf n) (i - lf n) s p.dropLast).2)) :: (wayF f (n - lf n) (i - lf n) s p.dropLast).1, nodeH H (p.getLast?.getD []) (wayF f (n - lf n) (i - lf n) s p.dropLast).2)
theorem way_val (f n i : Nat) (s r : Str) (p : List Str) (h : n < f) (hv : val (leafH H) (nodeH H) f n i s p = some r) : (wayF H f n i s p).2 = r := by
  induction f generalizing n i p r with
  | zero => omega
  | succ f ih =>
    unfold val at hv
    unfold wayF
    by_cases hn : n ≤ 1
    · rw [if_pos hn] at hv
      rw [if_pos (.inl hn)]
      split at hv
      · simpa using hv
      · cases hv
    · rw [if_neg hn] at hv
      have h1 := lf_lt n (by omega)
      have h2 := lf_pos n (by omega)
      rcases List.eq_nil_or_concat p with rfl | ⟨q, x, rfl⟩
      · simp at hv
      · rw [if_neg (by simp; omega)]
        simp only [List.concat_eq_append, List.getLast?_append, List.getLast?_singleton, Option.some_or, List.dropLast_concat, Option.getD_some] at hv ⊢
        by_cases hk : i < lf n
        · rw [if_pos hk] at hv ⊢
          cases hq : val (leafH H) (nodeH H) f (lf n) i s q with
          | none => rw [hq] at hv; cases hv
          | some r' =>
            rw [hq] at hv
            rw [ih (lf n) i r' q (by omega) hq]
            simpa using hv
        · rw [if_neg hk] at hv ⊢
          cases hq : val (leafH H) (nodeH H) f (n - lf n) (i - lf n) s q with
          | none => rw [hq] at hv; cases hv
          | some r' =>
            rw [hq] at hv
            rw [ih (n - lf n) (i - lf n) r' q (by omega) hq]
            simpa using hv
include hH in
theorem way_len (f n i : Nat) (s : Str) (p : List Str) : (wayF H f n i s p).2.length = 32 := by
  cases f with
  | zero => exact hH _
  | succ f =>
    unfold wayF
    split
    · exact hH _
    · split
      · exact hH _
      · exact hH _
/-- two strings with the same index in two lists that differ and have one digest -/
def Coll (a b : List Str) : Prop := ∃ (j : Nat) (x y : Str), a[j]? = some x ∧ b[j]? = some y ∧ x ≠ y ∧ H x = H y
theorem Coll.cons {a b : List Str} (x y : Str) (h : Coll H a b) : Coll H (x :: a) (y :: b) := by
  obtain ⟨j, u, v, h1, h2, h3, h4⟩ := h
  exact ⟨j + 1, u, v, by simpa using h1, by simpa using h2, h3, h4⟩
theorem Coll.head {a b : List Str} (x y : Str) (h : x ≠ y) (e : H x = H y) : Coll H (x :: a) (y :: b) := ⟨0, x, y, rfl, rfl, h, e⟩
include hH in
/-- Who proves two different entries for one place has found two strings with one digest. -/
theorem binding (f n i : Nat) (s t r : Str) (p q : List Str) (h : n < f) (hst : s ≠ t) (hp : ∀ x ∈ p, List.length x = 32) (hq : ∀ x ∈ q, List.length x = 32)
    (h1 : val (leafH H) (nodeH H) f n i s p = some r) (h2 : val (leafH H) (nodeH H) f n i t q = some r) : Coll H (wayF H f n i s p).1 (wayF H f n i t q).1 := by
  induction f generalizing n i p q r with
  | zero => omega
  | succ f ih =>
    have e1 := way_val H (f + 1) n i s r p h h1
    have e2 := way_val H (f + 1) n i t r q h h2
    unfold val at h1 h2
    unfold wayF at e1 e2 ⊢
    by_cases hn : n ≤ 1
    · rw [if_pos (.inl hn)] at e1 e2 ⊢
      rw [if_pos (.inl hn)]
      exact Coll.head H _ _ (by simpa using hst) (by show leafH H s = leafH H t; exact e1.trans e2.symm)
    · rw [if_neg hn] at h1 h2
      have k1 := lf_lt n (by omega)
      have k2 := lf_pos n (by omega)
      rcases List.eq_nil_or_concat p with rfl | ⟨p', x, rfl⟩
      · simp at h1
      rcases List.eq_nil_or_concat q with rfl | ⟨q', y, rfl⟩
      · simp at h2
      have hx : x.length = 32 := hp x (by simp)
      have hy : y.length = 32 := hq y (by simp)
      have g1 : ¬ (n ≤ 1 ∨ p'.concat x = []) := by simp; omega
      have g2 : ¬ (n ≤ 1 ∨ q'.concat y = []) := by simp; omega
      rw [if_neg g1] at e1 ⊢
      rw [if_neg g2] at e2 ⊢
      simp only [List.concat_eq_append, List.getLast?_append, List.getLast?_singleton, Option.some_or, List.dropLast_concat, Option.getD_some] at h1 h2 e1 e2 ⊢
      by_cases hk : i < lf n
      · simp only [if_pos hk] at h1 h2 e1 e2 ⊢
        by_cases he : (1 : UInt8) :: ((wayF H f (lf n) i s p').2 ++ x) = 1 :: ((wayF H f (lf n) i t q').2 ++ y)
        · cases c1 : val (leafH H) (nodeH H) f (lf n) i s p' with
          | none => rw [c1] at h1; cases h1
          | some r1 =>
            cases c2 : val (leafH H) (nodeH H) f (lf n) i t q' with
            | none => rw [c2] at h2; cases h2
            | some r2 =>
              have w1 := way_val H f (lf n) i s r1 p' (by omega) c1
              have w2 := way_val H f (lf n) i t r2 q' (by omega) c2
              have l1 := way_len H hH f (lf n) i s p'
              have l2 := way_len H hH f (lf n) i t q'
              have hr := (List.append_inj (List.cons.inj he).2 (l1.trans l2.symm)).1
              refine Coll.cons H _ _ (ih (lf n) i r1 p' q' (by omega) (fun z hz => hp z (by simp [hz])) (fun z hz => hq z (by simp [hz])) c1 ?_)
              rw [c2, ← w2, ← hr, w1]
        · exact Coll.head H _ _ he (by simpa [nodeH] using e1.trans e2.symm)
      · simp only [if_neg hk] at h1 h2 e1 e2 ⊢
        by_cases he : (1 : UInt8) :: (x ++ (wayF H f (n - lf n) (i - lf n) s p').2) = 1 :: (y ++ (wayF H f (n - lf n) (i - lf n) t q').2)
        · cases c1 : val (leafH H) (nodeH H) f (n - lf n) (i - lf n) s p' with
          | none => rw [c1] at h1; cases h1
          | some r1 =>
            cases c2 : val (leafH H) (nodeH H) f (n - lf n) (i - lf n) t q' with
            | none => rw [c2] at h2; cases h2
            | some r2 =>
              have w1 := way_val H f (n - lf n) (i - lf n) s r1 p' (by omega) c1
              have w2 := way_val H f (n - lf n) (i - lf n) t r2 q' (by omega) c2
              have hr := (List.append_inj (List.cons.inj he).2 (hx.trans hy.symm)).2
              refine Coll.cons H _ _ (ih (n - lf n) (i - lf n) r1 p' q' (by omega) (fun z hz => hp z (by simp [hz])) (fun z hz => hq z (by simp [hz])) c1 ?_)
              rw [c2, ← w2, ← hr, w1]
        · exact Coll.head H _ _ he (by simpa [nodeH] using e1.trans e2.symm)

/-- the strings of which the digest is computed for the new root of an extension, from the root on; and the value -/
def sidesF : Nat → Str → Nat → Nat → List Str → Bool → List Str × Str
  | 0, old, _, _, _, _ => ([], old)
  | f + 1, old, m, n, p, whole => if n ≤ m ∨ p = [] then ([], if whole = true ∨ p = [] then old else p.headD []) else
      if m ≤ lf n then ((1 :: ((sidesF f old m (lf n) p.dropLast whole).2 ++ p.getLast?.getD [])) :: (sidesF f old m (lf n) p.dropLast whole).1, nodeH H (sidesF f old m (lf n) p.dropLast whole).2 (p.getLast?.getD []))
      else ((1 :: (p.getLast?.getD [] ++ (sidesF f old (m - lf n) (n - lf n) p.dropLast false).2)) :: (sidesF f old (m - lf n) (n - lf n) p.dropLast false).1, nodeH H (p.getLast?.getD []) (sidesF f old (m - lf n) (n - lf n) p.dropLast false).2)
theorem sides_val (f m n : Nat) (old u r : Str) (p : List Str) (whole : Bool) (h : n < f) (h1 : 1 ≤ m) (hm : m ≤ n) (hv : both (nodeH H) f old m n p whole = some (u, r)) : (sidesF H f old m n p whole).2 = r := by
  induction f generalizing m n p u r whole with
  | zero => omega
  | succ f ih =>
    unfold both at hv
    unfold sidesF
    by_cases hn : m = n
    · rw [if_pos hn] at hv
      rw [if_pos (.inl (by omega))]
      cases whole with
      | true =>
        simp only [if_true] at hv
        split at hv
        · simp at hv; simp [hv.2]
        · cases hv
      | false =>
        match p, hv with
        | [x], hv => simp at hv; simp [hv.2]
    · rw [if_neg hn] at hv
      have k1 := lf_lt n (by omega)
      have k2 := lf_pos n (by omega)
      rcases List.eq_nil_or_concat p with rfl | ⟨q, x, rfl⟩
      · simp at hv
      · have g1 : ¬ (n ≤ m ∨ q.concat x = []) := by simp; omega
        rw [if_neg g1]
        simp only [List.concat_eq_append, List.getLast?_append, List.getLast?_singleton, Option.some_or, List.dropLast_concat, Option.getD_some] at hv ⊢
        by_cases hk : m ≤ lf n
        · simp only [if_pos hk] at hv ⊢
          cases hq : both (nodeH H) f old m (lf n) q whole with
          | none => rw [hq] at hv; cases hv
          | some v =>
            rw [hq] at hv
            rw [ih m (lf n) v.1 v.2 q whole (by omega) h1 hk hq]
            simp at hv; exact hv.2
        · simp only [if_neg hk] at hv ⊢
          cases hq : both (nodeH H) f old (m - lf n) (n - lf n) q false with
          | none => rw [hq] at hv; cases hv
          | some v =>
            rw [hq] at hv
            rw [ih (m - lf n) (n - lf n) v.1 v.2 q false (by omega) (by omega) (by omega) hq]
            simp at hv; exact hv.2
include hH in
theorem sides_len (f m n : Nat) (old : Str) (p : List Str) (whole : Bool) (ho : old.length = 32) (hp : ∀ x ∈ p, List.length x = 32) : (sidesF H f old m n p whole).2.length = 32 := by
  cases f with
  | zero => exact ho
  | succ f =>
    unfold sidesF
    split
    · simp only
      split
      · exact ho
      · rename_i hc
        match p, hp, hc with
        | x :: p, hp, _ => exact hp x (by simp)
        | [], _, hc => simp at hc
    · split
      · exact hH _
      · exact hH _
include hH in
/-- Who proves two different beginnings of one length has found two strings with one digest. -/
theorem binding2 (f m n : Nat) (a b u1 u2 r : Str) (p q : List Str) (whole : Bool) (h : n < f) (h1 : 1 ≤ m) (hm : m ≤ n) (hu : u1 ≠ u2) (ha : a.length = 32) (hb : b.length = 32)
    (hp : ∀ x ∈ p, List.length x = 32) (hq : ∀ x ∈ q, List.length x = 32) (hv : both (nodeH H) f a m n p whole = some (u1, r)) (hw : both (nodeH H) f b m n q whole = some (u2, r)) :
    Coll H (sidesF H f a m n p whole).1 (sidesF H f b m n q whole).1 := by
  induction f generalizing m n p q u1 u2 r whole with
  | zero => omega
  | succ f ih =>
    have e1 := sides_val H (f + 1) m n a u1 r p whole h h1 hm hv
    have e2 := sides_val H (f + 1) m n b u2 r q whole h h1 hm hw
    unfold both at hv hw
    unfold sidesF at e1 e2 ⊢
    by_cases hn : m = n
    · exfalso
      rw [if_pos hn] at hv hw
      cases whole with
      | true =>
        simp only [if_true] at hv hw
        split at hv
        · split at hw
          · simp at hv hw
            exact hu (hv.1.symm.trans (hv.2.trans (hw.2.symm.trans hw.1)))
          · cases hw
        · cases hv
      | false =>
        match p, q, hv, hw with
        | [x], [y], hv, hw =>
          simp at hv hw
          exact hu (hv.1.symm.trans (hv.2.trans (hw.2.symm.trans hw.1)))
    · rw [if_neg hn] at hv hw
      have k1 := lf_lt n (by omega)
      have k2 := lf_pos n (by omega)
      rcases List.eq_nil_or_concat p with rfl | ⟨p', x, rfl⟩
      · simp at hv
      rcases List.eq_nil_or_concat q with rfl | ⟨q', y, rfl⟩
      · simp at hw
      have hx : x.length = 32 := hp x (by simp)
      have hy : y.length = 32 := hq y (by simp)
      have hp' : ∀ z ∈ p', List.length z = 32 := fun z hz => hp z (by simp [hz])
      have hq' : ∀ z ∈ q', List.length z = 32 := fun z hz => hq z (by simp [hz])
      have g1 : ¬ (n ≤ m ∨ p'.concat x = []) := by simp; omega
      have g2 : ¬ (n ≤ m ∨ q'.concat y = []) := by simp; omega
      rw [if_neg g1] at e1 ⊢
      rw [if_neg g2] at e2 ⊢
      simp only [List.concat_eq_append, List.getLast?_append, List.getLast?_singleton, Option.some_or, List.dropLast_concat, Option.getD_some] at hv hw e1 e2 ⊢
      by_cases hk : m ≤ lf n
      · simp only [if_pos hk] at hv hw e1 e2 ⊢
        by_cases he : (1 : UInt8) :: ((sidesF H f a m (lf n) p' whole).2 ++ x) = 1 :: ((sidesF H f b m (lf n) q' whole).2 ++ y)
        · cases c1 : both (nodeH H) f a m (lf n) p' whole with
          | none => rw [c1] at hv; cases hv
          | some v1 =>
            cases c2 : both (nodeH H) f b m (lf n) q' whole with
            | none => rw [c2] at hw; cases hw
            | some v2 =>
              rw [c1] at hv
              rw [c2] at hw
              simp at hv hw
              have w1 := sides_val H f m (lf n) a v1.1 v1.2 p' whole (by omega) h1 hk c1
              have w2 := sides_val H f m (lf n) b v2.1 v2.2 q' whole (by omega) h1 hk c2
              have l1 := sides_len H hH f m (lf n) a p' whole ha hp'
              have l2 := sides_len H hH f m (lf n) b q' whole hb hq'
              have hr := (List.append_inj (List.cons.inj he).2 (l1.trans l2.symm)).1
              refine Coll.cons H _ _ (ih m (lf n) u1 u2 v1.2 p' q' whole (by omega) h1 hk hu hp' hq' ?_ ?_)
              · rw [c1, ← hv.1]
              · rw [c2, ← hw.1, ← w1, hr, w2]
        · exact Coll.head H _ _ he (by simpa [nodeH] using e1.trans e2.symm)
      · simp only [if_neg hk] at hv hw e1 e2 ⊢
        by_cases he : (1 : UInt8) :: (x ++ (sidesF H f a (m - lf n) (n - lf n) p' false).2) = 1 :: (y ++ (sidesF H f b (m - lf n) (n - lf n) q' false).2)
        · cases c1 : both (nodeH H) f a (m - lf n) (n - lf n) p' false with
          | none => rw [c1] at hv; cases hv
          | some v1 =>
            cases c2 : both (nodeH H) f b (m - lf n) (n - lf n) q' false with
            | none => rw [c2] at hw; cases hw
            | some v2 =>
              rw [c1] at hv
              rw [c2] at hw
              simp at hv hw
              have w1 := sides_val H f (m - lf n) (n - lf n) a v1.1 v1.2 p' false (by omega) (by omega) (by omega) c1
              have w2 := sides_val H f (m - lf n) (n - lf n) b v2.1 v2.2 q' false (by omega) (by omega) (by omega) c2
              have hr := List.append_inj (List.cons.inj he).2 (hx.trans hy.symm)
              refine Coll.cons H _ _ (ih (m - lf n) (n - lf n) v1.1 v2.1 v1.2 p' q' false (by omega) (by omega) (by omega) (fun e => hu ?_) hp' hq' ?_ ?_)
              · rw [← hv.1, ← hw.1, hr.1, e]
              · rw [c1]
              · rw [c2, ← w1, hr.2, w2]
        · exact Coll.head H _ _ he (by simpa [nodeH] using e1.trans e2.symm)

/-! ### Chains of records, the last one first -/
def zero32 : Str := List.replicate 32 0
/-- the strings of which the digest is computed for the head of the records r (the last one first), the last string first; and the head -/
def hR : List Str → List Str × Str
  | [] => ([], zero32)
  | r :: t => ((2 :: ((hR t).2 ++ r)) :: (hR t).1, H (2 :: ((hR t).2 ++ r)))
include hH in
theorem hR_len (l : List Str) : (hR H l).2.length = 32 := by
  cases l with
  | nil => simp [hR, zero32]
  | cons r t => exact hH _
theorem hR_size (l : List Str) : (hR H l).1.length = l.length := by
  induction l with
  | nil => rfl
  | cons r t ih => simp [hR, ih]
include hH in
/-- Two lists of records with one head are the same, or two strings collide, or one has the digest of no records. -/
theorem chain_binding (a b : List Str) (h : (hR H a).2 = (hR H b).2) :
    a = b ∨ Coll H (hR H a).1 (hR H b).1 ∨ (a.length ≠ b.length ∧ ∃ z, (if a.length < b.length then (hR H b).1 else (hR H a).1)[min a.length b.length]? = some z ∧ H z = zero32) := by
  induction a generalizing b with
  | nil =>
    cases b with
    | nil => exact .inl rfl
    | cons r t => exact .inr (.inr ⟨by simp, 2 :: ((hR H t).2 ++ r), by simp [hR], by simpa [hR] using h.symm⟩)
  | cons r t ih =>
    cases b with
    | nil => exact .inr (.inr ⟨by simp, 2 :: ((hR H t).2 ++ r), by simp [hR], by simpa [hR] using h⟩)
    | cons r' t' =>
      by_cases he : (2 : UInt8) :: ((hR H t).2 ++ r) = 2 :: ((hR H t').2 ++ r')
      · have hr := List.append_inj (List.cons.inj he).2 ((hR_len H hH t).trans (hR_len H hH t').symm)
        rcases ih t' hr.1 with e | e | ⟨e1, z, e2, e3⟩
        · exact .inl (by rw [e, hr.2])
        · exact .inr (.inl (Coll.cons H _ _ e))
        · refine .inr (.inr ⟨by simpa using e1, z, ?_, e3⟩)
          have hm : min (r :: t).length (r' :: t').length = min t.length t'.length + 1 := by simp
          rw [hm]
          by_cases hl : t.length < t'.length
          · rw [if_pos hl] at e2
            rw [if_pos (by simp; omega)]
            simpa [hR] using e2
          · rw [if_neg hl] at e2
            rw [if_neg (by simp; omega)]
            simpa [hR] using e2
      · exact .inr (.inl (Coll.head H _ _ he (by simpa [hR] using h)))
end
end Go.Proofs.YtegahpfmkepfmaaDoor
