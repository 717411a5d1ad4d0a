import Derived.Test.YthdfadlniacdcaaDoorLw
namespace Go.Proofs.YthdfadlniacdcaaDoor
open Go.RowKit
theorem prf_dig (f : Nat) (l : List Str) (i : Nat) : ∀ x ∈ prfF (sha []) (leafH sha) (nodeH sha) f l i, List.length x = 32 := by
  induction f generalizing l i with
  | zero => intro x hx; simp [prfF] at hx
  | succ f ih =>
    intro x hx
    unfold prfF at hx
    split at hx
    · simp at hx
    · split at hx
      · rcases List.mem_append.1 hx with hx | hx
        · exact ih _ _ x hx
        · rw [List.mem_singleton] at hx; subst hx; exact rootS_len _
      · rcases List.mem_append.1 hx with hx | hx
        · exact ih _ _ x hx
        · rw [List.mem_singleton] at hx; subst hx; exact rootS_len _
theorem part_dig (f : Nat) (l : List Str) (m : Nat) (b : Bool) : ∀ x ∈ partF (sha []) (leafH sha) (nodeH sha) f l m b, List.length x = 32 := by
  induction f generalizing l m b with
  | zero => intro x hx; simp [partF] at hx
  | succ f ih =>
    intro x hx
    unfold partF at hx
    split at hx
    · split at hx
      · simp at hx
      · rw [List.mem_singleton] at hx; subst hx; exact rootS_len _
    · split at hx
      · rcases List.mem_append.1 hx with hx | hx
        · exact ih _ _ _ x hx
        · rw [List.mem_singleton] at hx; subst hx; exact rootS_len _
      · rcases List.mem_append.1 hx with hx | hx
        · exact ih _ _ _ x hx
        · rw [List.mem_singleton] at hx; subst hx; exact rootS_len _
theorem prfS_dig (l : List Str) (i : Nat) : ∀ x ∈ prfS l i, List.length x = 32 := prf_dig _ _ _
theorem extS_dig (l : List Str) (i : Nat) : ∀ x ∈ extS l i, List.length x = 32 := by
  unfold extS
  split
  · intro x hx; simp at hx
  · exact part_dig _ _ _ _
theorem prfS_len (l : List Str) (i : Nat) (hi : i < l.length) : (prfS l i).length = vlen (l.length + 1) l.length i := prf_len _ _ _ _ l i (by omega) hi
theorem prfS_short (l : List Str) (i : Nat) (hi : i < l.length) : (prfS l i).length ≤ bd l.length := by
  rw [prfS_len l i hi]
  exact vlen_le _ l.length i _ (by omega) hi (Nat.le_of_lt (lt_bd _))
theorem ver_ok (l : List Str) (i : Nat) (s : Str) (hi : i < l.length) (hs : l[i]? = some s) : verS (rootS l) l.length i s (prfS l i) = true := by
  unfold verS valS
  rw [decide_eq_true_iff]
  refine ⟨by omega, by omega, (digB_iff _).2 (prfS_dig _ _), ?_⟩
  have e := val_prf (sha []) (leafH sha) (nodeH sha) (l.length + 1) l i (by omega) hi
  have e2 : l.getD i [] = s := by rw [List.getD_eq_getElem?_getD, hs]; rfl
  rw [e2] at e
  simpa [prfS, rootS] using e
theorem ver_len (r : Str) (n i : Nat) (s : Str) (p : List Str) (h : p.length ≠ vlen (n + 1) n i) : verS r n i s p = false := by
  unfold verS valS
  rw [decide_eq_false_iff_not]
  rintro ⟨_, _, _, e⟩
  apply h
  have := (val_len (leafH sha) (nodeH sha) (n + 1) n i s p (by omega)).1
  apply this
  simp at e
  rw [e]; rfl
theorem ver_out (r : Str) (n i : Int) (s : Str) (p : List Str) (h : i < 0 ∨ n ≤ i) : verS r n i s p = false := by
  unfold verS
  rw [decide_eq_false_iff_not]; omega
theorem ver_longer (l : List Str) (i : Nat) (r s x : Str) (hi : i < l.length) : verS r l.length i s (prfS l i ++ [x]) = false :=
  ver_len _ _ _ _ _ (by have := prfS_len l i hi; simp; omega)
theorem ver_shorter (l : List Str) (i : Nat) (r s : Str) (hi : i < l.length) (h : 0 < (prfS l i).length) : verS r l.length i s ((prfS l i).drop 1) = false :=
  ver_len _ _ _ _ _ (by have := prfS_len l i hi; simp; omega)
theorem extS_short (l : List Str) (m : Nat) (h : m ≤ l.length) : (extS l m).length ≤ 2 * bd l.length := by
  unfold extS
  split
  · simp
  · have h1 := part_le (l.length + 1) l m (bd l.length) true (by omega) (by omega) h (Nat.le_of_lt (lt_bd _))
    have h2 := bd_pos l.length (by omega)
    omega
theorem extS_small (l : List Str) (m : Nat) (h : m ≤ l.length) (hl : l.length ≤ 1000) : (extS l m).length ≤ 11 := by
  unfold extS
  split
  · simp
  · exact part_small _ l m true (by omega) (by omega) h hl
theorem vere_ok (l : List Str) (m : Nat) (h : m ≤ l.length) : verE (rootS (l.take m)) m (rootS l) l.length (extS l m) = true := by
  unfold verE
  rw [decide_eq_true_iff]
  refine ⟨by omega, by omega, rootS_len _, rootS_len _, (digB_iff _).2 (extS_dig _ _), ?_⟩
  by_cases h0 : m = 0
  · subst h0
    rw [if_pos (show ((0 : Nat) : Int) = 0 from rfl)]
    exact ⟨rfl, rfl⟩
  · rw [if_neg (by omega)]
    have e := both_part (sha []) (leafH sha) (nodeH sha) (l.length + 1) l m true (rootS (l.take m)) (by omega) (by omega) h (fun _ => rfl)
    unfold extS
    rw [if_neg h0]
    simpa [rootS] using e
theorem vere_out (a r : Str) (n m : Int) (p : List Str) (h : m < 0 ∨ n < m) : verE a m r n p = false := by
  unfold verE
  rw [decide_eq_false_iff_not]; omega
theorem rootS_split (l : List Str) (h : 2 ≤ l.length) : rootS l = nodeH sha (rootS (l.take (lf l.length))) (rootS (l.drop (lf l.length))) := root_split _ _ _ l h
end Go.Proofs.YthdfadlniacdcaaDoor
