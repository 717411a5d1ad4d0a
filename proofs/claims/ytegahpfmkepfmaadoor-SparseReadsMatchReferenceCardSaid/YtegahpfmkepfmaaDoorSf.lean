/- Closed facts: the example with one entry. -/
import Derived.Test.YtegahpfmkepfmaaDoorPm
namespace Go.Proofs.YtegahpfmkepfmaaDoor
open Go.RowKit
def one : List Ent := [(5, [97])]
/-- the digests on the way up from the leaf of the key 5 -/
def upF : Nat → Str
  | 0 => sha [8, 10, 97]
  | k + 1 => sha (9 :: (if 5 / 2 ^ k % 2 = 1 then zero32 ++ upF k else upF k ++ zero32))
set_option maxRecDepth 1000000 in
theorem s1 : rootL [] = zero32 := by decide +kernel
set_option maxRecDepth 1000000 in
theorem s2 : rootL one = upF 6 := by decide +kernel
set_option maxRecDepth 1000000 in
theorem s3 : (rootL one == zero32) = false := by decide +kernel
theorem s4 : mapB [] = true := by decide
theorem s5 : mapB one = true := by decide
theorem s6 : mapB [(64, [97])] = false := by decide
theorem s7 : mapB [(1, [])] = false := by decide
theorem s8 : ascB (-1) [5] = true := by decide
theorem s9 : ascB (-1) [] = true := by decide
set_option maxRecDepth 1000000 in
theorem s10 : (pathL [] [5]).length = 6 := by decide +kernel
set_option maxRecDepth 1000000 in
theorem s11 : pathL [] [] = [zero32] := by decide +kernel
theorem s12 : shownB zero32 [5] (valsL [] [5]) (pathL [] [5]) = true := by rw [← s1]; exact proved_shown [] [5] ((mapB_iff _).1 s4) s8
theorem s13 : shownB (rootL one) [5] (valsL one [5]) (pathL one [5]) = true := proved_shown one [5] ((mapB_iff _).1 s5) s8
theorem s14 : shownB (rootL one) [5] (valsL [] [5]) (pathL [] [5]) = false := by
  unfold shownB
  rw [proved_stands [] [5] s8, s1]
  have : (zero32 == rootL one) = false := by
    have h := s3
    rw [beq_eq_false_iff_ne] at h ⊢
    exact fun e => h e.symm
  rw [this]; simp
set_option maxRecDepth 1000000 in
theorem s15 : rdE (shownV [5] (valsL [] [5])) [5] = [] := by decide +kernel
set_option maxRecDepth 1000000 in
theorem s16 : rdA (shownV [5] (valsL [] [5])) [5] = [5] := by decide +kernel
set_option maxRecDepth 1000000 in
theorem s17 : rdE (shownV [5] (valsL one [5])) [5] = one := by decide +kernel
set_option maxRecDepth 1000000 in
theorem s18 : rdA (shownV [5] (valsL one [5])) [5] = [] := by decide +kernel
theorem s19 : updB zero32 [5] (valsL [] [5]) (pathL [] [5]) one = true := by
  unfold updB
  rw [s12]; decide
theorem s20 : updS zero32 [5] (valsL [] [5]) (pathL [] [5]) one = rootL one := by
  unfold updS
  rw [if_pos s19]
  refine changed_stands [] one [5] one ((mapB_iff _).1 s5) ((mapB_iff _).1 s4) s8 (by decide) (fun k hk => ?_) (fun k hk => ?_)
  · simp [tN] at hk; subst hk
    rw [if_pos ⟨(5, [97]), by simp [one], rfl⟩]
  · simp [tN] at hk
    show [] = lookE one k
    unfold one
    rw [lookE, if_neg (by simp; omega)]; rfl
end Go.Proofs.YtegahpfmkepfmaaDoor
