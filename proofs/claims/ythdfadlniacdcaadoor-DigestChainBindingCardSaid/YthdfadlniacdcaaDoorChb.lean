import Derived.Test.YthdfadlniacdcaaDoorHea
import Derived.Test.YthdfadlniacdcaaDoorCln
namespace Go.Proofs.YthdfadlniacdcaaDoor
open Go.RowKit
theorem hR_small (l : List Str) (hl : ∀ u ∈ l, List.length u ≤ 1000) : ∀ u ∈ (hR sha l).1, List.length u ≤ 100000 := by
  induction l with
  | nil => intro u hu; simp [hR] at hu
  | cons r t ih =>
    intro u hu
    rw [hR] at hu
    rcases List.mem_cons.1 hu with e | hu
    · subst e
      have := hR_len sha sha_len t
      have := hl r (by simp)
      simp; omega
    · exact ih (fun u h => hl u (by simp [h])) u hu
theorem collide_nil (va vb : Value) (A B : List Str) (w : World) (ha : SL w va A) (hb : SL w vb B) (hAB : A = [] ∨ B = []) (hAl : A.length ≤ 1000) (_ : B.length ≤ 1000) :
    Calls Tryd.prog 35 #[va, vb] w fun e w' => e = .returned (.bool false) ∧ Below w.heap.size w w' := by
  have hAB2 : A.length = 0 ∨ B.length = 0 := hAB.imp (fun h => by rw [h]; rfl) (fun h => by rw [h]; rfl)
  obtain ⟨a1, c1, rfl⟩ := ha.shape
  obtain ⟨a2, c2, rfl⟩ := hb.shape
  clear ha hb hAB
  generalize A.length = N at *
  generalize B.length = M at *
  have hAB3 := Lib.hid hAB2
  clear hAB2
  go_enter Tryd.func35, Tryd.ntmps35
  go_wp2_with fail
  go_loopw [5] (fun iv wr => iv = .int .i64 0 ∧ Below w.heap.size w wr) (fun iv _ => 0)
  case atStart => exact ⟨rfl, Below.refl _ _⟩
  case round =>
    obtain ⟨rfl, Bw⟩ := hrel
    by_cases hN : 0 < N
    · have hM : M = 0 := by rcases hAB3.out with h | h <;> omega
      have t1 : decide ((0 : Int) < (N : Int)) = true := by rw [decide_eq_true_iff]; omega
      have t2 : decide ((0 : Int) < (M : Int)) = false := by rw [decide_eq_false_iff_not]; omega
      have t1n : decide (0 < N) = true := by rw [decide_eq_true_iff]; omega
      have t2n : decide (0 < M) = false := by rw [decide_eq_false_iff_not]; omega
      have t1i : ((0 : Int) < (N : Int)) := by omega
      have t2i : ¬ ((0 : Int) < (M : Int)) := by omega
      have hMh := Lib.hid hM
      clear hM
      go_wp2_with fail
      go_ret
      exact ⟨rfl, Bw⟩
    · have t1 : decide ((0 : Int) < (N : Int)) = false := by rw [decide_eq_false_iff_not]; omega
      have t1n : decide (0 < N) = false := by rw [decide_eq_false_iff_not]; omega
      have t1i : ¬ ((0 : Int) < (N : Int)) := by omega
      go_wp2_with fail
      go_ret
      exact ⟨rfl, Bw⟩
/-- what collide answers -/
theorem collide_dec (va vb : Value) (A B : List Str) (w : World) (ha : SL w va A) (hb : SL w vb B) (hAl : A.length ≤ 1000) (hBl : B.length ≤ 1000)
    (hAu : ∀ u ∈ A, List.length u ≤ 100000) (hBu : ∀ u ∈ B, List.length u ≤ 100000) (hT : Tab w) :
    Calls Tryd.prog 35 #[va, vb] w fun e w' => ∃ b, e = .returned (.bool b) ∧ (Coll sha A B → b = true) ∧ Below w.heap.size w w' := by
  by_cases hA0 : A = []
  · exact (collide_nil va vb A B w ha hb (.inl hA0) hAl hBl).mono fun _ _ h => ⟨false, h.1, fun ⟨j, x, y, h1, _⟩ => by rw [hA0] at h1; simp at h1, h.2⟩
  by_cases hB0 : B = []
  · exact (collide_nil va vb A B w ha hb (.inr hB0) hAl hBl).mono fun _ _ h => ⟨false, h.1, fun ⟨j, x, y, _, h1, _⟩ => by rw [hB0] at h1; simp at h1, h.2⟩
  by_cases hC : Coll sha A B
  · exact (collide_any va vb A B w ha hb hAl hAu hBu hC hT).mono fun _ _ h => ⟨true, h.1, fun _ => rfl, h.2⟩
  · exact (collide_none va vb A B w ha hb hA0 hB0 hAl hBl hAu hBu hC hT).mono fun _ _ h => ⟨false, h.1, fun h => absurd h hC, h.2⟩
end Go.Proofs.YthdfadlniacdcaaDoor
