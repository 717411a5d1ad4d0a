import Derived.Test.YthdfadlniacdcaaDoorCol
namespace Go.Proofs.YthdfadlniacdcaaDoor
open Go.RowKit

set_option maxRecDepth 100000 in
set_option maxHeartbeats 4000000 in
theorem collide_none (va vb : Value) (A B : List Str) (w : World) (ha : SL w va A) (hb : SL w vb B) (hA0 : A ≠ []) (hB0 : B ≠ []) (hAl : A.length ≤ 1000) (hBl : B.length ≤ 1000)
    (hAu : ∀ u ∈ A, List.length u ≤ 100000) (hBu : ∀ u ∈ B, List.length u ≤ 100000) (hC : ¬ Coll sha A B) (hT : Tab w) :
    Calls Tryd.prog 35 #[va, vb] w fun e w' => e = .returned (.bool false) ∧ Below w.heap.size w w' := by
  obtain ⟨b1, o1, k1, rfl, e1, e2, e3⟩ := ha.own hA0
  obtain ⟨b2, o2, k2, rfl, f1, f2, f3⟩ := hb.own hB0
  have cellA := Lib.hid (fun (k : Nat) (hk : k < A.length) w' (B : Below w.heap.size w w') => ((B.cell (p := ⟨b1, o1 + k, none⟩) e2).trans (e3 k _ (List.getElem?_eq_getElem hk))))
  have cellB := Lib.hid (fun (k : Nat) (hk : k < B.length) w' (B : Below w.heap.size w w') => ((B.cell (p := ⟨b2, o2 + k, none⟩) f2).trans (f3 k _ (List.getElem?_eq_getElem hk))))
  have hAu2 := Lib.hid hAu
  have hBu2 := Lib.hid hBu
  have hCx := Lib.hid hC
  have hT2 := Lib.hid hT
  clear hT hAu hBu hC ha hb e3 f3 hA0 hB0
  obtain ⟨N, hN⟩ : ∃ N, Hid (N = A.length) := ⟨_, rfl⟩
  obtain ⟨M, hM⟩ : ∃ M, Hid (M = B.length) := ⟨_, rfl⟩
  rw [← hN.out] at hAl e1 ⊢
  rw [← hM.out] at hBl f1 ⊢
  go_enter Tryd.func35, Tryd.ntmps35
  go_wp2_with fail
  go_loopw [5] (fun iv wr => ∃ k : Nat, k ≤ N ∧ k ≤ M ∧ iv = .int .i64 k ∧ Below w.heap.size w wr) (fun iv _ => N - (intOf iv).toNat)
  case atStart => exact ⟨0, by omega, by omega, rfl, Below.refl _ _⟩
  case round =>
    obtain ⟨k, hkN, hkM, rfl, Bw⟩ := hrel
    have i0 : (0 : Int) ≤ (k : Int) := by omega
    by_cases hk1 : k = N
    · have t1 : decide ((k : Int) < (N : Int)) = false := by rw [decide_eq_false_iff_not]; omega
      have t1n : decide (k < N) = false := by rw [decide_eq_false_iff_not]; omega
      have t1i : ¬ ((k : Int) < (N : Int)) := by omega
      clear hAu2 hBu2 hCx hT2 cellA cellB
      have hk1 := Lib.hid hk1
      rename_i hk1o
      clear hk1o
      go_wp2_with fail
      go_ret
      exact ⟨rfl, Bw⟩
    by_cases hk2 : k = M
    · have t1 : decide ((k : Int) < (N : Int)) = true := by rw [decide_eq_true_iff]; omega
      have t2 : decide ((k : Int) < (M : Int)) = false := by rw [decide_eq_false_iff_not]; omega
      have t1n : decide (k < N) = true := by rw [decide_eq_true_iff]; omega
      have t2n : decide (k < M) = false := by rw [decide_eq_false_iff_not]; omega
      have t1i : ((k : Int) < (N : Int)) := by omega
      have t2i : ¬ ((k : Int) < (M : Int)) := by omega
      clear hAu2 hBu2 hCx hT2 cellA cellB
      have hk2 := Lib.hid hk2
      rename_i hk2o
      clear hk2o
      go_wp2_with fail
      go_ret
      exact ⟨rfl, Bw⟩
    have hkA : k < A.length := by rw [← hN.out]; omega
    have hkB : k < B.length := by rw [← hM.out]; omega
    have q1 := cellA.out k hkA
    have q2 := cellB.out k hkB
    have hlast := Lib.hid (show A[k] ≠ B[k] → (sha A[k] == sha B[k]) = false from fun e => by
      rw [beq_eq_false_iff_ne]
      exact fun h => hCx.out ⟨k, A[k], B[k], List.getElem?_eq_getElem hkA, List.getElem?_eq_getElem hkB, e, h⟩)
    have u1 := hAu2.out A[k] (List.getElem_mem hkA)
    have u2 := hBu2.out B[k] (List.getElem_mem hkB)
    clear hCx
    generalize A[k] = x at *
    generalize B[k] = y at *
    have i1 : (k : Int) < (N : Int) := by omega
    have i2 : (k : Int) < (M : Int) := by omega
    have q1w := q1 wr Bw
    have q2w := q2 wr Bw
    have fw := Lib.hid q1
    have fw2 := Lib.hid q2
    clear q1 q2
    by_cases hxy : x = y
    · subst hxy
      clear hlast
      go_wp2_with fail
      go_quiet (fail)
      go_wp2_with fail
      go_roundw
      case rel => exact ⟨k + 1, by omega, by omega, by go_num, below_drewN Bw _⟩
      case measure => simp [intOf]; omega
    · have hne : (x == y) = false := by simpa using hxy
      have s1 := Lib.hid (fun w' B => Sum_any x w' (by omega) (hT2.out.below B))
      have s2 := Lib.hid (fun w' B => Sum_any y w' (by omega) (hT2.out.below B))
      have hs := hlast.out hxy
      clear hxy hlast
      generalize sha x = dx at *
      generalize sha y = dy at *
      go_wp2_with fail
      go_region_held3 (fun w' => w'.cell? ⟨b1, o1 + k, none⟩ = some (.string ⟨x.toArray⟩) ∧ w'.cell? ⟨b2, o2 + k, none⟩ = some (.string ⟨y.toArray⟩))
        (first | go_keep | exact ⟨fw.out _ B3, fw2.out _ B3⟩ | exact ⟨fw.out _ B4, fw2.out _ B4⟩)
        (first
          | (go_at_call 13; (with_reducible refine (s1.out _ (by first | exact Bw.drew | exact Bw)).mono ?_); rintro e w3 ⟨rfl, hb3⟩; have B3 : Below w.heap.size w w3 := by first | exact Bw.drew.trans (hb3.mono Bw.drew.size) | exact Bw.trans (hb3.mono Bw.size))
          | (go_at_call 13; (with_reducible refine (s2.out _ B3).mono ?_); rintro e w4 ⟨rfl, hb4⟩; have B4 : Below w.heap.size w w4 := B3.trans (hb4.mono B3.size)))
      all_goals
        go_wp2_with fail
        go_roundw
        case rel => exact ⟨k + 1, by omega, by omega, by go_num, B4⟩
        case measure => simp [intOf]; omega
end Go.Proofs.YthdfadlniacdcaaDoor
