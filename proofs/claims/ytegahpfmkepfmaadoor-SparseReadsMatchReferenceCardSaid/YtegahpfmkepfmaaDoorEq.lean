/- Equality of lists of entries, of integers. -/
import Derived.Test.YtegahpfmkepfmaaDoorUp
import Derived.Test.YtegahpfmkepfmaaDoorMix
import Derived.Deep.QuietTactic
import Derived.BigQuiet
namespace Go.Proofs.YtegahpfmkepfmaaDoor
open Go.RowKit

set_option maxRecDepth 100000 in
set_option maxHeartbeats 1000000 in
theorem SameEntries_any (va vb : Value) (A B : List Ent) (w : World) (ha : SE w va A) (hb : SE w vb B) (hAl : A.length ≤ 1000000000000) (_ : B.length ≤ 140737488351232) :
    Calls Tryd.prog 25 #[va, vb] w fun e w' => e = .returned (.bool (decide (A = B))) ∧ Below w.heap.size w w' := by
  have cellA := Lib.hid (show ∀ (k : Nat) (hk : k < A.length), _ from fun k hk => SE.at ha k hk)
  have cellB := Lib.hid (show ∀ (k : Nat) (hk : k < B.length), _ from fun k hk => SE.at hb k hk)
  obtain ⟨a1, N, c1, rfl, hN⟩ := ha.shape'
  obtain ⟨a2, M, c2, rfl, hM⟩ := hb.shape'
  clear ha hb
  by_cases hlen : N = M
  rotate_left
  · have hr : Hid (false = decide (A = B)) := by
      show _ = _
      symm
      rw [decide_eq_false_iff_not]; exact fun e => hlen (by rw [hN.out, hM.out, e])
    generalize decide (A = B) = r at *
    have t0 : ((N : Int) != (M : Int)) = true := by rw [bne_iff_ne]; omega
    have t0n : ((N : Int) == (M : Int)) = false := by rw [beq_eq_false_iff_ne]; omega
    clear hlen cellA cellB
    go_enter Tryd.func25, Tryd.ntmps25
    go_wp2_with fail
    go_ret
    exact ⟨ret_bool hr.out, Below.refl _ _⟩
  · subst hlen
    rw [← hN.out] at hAl
    go_enter Tryd.func25, Tryd.ntmps25
    go_wp2_with fail
    go_loopw [5] (fun i wr => ∃ k : Nat, k ≤ N ∧ i = .int .i64 k ∧ Hid (A.take k = B.take k) ∧ Below w.heap.size w wr) (fun i _ => N - (intOf i).toNat)
    case atStart => exact ⟨0, by omega, rfl, rfl, Below.refl _ _⟩
    case round =>
      obtain ⟨k, hk, rfl, hall, Bw⟩ := hrel
      by_cases hlt : k < N
      · have hkA : k < A.length := by rw [← hN.out]; exact hlt
        have hkB : k < B.length := by rw [← hM.out]; exact hlt
        obtain ⟨p1, p2, p3, he, g1⟩ := cellA.out k hkA
        injection he with he1 he2 he3
        subst he1
        obtain ⟨r1, r2, r3, he, g2⟩ := cellB.out k hkB
        injection he with he4 he5 he6
        subst he4
        have q1 := g1 wr Bw
        have q2 := g2 wr Bw
        clear he2 he3 he5 he6 g1 g2
        have i0 : (0 : Int) ≤ (k : Int) := by omega
        have i1 : (k : Int) < (N : Int) := by omega
        by_cases hxy : A[k] = B[k]
        · have hnew : Hid (A.take (k + 1) = B.take (k + 1)) := by
            show _ = _
            rw [List.take_succ_eq_append_getElem hkA, List.take_succ_eq_append_getElem hkB, hall.out, hxy]
          rw [← hxy] at q2
          clear hxy hall
          generalize A[k] = x at *
          obtain ⟨c0, c1⟩ := q1
          obtain ⟨d0, d1⟩ := q2
          skip
          go_wp2_with fail
          go_quiet (fail)
          go_wp2_with fail
          go_roundw
          case rel => exact ⟨k + 1, by omega, by go_num, hnew, below_drewN Bw _⟩
          case measure => simp [intOf]; omega
        · have hr : decide (A = B) = false := by
            rw [decide_eq_false_iff_not]
            intro e
            subst e
            exact hxy rfl
          have hr2 := Lib.hid hr
          generalize A[k] = x at *
          generalize B[k] = y at *
          obtain ⟨c0, c1⟩ := q1
          obtain ⟨d0, d1⟩ := q2
          by_cases h0 : x.1 = y.1
          rotate_left
          · have hne : (x.1 == y.1) = false := by simpa using h0
            have hnh := Lib.hid h0
            clear hxy hr hall h0
            go_wp2_with fail
            go_quiet (fail)
            go_wp2_with fail
            go_ret
            exact ⟨ret_bool hr2.out.symm, below_drewN Bw _⟩
          rw [← h0] at d0
          by_cases h1 : x.2 = y.2
          rotate_left
          · have hne : (x.2 == y.2) = false := by simpa using h1
            have hnh := Lib.hid h1
            clear hxy hr hall h1
            go_wp2_with fail
            go_quiet (fail)
            go_wp2_with fail
            go_ret
            exact ⟨ret_bool hr2.out.symm, below_drewN Bw _⟩
          rw [← h1] at d1
          exact absurd (by cases x; cases y; simp_all) hxy
      · have hk2 : k = N := by omega
        have hr : decide (A = B) = true := by
          have h := hall.out
          rw [List.take_of_length_le (by rw [hk2, ← hN.out]; exact Nat.le_refl _), List.take_of_length_le (by rw [hk2, ← hM.out]; exact Nat.le_refl _)] at h
          simpa using h
        have hr2 := Lib.hid hr
        have i1 : ¬ (k : Int) < (N : Int) := by omega
        clear hr hall hk2
        go_wp2_with fail
        go_ret
        exact ⟨ret_bool hr2.out.symm, Bw⟩

set_option maxRecDepth 100000 in
set_option maxHeartbeats 1000000 in
theorem Ints_any (va vb : Value) (A B : List Int) (w : World) (ha : SI w va A) (hb : SI w vb B) (hAl : A.length ≤ 1000000000000) (_ : B.length ≤ 140737488351232) :
    Calls Tryd.prog 26 #[va, vb] w fun e w' => e = .returned (.bool (decide (A = B))) ∧ Below w.heap.size w w' := by
  have cellA := Lib.hid (show ∀ (k : Nat) (hk : k < A.length), _ from fun k hk => SI.at ha k hk)
  have cellB := Lib.hid (show ∀ (k : Nat) (hk : k < B.length), _ from fun k hk => SI.at hb k hk)
  obtain ⟨a1, N, c1, rfl, hN⟩ := ha.shape'
  obtain ⟨a2, M, c2, rfl, hM⟩ := hb.shape'
  clear ha hb
  by_cases hlen : N = M
  rotate_left
  · have hr : Hid (false = decide (A = B)) := by
      show _ = _
      symm
      rw [decide_eq_false_iff_not]; exact fun e => hlen (by rw [hN.out, hM.out, e])
    generalize decide (A = B) = r at *
    have t0 : ((N : Int) != (M : Int)) = true := by rw [bne_iff_ne]; omega
    have t0n : ((N : Int) == (M : Int)) = false := by rw [beq_eq_false_iff_ne]; omega
    clear hlen cellA cellB
    go_enter Tryd.func26, Tryd.ntmps26
    go_wp2_with fail
    go_ret
    exact ⟨ret_bool hr.out, Below.refl _ _⟩
  · subst hlen
    rw [← hN.out] at hAl
    go_enter Tryd.func26, Tryd.ntmps26
    go_wp2_with fail
    go_loopw [5] (fun i wr => ∃ k : Nat, k ≤ N ∧ i = .int .i64 k ∧ Hid (A.take k = B.take k) ∧ Below w.heap.size w wr) (fun i _ => N - (intOf i).toNat)
    case atStart => exact ⟨0, by omega, rfl, rfl, Below.refl _ _⟩
    case round =>
      obtain ⟨k, hk, rfl, hall, Bw⟩ := hrel
      by_cases hlt : k < N
      · have hkA : k < A.length := by rw [← hN.out]; exact hlt
        have hkB : k < B.length := by rw [← hM.out]; exact hlt
        obtain ⟨p1, p2, p3, he, g1⟩ := cellA.out k hkA
        injection he with he1 he2 he3
        subst he1
        obtain ⟨r1, r2, r3, he, g2⟩ := cellB.out k hkB
        injection he with he4 he5 he6
        subst he4
        have q1 := g1 wr Bw
        have q2 := g2 wr Bw
        clear he2 he3 he5 he6 g1 g2
        have i0 : (0 : Int) ≤ (k : Int) := by omega
        have i1 : (k : Int) < (N : Int) := by omega
        by_cases hxy : A[k] = B[k]
        · have hnew : Hid (A.take (k + 1) = B.take (k + 1)) := by
            show _ = _
            rw [List.take_succ_eq_append_getElem hkA, List.take_succ_eq_append_getElem hkB, hall.out, hxy]
          rw [← hxy] at q2
          clear hxy hall
          generalize A[k] = x at *
          have c0 := q1
          have d0 := q2
          skip
          go_wp2_with fail
          go_quiet (fail)
          go_wp2_with fail
          go_roundw
          case rel => exact ⟨k + 1, by omega, by go_num, hnew, below_drewN Bw _⟩
          case measure => simp [intOf]; omega
        · have hr : decide (A = B) = false := by
            rw [decide_eq_false_iff_not]
            intro e
            subst e
            exact hxy rfl
          have hr2 := Lib.hid hr
          generalize A[k] = x at *
          generalize B[k] = y at *
          have hne : (x == y) = false := by simpa using hxy
          have hne2 : (x != y) = true := by simpa using hxy
          clear hxy hr hall
          have c0 := q1
          have d0 := q2
          go_wp2_with fail
          go_quiet (fail)
          go_wp2_with fail
          go_ret
          exact ⟨ret_bool hr2.out.symm, below_drewN Bw _⟩
      · have hk2 : k = N := by omega
        have hr : decide (A = B) = true := by
          have h := hall.out
          rw [List.take_of_length_le (by rw [hk2, ← hN.out]; exact Nat.le_refl _), List.take_of_length_le (by rw [hk2, ← hM.out]; exact Nat.le_refl _)] at h
          simpa using h
        have hr2 := Lib.hid hr
        have i1 : ¬ (k : Int) < (N : Int) := by omega
        clear hr hall hk2
        go_wp2_with fail
        go_ret
        exact ⟨ret_bool hr2.out.symm, Bw⟩
end Go.Proofs.YtegahpfmkepfmaaDoor
