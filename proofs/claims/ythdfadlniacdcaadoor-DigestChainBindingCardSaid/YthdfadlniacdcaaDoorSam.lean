import Derived.Test.YthdfadlniacdcaaDoorWay
import Derived.Test.YthdfadlniacdcaaDoorCol
namespace Go.Proofs.YthdfadlniacdcaaDoor
open Go.RowKit

set_option maxRecDepth 100000 in
set_option maxHeartbeats 1000000 in
theorem same_any (va vb : Value) (A B : List Str) (w : World) (ha : SL w va A) (hb : SL w vb B) (hAl : A.length ≤ 1000) (hBl : B.length ≤ 1000) :
    Calls Tryd.prog 26 #[va, vb] w fun e w' => e = .returned (.bool (A == B)) ∧ Below w.heap.size w w' := by
  by_cases hlen : A.length = B.length
  rotate_left
  · have hr : (A == B) = false := by rw [beq_eq_false_iff_ne]; exact fun e => hlen (by rw [e])
    rw [hr]
    obtain ⟨a1, c1, rfl⟩ := ha.shape
    obtain ⟨a2, c2, rfl⟩ := hb.shape
    clear ha hb hr
    generalize A.length = N at *
    generalize B.length = M at *
    have t0 : ((N : Int) == (M : Int)) = false := by rw [beq_eq_false_iff_ne]; omega
    go_enter Tryd.func26, Tryd.ntmps26
    go_wp2_with fail
    go_ret
    exact ⟨rfl, Below.refl _ _⟩
  by_cases h0 : A = []
  · subst h0
    obtain rfl : B = [] := List.length_eq_zero_iff.1 hlen.symm
    obtain ⟨a1, c1, rfl⟩ := ha.shape
    obtain ⟨a2, c2, rfl⟩ := hb.shape
    clear ha hb
    go_enter Tryd.func26, Tryd.ntmps26
    go_wp2_with fail
    go_loop [5] (fun i => i = .int .i64 0) (fun _ => 0)
    case atStart => rfl
    case round =>
      obtain rfl := hrel
      go_wp2_with fail
      go_ret
      exact ⟨rfl, Below.refl _ _⟩
  · have h0B : B ≠ [] := fun e => by rw [e] at hlen; exact h0 (List.length_eq_zero_iff.1 hlen)
    obtain ⟨b1, o1, k1, rfl, e1, e2, e3⟩ := ha.own h0
    obtain ⟨b2, o2, k2, rfl, f1, f2, f3⟩ := hb.own h0B
    rw [← hlen] at f1 ⊢
    have cellA := Lib.hid (fun (k : Nat) (hk : k < A.length) w' (B : Below w.heap.size w w') => ((B.cell (p := ⟨b1, o1 + k, none⟩) e2).trans (e3 k _ (List.getElem?_eq_getElem hk))))
    have cellB := Lib.hid (fun (k : Nat) (hk : k < B.length) w' (B : Below w.heap.size w w') => ((B.cell (p := ⟨b2, o2 + k, none⟩) f2).trans (f3 k _ (List.getElem?_eq_getElem hk))))
    clear ha hb e3 f3 h0 h0B hBl
    obtain ⟨N, hN, hM⟩ : ∃ N, Hid (N = A.length) ∧ Hid (N = B.length) := ⟨_, rfl, hlen⟩
    clear hlen
    rw [← hN.out] at hAl e1 f1 ⊢
    go_enter Tryd.func26, Tryd.ntmps26
    go_wp2_with fail
    go_loopw [5] (fun iv wr => ∃ k : Nat, k ≤ N ∧ iv = .int .i64 k ∧ Hid (A.take k = B.take k) ∧ Below w.heap.size w wr) (fun iv _ => N - (intOf iv).toNat)
    case atStart => exact ⟨0, by omega, rfl, rfl, Below.refl _ _⟩
    case round =>
      obtain ⟨k, hk, rfl, hall, Bw⟩ := hrel
      by_cases hlt : k < N
      · have hkA : k < A.length := by rw [← hN.out]; exact hlt
        have hkB : k < B.length := by rw [← hM.out]; exact hlt
        have q1 := cellA.out k hkA wr Bw
        have q2 := cellB.out k hkB wr Bw
        have i0 : (0 : Int) ≤ (k : Int) := by omega
        have i1 : (k : Int) < (N : Int) := by omega
        by_cases hxy : A[k] = B[k]
        · have hnew : Hid (A.take (k + 1) = B.take (k + 1)) := by
            unfold Hid
            rw [List.take_succ_eq_append_getElem hkA, List.take_succ_eq_append_getElem hkB, hall.out, hxy]
          rw [← hxy] at q2
          clear hxy hall
          generalize A[k] = x at *
          go_wp2_with fail
          go_quiet (fail)
          go_wp2_with fail
          go_roundw
          case rel => exact ⟨k + 1, by omega, by go_num, hnew, below_drewN Bw _⟩
          case measure => simp [intOf]; omega
        · have hr : (A == B) = false := by
            rw [beq_eq_false_iff_ne]
            intro e
            subst e
            exact hxy rfl
          have hne : (A[k] == B[k]) = false := by simpa using hxy
          have hr2 := Lib.hid hr
          clear hxy hr hall
          generalize A[k] = x at *
          generalize B[k] = y at *
          go_wp2_with fail
          go_quiet (fail)
          go_wp2_with fail
          go_ret
          exact ⟨ret_bool hr2.out.symm, below_drewN Bw _⟩
      · obtain rfl : k = N := by omega
        have hr : (A == B) = true := by
          have h := hall.out
          rw [List.take_of_length_le (by rw [← hN.out]; omega), List.take_of_length_le (by rw [← hM.out]; omega)] at h
          simpa using h
        have hr2 := Lib.hid hr
        clear hr hall
        go_wp2_with fail
        go_ret
        exact ⟨ret_bool hr2.out.symm, Bw⟩
end Go.Proofs.YthdfadlniacdcaaDoor
