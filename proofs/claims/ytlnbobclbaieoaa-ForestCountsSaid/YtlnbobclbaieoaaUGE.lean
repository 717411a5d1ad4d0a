/- Contracts and facts. -/
import Derived.Deep.LoopGhost
import Derived.Handy
import Derived.WalkMore
import Derived.BigRegion
import Derived.Laws.EntriesVeiled
import Derived.Test.YtlnbobclbaieoaaUFX
set_option linter.unusedSimpArgs false
set_option maxRecDepth 100000
set_option maxHeartbeats 4000000
namespace Go.Proofs.Ytlnbobclbaieoaa
open Go.RowKit
theorem NL.cells {w : World} {a : Option Addr} {c : Nat} {L : List Nm} (h : NL w (.slice a L.length c) L) : ∀ (k : Nat) (_ : k < L.length), ∃ b o lv, a = some ⟨b, o, none⟩ ∧ ∀ W, Below w.heap.size w W → W.cell? ⟨b, o + k * 2, none⟩ = some (.int .i64 L[k].1) ∧ W.cell? ⟨b, o + k * 2 + 1, none⟩ = some lv ∧ DL W lv L[k].2 := fun k hk => by
  rcases h with ⟨rfl, _⟩ | ⟨_, b, o, c', e, _, hb, hc⟩
  · simp at hk
  · injection e with e1 _ _
    obtain ⟨k1, lv, k2, k3⟩ := hc k _ (List.getElem?_eq_getElem hk)
    exact ⟨b, o, lv, e1, fun W B => ⟨(B.cell (p := ⟨b, o + k * 2, none⟩) hb).trans k1, (B.cell (p := ⟨b, o + k * 2 + 1, none⟩) hb).trans k2, k3.below B⟩⟩
set_option maxRecDepth 100000 in
theorem SameLabels_any (va vb : Value) (A B : List Nm) (w : World) (ha : NL w va A) (hb : NL w vb B) (hAl : A.length ≤ 1000000) (hAx : ∀ x ∈ A, x.2.length ≤ 1000000) (hBx : ∀ x ∈ B, x.2.length ≤ 1000000) :
    Calls Try.prog 23 #[va, vb] w fun e w' => e = .returned (.bool (decide (A = B))) ∧ Below w.heap.size w w' := by
  obtain ⟨a1, a2, rfl⟩ := ha.shape
  obtain ⟨b1, b2, rfl⟩ := hb.shape
  by_cases hlen : A.length = B.length
  · obtain ⟨R, hR⟩ : ∃ R, Hid (decide (A = B) = R) := ⟨_, rfl⟩
    rw [hR.out]
    have cA := Lib.hid ha.cells
    have cB := Lib.hid hb.cells
    have hdrop : Hid (∀ k (h : k < A.length) (h2 : k < B.length), decide (A.drop k = B.drop k) = (decide (A[k].1 = B[k].1) && (decide (A[k].2 = B[k].2) && decide (A.drop (k + 1) = B.drop (k + 1))))) := fun k h h2 => by
      rw [List.drop_eq_getElem_cons h, List.drop_eq_getElem_cons h2]
      rw [← Bool.decide_and, ← Bool.decide_and]
      apply decide_eq_decide.2
      rw [List.cons.injEq, Prod.ext_iff, and_assoc]
    obtain ⟨N, hN⟩ : ∃ N, Hid (N = A.length) := ⟨_, rfl⟩
    have hNB : Hid (N = B.length) := by show _ = _; rw [hN.out]; exact hlen
    have hint := Lib.hid (fun (x y : Value) (l1 l2 : List Int) W (q1 : DL W x l1) (q2 : DL W y l2) (p1 : l1.length ≤ 1000000) (p2 : l2.length ≤ 1000000) => Ints_any x y l1 l2 W q1 q2 (by omega) (by omega))
    have hax := Lib.hid hAx
    have hbx := Lib.hid hBx
    rw [← hN.out] at hAl
    rw [show A.length = N from hN.out.symm, show B.length = N from hNB.out.symm]
    clear ha hb hlen hAx hBx
    go_enter Try.func23, Try.ntmps23
    go_wp2_with fail
    go_loopg [5] N (fun m iv wr => ∃ k : Nat, k + m = N ∧ iv = .int .i64 k ∧ decide (A.drop k = B.drop k) = R ∧ Below w.heap.size w wr)
    case atStart => exact ⟨0, by omega, rfl, by rw [List.drop_zero, List.drop_zero]; exact hR.out, Below.refl _ _⟩
    case round =>
      obtain ⟨k, hk, rfl, hd, Bw⟩ := hrel
      obtain ⟨wo, rfl⟩ : ∃ x, x = wr := ⟨_, rfl⟩
      cases gk with
      | zero =>
        have hk2 : k = N := by omega
        have i1 : ¬ (k : Int) < (N : Int) := by omega
        have hr : Hid (R = true) := by
          show _ = _
          rw [← hd, List.drop_of_length_le (by rw [hk2, hN.out]; exact Nat.le_refl _), List.drop_of_length_le (by rw [hk2, hNB.out]; exact Nat.le_refl _)]; rfl
        clear hd hk2
        go_wp2_with fail
        go_ret
        exact ⟨by rw [hr.out]; rfl, Bw⟩
      | succ ga =>
        have hlt : k < N := by omega
        have hkA : k < A.length := by rw [← hN.out]; exact hlt
        have hkB : k < B.length := by rw [← hNB.out]; exact hlt
        obtain ⟨bv, ov, lv, rfl, cv⟩ := cA.out k hkA
        obtain ⟨bu, ou, lu, rfl, cu⟩ := cB.out k hkB
        have i0 : (0 : Int) ≤ (k : Int) := by omega
        have i1 : (k : Int) < (N : Int) := by omega
        have hle : Hid (k + 1 + ga = N) := by show _ = _; omega
        have hst := hdrop.out k hkA hkB
        rw [hd] at hst
        have pA := hax.out _ (List.getElem_mem hkA)
        have pB := hbx.out _ (List.getElem_mem hkB)
        have hI := Lib.hid (fun W (q : Below w.heap.size w W) => hint.out lv lu _ _ W (cv W q).2.2 (cu W q).2.2 pA pB)
        have hcell := Lib.hid (fun W (q : Below wo.heap.size wo W) => (show W.cell? ⟨bv, ov + k * 2, none⟩ = some (.int .i64 A[k].1) ∧ W.cell? ⟨bv, ov + k * 2 + 1, none⟩ = some lv ∧ W.cell? ⟨bu, ou + k * 2, none⟩ = some (.int .i64 B[k].1) ∧ W.cell? ⟨bu, ou + k * 2 + 1, none⟩ = some lu from
          have qq := Bw.trans (q.mono Bw.size)
          ⟨(cv W qq).1, (cv W qq).2.1, (cu W qq).1, (cu W qq).2.1⟩))
        have hI2 := Lib.hid (fun W (q : Below wo.heap.size wo W) => hI.out W (Bw.trans (q.mono Bw.size)))
        obtain ⟨D, hD⟩ : ∃ D, Hid (decide (A.drop (k + 1) = B.drop (k + 1)) = D) := ⟨_, rfl⟩
        rw [hD.out] at hst
        have hBw := Lib.hid (fun W (q : Below wo.heap.size wo W) => Bw.trans (q.mono Bw.size))
        clear hd hk cv cu pA pB hI hlt Bw
        generalize A[k].1 = x1 at *
        generalize B[k].1 = y1 at *
        generalize A[k].2 = x2 at *
        generalize B[k].2 = y2 at *
        obtain ⟨bb, hbb⟩ : ∃ bb, Hid (decide (x2 = y2) = bb) := ⟨_, rfl⟩
        rw [hbb.out] at hst hI2
        replace hst := Lib.hid hst
        by_cases s1 : x1 = y1
        · have t1 : (x1 != y1) = false := by simpa using s1
          go_upto_region 6 with (fail)
          refine q_region (fun W => Below wo.heap.size wo W) (by kernel_rfl) (by kernel_rfl) ((Below.refl _ wo).drew) ?_
          repeat (first | (refine q_skip (by rfl) ?_; try simp only [Act.put, zT, z0, zS]) | (refine q_take (v := ?_) (by rfl) ?_ ?_; rotate_left; (first | ((intro w h; clear h; go_simp) <;> with_reducible rfl) | ((intro w h; obtain ⟨e0, e1, e2, e3⟩ := hcell.out w h; clear h; go_simp) <;> with_reducible rfl)); try simp only [Act.put, zT, z0, zS]))
          refine q_call (v := _) Try.f27 (by rfl) rfl Try.func27 (by kernel_rfl) (by kernel_rfl) #[lv, lu] (by simp [Act.eval]) (fun w h => (hI2.out w h).mono fun e w3 ⟨he, hb⟩ => ⟨he, h.trans (hb.mono h.size)⟩) ?_; try simp only [Act.put, zT, z0, zS]
          repeat (first | (refine q_skip (by rfl) ?_; try simp only [Act.put, zT, z0, zS]) | (refine q_take (v := ?_) (by rfl) ?_ ?_; rotate_left; (first | ((intro w h; clear h; go_simp) <;> with_reducible rfl) | ((intro w h; obtain ⟨e0, e1, e2, e3⟩ := hcell.out w h; clear h; go_simp) <;> with_reducible rfl)); try simp only [Act.put, zT, z0, zS]))
          refine q_nil ?_
          intro w3 B3
          have B4 := Lib.hid (hBw.out w3 B3)
          cases bb with
          | true =>
            have hr : Hid (D = R) := by show _ = _; rw [hst.out]; simp [s1]
            clear hst
            go_wp2_with fail
            go_roundg ga
            case measure => omega
            case rel => exact ⟨k + 1, hle.out, by go_num, by rw [hD.out]; exact hr.out, B4.out⟩
          | false =>
            have hr : Hid (R = false) := by show _ = _; rw [hst.out]; simp
            clear hst
            go_wp2_with fail
            go_ret
            exact ⟨by rw [hr.out]; rfl, B4.out⟩
        · have t1 : (x1 != y1) = true := by simpa using s1
          have hr : Hid (R = false) := by show _ = _; rw [hst.out]; simp [s1]
          clear hst
          go_upto_region 6 with (fail)
          refine q_region (fun W => Below wo.heap.size wo W) (by kernel_rfl) (by kernel_rfl) ((Below.refl _ wo).drew) ?_
          repeat (first | (refine q_skip (by rfl) ?_; try simp only [Act.put, zT, z0, zS]) | (refine q_take (v := ?_) (by rfl) ?_ ?_; rotate_left; (first | ((intro w h; clear h; go_simp) <;> with_reducible rfl) | ((intro w h; obtain ⟨e0, e1, e2, e3⟩ := hcell.out w h; clear h; go_simp) <;> with_reducible rfl)); try simp only [Act.put, zT, z0, zS]))
          refine q_nil ?_
          intro w3 B3
          have B4 := Lib.hid (hBw.out w3 B3)
          go_wp2_with fail
          go_ret
          exact ⟨by rw [hr.out]; rfl, B4.out⟩
  · have hr : decide (A = B) = false := by rw [decide_eq_false_iff_not]; exact fun e => hlen (by rw [e])
    have hz : ¬ (A.length : Int) = (B.length : Int) := by omega
    go_enter Try.func23, Try.ntmps23
    go_wp2_with fail
    go_ret
    exact ⟨by rw [hr]; rfl, Below.refl _ _⟩

end Go.Proofs.Ytlnbobclbaieoaa
