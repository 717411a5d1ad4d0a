/- Contracts and facts. -/
import Derived.Deep.LoopGhost
import Derived.Handy
import Derived.WalkMore
import Derived.BigRegion
import Derived.Laws.EntriesVeiled
import Derived.Test.YthmkmjkbfjhffaaVFX
set_option linter.unusedSimpArgs false
set_option maxRecDepth 100000
set_option maxHeartbeats 4000000
namespace Go.Proofs.Ythmkmjkbfjhffaa
open Go.RowKit
theorem NL.cells {w : World} {a : Option Addr} {c : Nat} {L : List Nm} (h : NL w (.slice a L.length c) L) : ∀ (k : Nat) (_ : k < L.length), ∃ b o lv, a = some ⟨b, o, none⟩ ∧ ∀ W, Below w.heap.size w W → W.cell? ⟨b, o + k * 2, none⟩ = some (.int .i64 L[k].1) ∧ W.cell? ⟨b, o + k * 2 + 1, none⟩ = some lv ∧ DL W lv L[k].2 := fun k hk => by
  rcases h with ⟨rfl, _⟩ | ⟨_, b, o, c', e, _, hb, hc⟩
  · simp at hk
  · injection e with e1 _ _
    obtain ⟨k1, lv, k2, k3⟩ := hc k _ (List.getElem?_eq_getElem hk)
    exact ⟨b, o, lv, e1, fun W B => ⟨(B.cell (p := ⟨b, o + k * 2, none⟩) hb).trans k1, (B.cell (p := ⟨b, o + k * 2 + 1, none⟩) hb).trans k2, k3.below B⟩⟩
set_option maxRecDepth 100000 in
theorem SameLabels_any (va vb : Value) (A B : List Nm) (w : World) (ha : NL w va A) (hb : NL w vb B) (hAl : A.length ≤ 1000000) (hAx : ∀ x ∈ A, x.2.length ≤ 1000000) (hBx : ∀ x ∈ B, x.2.length ≤ 1000000) :
    Calls Try.prog 23 #[va, vb] w fun e w' => e = .returned (.bool (decide (A = B))) ∧ Below w.heap.size w w' := by
  obtain ⟨a1, a2, rfl⟩ := ha.shape
  obtain ⟨b1, b2, rfl⟩ := hb.shape
  by_cases hlen : A.length = B.length
  · obtain ⟨R, hR⟩ : ∃ R, Hid (decide (A = B) = R) := ⟨_, rfl⟩
    rw [hR.out]
    have cA := Lib.hid ha.cells
    have cB := Lib.hid hb.cells
    have hdrop : Hid (∀ k (h : k < A.length) (h2 : k < B.length), decide (A.drop k = B.drop k) = (decide (A[k].1 = B[k].1) && (decide (A[k].2 = B[k].2) && decide (A.drop (k + 1) = B.drop (k + 1))))) := fun k h h2 => by
      rw [List.drop_eq_getElem_cons h, List.drop_eq_getElem_cons h2]
      rw [← Bool.decide_and, ← Bool.decide_and]
      apply decide_eq_decide.2
      rw [List.cons.injEq, Prod.ext_iff, and_assoc]
    obtain ⟨N, hN⟩ : ∃ N, Hid (N = A.length) := ⟨_, rfl⟩
    have hNB : Hid (N = B.length) := by show _ = _; rw [hN.out]; exact hlen
    have hint := Lib.hid (fun (x y : Value) (l1 l2 : List Int) W (q1 : DL W x l1) (q2 : DL W y l2) (p1 : l1.length ≤ 1000000) (p2 : l2.length ≤ 1000000) => Ints_any x y l1 l2 W q1 q2 (by omega) (by omega))
    have hax := Lib.hid hAx
    have hbx := Lib.hid hBx
    rw [← hN.out] at hAl
    rw [show A.length = N from hN.out.symm, show B.length = N from hNB.out.symm]
    clear ha hb hlen hAx hBx
    go_enter Try.func23, Try.ntmps23
    go_wp2_with fail
    go_loopg [5] N (fun m iv wr => ∃ k : Nat, k + m = N ∧ iv = .int .i64 k ∧ decide (A.drop k = B.drop k) = R ∧ Below w.heap.size w wr)
    case atStart => exact ⟨0, by omega, rfl, by rw [List.drop_zero, List.drop_zero]; exact hR.out, Below.refl _ _⟩
    case round =>
      obtain ⟨k, hk, rfl, hd, Bw⟩ := hrel
      obtain ⟨wo, rfl⟩ : ∃ x, x = wr := ⟨_, rfl⟩
      cases gk with
      | zero =>
        have hk2 : k = N := by omega
        have i1 : ¬ (k : Int) < (N : Int) := by omega
        have hr : Hid (R = true) := by
          show _ = _
          rw [← hd, List.drop_of_length_le (by rw [hk2, hN.out]; exact Nat.le_refl _), List.drop_of_length_le (by rw [hk2, hNB.out]; exact Nat.le_refl _)]; rfl
        clear hd hk2
        go_wp2_with fail
        go_ret
        exact ⟨by rw [hr.out]; rfl, Bw⟩
      | succ ga =>
        have hlt : k < N := by omega
        have hkA : k < A.length := by rw [← hN.out]; exact hlt
        have hkB : k < B.length := by rw [← hNB.out]; exact hlt
        obtain ⟨bv, ov, lv, rfl, cv⟩ := cA.out k hkA
        obtain ⟨bu, ou, lu, rfl, cu⟩ := cB.out k hkB
        have i0 : (0 : Int) ≤ (k : Int) := by omega
        have i1 : (k : Int) < (N : Int) := by omega
        have hle : Hid (k + 1 + ga = N) := by show _ = _; omega
        have hst := hdrop.out k hkA hkB
        rw [hd] at hst
        have pA := hax.out _ (List.getElem_mem hkA)
        have pB := hbx.out _ (List.getElem_mem hkB)
        have hI := Lib.hid (fun W (q : Below w.heap.size w W) => hint.out lv lu _ _ W (cv W q).2.2 (cu W q).2.2 pA pB)
        have hcell := Lib.hid (fun W (q : Below wo.heap.size wo W) => (show W.cell? ⟨bv, ov + k * 2, none⟩ = some (.int .i64 A[k].1) ∧ W.cell? ⟨bv, ov + k * 2 + 1, none⟩ = some lv ∧ W.cell? ⟨bu, ou + k * 2, none⟩ = some (.int .i64 B[k].1) ∧ W.cell? ⟨bu, ou + k * 2 + 1, none⟩ = some lu from
          have qq := Bw.trans (q.mono Bw.size)
          ⟨(cv W qq).1, (cv W qq).2.1, (cu W qq).1, (cu W qq).2.1⟩))
        have hI2 := Lib.hid (fun W (q : Below wo.heap.size wo W) => hI.out W (Bw.trans (q.mono Bw.size)))
        obtain ⟨D, hD⟩ : ∃ D, Hid (decide (A.drop (k + 1) = B.drop (k + 1)) = D) := ⟨_, rfl⟩
        rw [hD.out] at hst
        have hBw := Lib.hid (fun W (q : Below wo.heap.size wo W) => Bw.trans (q.mono Bw.size))
        clear hd hk cv cu pA pB hI hlt Bw
        generalize A[k].1 = x1 at *
        generalize B[k].1 = y1 at *
        generalize A[k].2 = x2 at *
        generalize B[k].2 = y2 at *
        obtain ⟨bb, hbb⟩ : ∃ bb, Hid (decide (x2 = y2) = bb) := ⟨_, rfl⟩
        rw [hbb.out] at hst hI2
        replace hst := Lib.hid hst
        by_cases s1 : x1 = y1
        · have t1 : (x1 != y1) = false := by simpa using s1
          go_upto_region 6 with (fail)
          refine q_region (fun W => Below wo.heap.size wo W) (by kernel_rfl) (by kernel_rfl) ((Below.refl _ wo).drew) ?_
          repeat (first | (refine q_skip (by rfl) ?_; try simp only [Act.put, zT, z0, zS]) | (refine q_take (v := ?_) (by rfl) ?_ ?_; rotate_left; (first | ((intro w h; clear h; go_simp) <;> with_reducible rfl) | ((intro w h; obtain ⟨e0, e1, e2, e3⟩ := hcell.out w h; clear h; go_simp) <;> with_reducible rfl)); try simp only [Act.put, zT, z0, zS]))
          refine q_call (v := _) Try.f25 (by rfl) rfl Try.func25 (by kernel_rfl) (by kernel_rfl) #[lv, lu] (by simp [Act.eval]) (fun w h => (hI2.out w h).mono fun e w3 ⟨he, hb⟩ => ⟨he, h.trans (hb.mono h.size)⟩) ?_; try simp only [Act.put, zT, z0, zS]
          repeat (first | (refine q_skip (by rfl) ?_; try simp only [Act.put, zT, z0, zS]) | (refine q_take (v := ?_) (by rfl) ?_ ?_; rotate_left; (first | ((intro w h; clear h; go_simp) <;> with_reducible rfl) | ((intro w h; obtain ⟨e0, e1, e2, e3⟩ := hcell.out w h; clear h; go_simp) <;> with_reducible rfl)); try simp only [Act.put, zT, z0, zS]))
          refine q_nil ?_
          intro w3 B3
          have B4 := Lib.hid (hBw.out w3 B3)
          cases bb with
          | true =>
            have hr : Hid (D = R) := by show _ = _; rw [hst.out]; simp [s1]
            clear hst
            go_wp2_with fail
            go_roundg ga
            case measure => omega
            case rel => exact ⟨k + 1, hle.out, by go_num, by rw [hD.out]; exact hr.out, B4.out⟩
          | false =>
            have hr : Hid (R = false) := by show _ = _; rw [hst.out]; simp
            clear hst
            go_wp2_with fail
            go_ret
            exact ⟨by rw [hr.out]; rfl, B4.out⟩
        · have t1 : (x1 != y1) = true := by simpa using s1
          have hr : Hid (R = false) := by show _ = _; rw [hst.out]; simp [s1]
          clear hst
          go_upto_region 6 with (fail)
          refine q_region (fun W => Below wo.heap.size wo W) (by kernel_rfl) (by kernel_rfl) ((Below.refl _ wo).drew) ?_
          repeat (first | (refine q_skip (by rfl) ?_; try simp only [Act.put, zT, z0, zS]) | (refine q_take (v := ?_) (by rfl) ?_ ?_; rotate_left; (first | ((intro w h; clear h; go_simp) <;> with_reducible rfl) | ((intro w h; obtain ⟨e0, e1, e2, e3⟩ := hcell.out w h; clear h; go_simp) <;> with_reducible rfl)); try simp only [Act.put, zT, z0, zS]))
          refine q_nil ?_
          intro w3 B3
          have B4 := Lib.hid (hBw.out w3 B3)
          go_wp2_with fail
          go_ret
          exact ⟨by rw [hr.out]; rfl, B4.out⟩
  · have hr : decide (A = B) = false := by rw [decide_eq_false_iff_not]; exact fun e => hlen (by rw [e])
    have hz : ¬ (A.length : Int) = (B.length : Int) := by omega
    go_enter Try.func23, Try.ntmps23
    go_wp2_with fail
    go_ret
    exact ⟨by rw [hr]; rfl, Below.refl _ _⟩

end Go.Proofs.Ythmkmjkbfjhffaa
/- Contracts and facts. -/
set_option linter.unusedSimpArgs false
set_option maxRecDepth 100000
set_option maxHeartbeats 4000000
namespace Go.Proofs.Ythmkmjkbfjhffaa
open Go.RowKit
theorem pick59_any (c n : Int) (w : World) (h1 : -9223372036854775808 ≤ c) (h2 : c ≤ 9223372036854775807) (h3 : 1 ≤ n) (h4 : n ≤ 9223372036854775807) :
    Calls Try.prog 44 #[.int .i64 c, .int .i64 n] w fun e w' => e = .returned (.int .i64 (pk c n)) ∧ w = w' := by
  by_cases h : c < 0
  · go_enter Try.func44, Try.ntmps44
    go_wp2
    go_ret
    exact ⟨ret_int (by rw [pk, if_pos h, ← Int.neg_tmod]; exact Int.tmod_eq_emod_of_nonneg (by omega)), rfl⟩
  · go_enter Try.func44, Try.ntmps44
    go_wp2
    go_ret
    exact ⟨ret_int (by rw [pk, if_neg (by omega)]), rfl⟩
theorem pick9_any (c n : Int) (w : World) (h1 : -9223372036854775808 ≤ c) (h2 : c ≤ 9223372036854775807) (h3 : 1 ≤ n) (h4 : n ≤ 9223372036854775807) :
    Calls Try.prog 9 #[.int .i64 c, .int .i64 n] w fun e w' => e = .returned (.int .i64 (pk c n)) ∧ w = w' := by
  by_cases h : c < 0
  · go_enter Try.func9, Try.ntmps9
    go_wp2
    go_ret
    exact ⟨ret_int (by rw [pk, if_pos h, ← Int.neg_tmod]; exact Int.tmod_eq_emod_of_nonneg (by omega)), rfl⟩
  · go_enter Try.func9, Try.ntmps9
    go_wp2
    go_ret
    exact ⟨ret_int (by rw [pk, if_neg (by omega)]), rfl⟩
theorem OtherR_any (e : Ed) (i : Int) (w : World) :
    Calls Try.prog 42 #[e.val, .int .i64 i] w fun r w' => r = .returned (.int .i64 (otherI e i)) ∧ Below w.heap.size w w' := by
  have B1 : Below w.heap.size w (w.alloc (.cells (edCells e) 40)) := (Below.refl _ w).alloc (Nat.le_refl _) _
  have hE0 : EdAt (w.alloc (.cells (edCells e) 40)) w.heap.size 0 e := EdAt.box w e 40
  obtain ⟨d0, d1, d2, d3, d4, d5⟩ := hE0
  simp only [Nat.zero_add] at d0 d1 d2 d3 d4 d5
  unfold edCells at d0 d1 d2 d3 d4 d5 B1
  unfold Ed.val
  by_cases h1 : e.src = i
  · have hr : otherI e i = e.dst := by unfold otherI; rw [if_pos h1]
    go_enter Try.func42, Try.ntmps42
    go_wp2_with fail
    go_ret
    exact ⟨ret_int hr.symm, (Below.refl _ w).alloc (Nat.le_refl _) _⟩
  · by_cases h2 : e.dst = i
    · have hr : otherI e i = e.src := by unfold otherI; rw [if_neg h1, if_pos h2]
      go_enter Try.func42, Try.ntmps42
      go_wp2_with fail
      go_ret
      exact ⟨ret_int hr.symm, (Below.refl _ w).alloc (Nat.le_refl _) _⟩
    · have hr : otherI e i = -1 := by unfold otherI; rw [if_neg h1, if_neg h2]
      go_enter Try.func42, Try.ntmps42
      go_wp2_with fail
      go_ret
      exact ⟨ret_int hr.symm, (Below.refl _ w).alloc (Nat.le_refl _) _⟩
def exG : Gr := ⟨[⟨0, 0⟩, ⟨1, 0⟩, ⟨2, 0⟩, ⟨3, 0⟩, ⟨5, 0⟩], [⟨0, 2, 1, false, 0, 0⟩, ⟨4, 1, 3, false, 0, 0⟩, ⟨6, 3, 2, false, 0, 0⟩, ⟨7, 5, 5, false, 0, 0⟩], []⟩
theorem three_alloc (w : World) (A B C : Obj) : (((w.alloc A).alloc B).alloc C).heap[w.heap.size]? = some A ∧ (((w.alloc A).alloc B).alloc C).heap[w.heap.size + 1]? = some B ∧ (((w.alloc A).alloc B).alloc C).heap[w.heap.size + 1 + 1]? = some C ∧ (((w.alloc A).alloc B).alloc C).heap.size = w.heap.size + 3 ∧ Below w.heap.size w (((w.alloc A).alloc B).alloc C) := by
  have s1 : (w.alloc A).heap.size = w.heap.size + 1 := by simp
  have s2 : ((w.alloc A).alloc B).heap.size = w.heap.size + 1 + 1 := by simp
  have a := World.alloc_heap_new w A
  have b := World.alloc_heap_new (w.alloc A) B
  have c := World.alloc_heap_new ((w.alloc A).alloc B) C
  rw [s1] at b
  rw [s2] at c
  refine ⟨((Below.heap_alloc _ C _ (by omega)).trans (Below.heap_alloc _ B _ (by omega))).trans a, (Below.heap_alloc _ C _ (by omega)).trans b, c, by simp, (((Below.refl _ w).alloc (Nat.le_refl _) _).alloc (by omega) _).alloc (by omega) _⟩
theorem exG_at {W : World} {p q : Nat} (hp : W.heap[p]? = some (.cells #[.int .i64 0, .int .i64 0, .int .i64 1, .int .i64 0, .int .i64 2, .int .i64 0, .int .i64 3, .int .i64 0, .int .i64 5, .int .i64 0] 31 (0, 0)))
    (hq : W.heap[q]? = some (.cells #[.int .i64 0, .int .i64 2, .int .i64 1, .bool false, .int .i64 0, .int .i64 0, .int .i64 4, .int .i64 1, .int .i64 3, .bool false, .int .i64 0, .int .i64 0, .int .i64 6, .int .i64 3, .int .i64 2, .bool false, .int .i64 0, .int .i64 0, .int .i64 7, .int .i64 5, .int .i64 5, .bool false, .int .i64 0, .int .i64 0] 40 (0, 0))) :
    GV W (.agg #[.slice (some ⟨p, 0, none⟩) 5 5, .slice (some ⟨q, 0, none⟩) 4 4, .slice none 0 0]) exG := by
  refine ⟨_, _, _, rfl, .inr ⟨by unfold exG; simp, p, 0, 5, rfl, by unfold exG; simp, (Array.getElem?_eq_some_iff.1 hp).1, fun j v hj => ?_⟩, .inr ⟨by unfold exG; simp, q, 0, 4, rfl, by unfold exG; simp, (Array.getElem?_eq_some_iff.1 hq).1, fun j v hj => ?_⟩, .inl ⟨rfl, _, _, rfl⟩⟩
  · unfold exG at hj
    rcases j with _ | _ | _ | _ | _ | j <;> simp at hj <;> subst hj <;> exact ⟨by rw [cell_of_row _ _ _ _ _ _ hp]; rfl, by rw [cell_of_row _ _ _ _ _ _ hp]; rfl⟩
  · unfold exG at hj
    rcases j with _ | _ | _ | _ | j <;> simp at hj <;> subst hj <;> exact ⟨by rw [cell_of_row _ _ _ _ _ _ hq]; rfl, by rw [cell_of_row _ _ _ _ _ _ hq]; rfl, by rw [cell_of_row _ _ _ _ _ _ hq]; rfl, by rw [cell_of_row _ _ _ _ _ _ hq]; rfl, by rw [cell_of_row _ _ _ _ _ _ hq]; rfl, by rw [cell_of_row _ _ _ _ _ _ hq]; rfl⟩
theorem example_any (w : World) : Calls Try.prog 24 #[] w fun e w' => ∃ r, e = .returned r ∧ GV w' r exG ∧ Below w.heap.size w w' := by
  go_enter Try.func24, Try.ntmps24
  go_wp2_with fail
  obtain ⟨k0, k1, k2, k3, k4⟩ := three_alloc w (.cells #[.slice (some ⟨w.heap.size + 1, 0, none⟩) 5 5, .slice (some ⟨w.heap.size + 1 + 1, 0, none⟩) 4 4, .slice none 0 0] 28) (.cells #[.int .i64 0, .int .i64 0, .int .i64 1, .int .i64 0, .int .i64 2, .int .i64 0, .int .i64 3, .int .i64 0, .int .i64 5, .int .i64 0] 31) (.cells #[.int .i64 0, .int .i64 2, .int .i64 1, .bool false, .int .i64 0, .int .i64 0, .int .i64 4, .int .i64 1, .int .i64 3, .bool false, .int .i64 0, .int .i64 0, .int .i64 6, .int .i64 3, .int .i64 2, .bool false, .int .i64 0, .int .i64 0, .int .i64 7, .int .i64 5, .int .i64 5, .bool false, .int .i64 0, .int .i64 0] 40)
  refine bodyPost_ret (v := _) (results_cell_row (fn := Try.f24) rfl _ _ w.heap.size 28 #[.slice (some ⟨w.heap.size + 1, 0, none⟩) 5 5, .slice (some ⟨w.heap.size + 1 + 1, 0, none⟩) 4 4, .slice none 0 0] (0, 0) _ rfl k0 Try.underlying28 rfl (size26b _ _ _)) rfl ?_
  exact ⟨_, rfl, exG_at k1 k2, k4⟩

end Go.Proofs.Ythmkmjkbfjhffaa
