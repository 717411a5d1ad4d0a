/- Contracts and facts. -/
import Derived.Deep.LoopGhost
import Derived.Handy
import Derived.WalkMore
import Derived.BigRegion
import Derived.Laws.EntriesVeiled
import Derived.Test.YtlnbobclbaieoaaVJA
set_option linter.unusedSimpArgs false
set_option maxRecDepth 100000
set_option maxHeartbeats 4000000
namespace Go.Proofs.Ytlnbobclbaieoaa
open Go.RowKit
def lastF (es : List Ed) (k : Nat) : Int := if k = 0 then -1 else (es[k - 1]?.map (·.id)).getD (-1)
set_option maxRecDepth 100000 in
set_option maxHeartbeats 8000000 in
theorem near_any (n sd : Int) (dv ev lv : Value) (es : List Ed) (w : World) (he : EL w ev es) (hn : es.length ≤ 1000000000) :
    Calls Try.prog 63 #[.agg #[.int .i64 n, .int .i64 sd, dv, ev, lv]] w fun e w' => e = .returned (.bool (vaF n (-1) es)) ∧ Below w.heap.size w w' := by
  obtain ⟨R, hR⟩ : ∃ R, Hid (vaF n (-1) es = R) := ⟨_, rfl⟩
  rw [hR.out]
  obtain ⟨e1, e2, rfl⟩ := he.shape
  obtain ⟨N, hN⟩ : ∃ N, Hid (N = es.length) := ⟨_, rfl⟩
  obtain ⟨w1, hw1⟩ : ∃ w1, w1 = w.alloc (.cells #[.int .i64 n, .int .i64 sd, dv, .slice e1 N e2, lv] 51) := ⟨_, rfl⟩
  have gb : w1.heap[w.heap.size]? = some (.cells #[.int .i64 n, .int .i64 sd, dv, .slice e1 N e2, lv] 51 (0, 0)) := by rw [hw1]; exact heap_alloc_new w _
  have B0 : Below w.heap.size w w1 := by rw [hw1]; exact (Below.refl _ w).alloc (Nat.le_refl _) _
  have hs1 : w1.heap.size = w.heap.size + 1 := by rw [hw1]; simp
  have hbox := Lib.hid (fun W (q : Below w1.heap.size w1 W) => (q.block _ (show w.heap.size < w1.heap.size by omega)).trans gb)
  have box5 : ∀ {W : World}, W.heap[w.heap.size]? = some (.cells #[.int .i64 n, .int .i64 sd, dv, .slice e1 N e2, lv] 51 (0, 0)) → W.cell? ⟨w.heap.size, 0, none⟩ = some (.int .i64 n) ∧ W.cell? ⟨w.heap.size, 3, none⟩ = some (.slice e1 N e2) := fun h => ⟨by rw [cell_of_row _ _ _ _ _ _ h]; rfl, by rw [cell_of_row _ _ _ _ _ _ h]; rfl⟩
  have hG := Lib.hid (fun W (q : Below w1.heap.size w1 W) => box5 (hbox.out W q))
  have cellE := Lib.hid (he.below B0).cells
  rw [← hN.out] at hn ⊢
  replace hw1 := Lib.hid hw1
  replace B0 := Lib.hid B0
  clear box5 hbox hs1 gb he
  obtain ⟨g0, g3⟩ := hG.out w1 (Below.refl _ _)
  go_enter Try.func63, Try.ntmps63
  go_upto_region 1 with (fail)
  rw [← hw1.out]
  clear g0 g3
  go_wp2_with fail
  go_loopg [3] N (fun q iv wr => ∃ k : Nat, k + q = N ∧ iv = .int .i64 k ∧ Hid (vaF n (lastF es k) (es.drop k) = R) ∧ Hid (-1 ≤ lastF es k) ∧ Below w1.heap.size w1 wr)
  case atStart => exact ⟨0, by omega, rfl, hR, by show -1 ≤ (-1 : Int); omega, Below.refl _ _⟩
  case round =>
    obtain ⟨k, hk, rfl, hva, hlo, B⟩ := hrel
    obtain ⟨wo, rfl⟩ : ∃ x, x = wr := ⟨_, rfl⟩
    obtain ⟨g0, g3⟩ := hG.out wo B
    cases gk with
    | zero =>
      have hk2 : k = N := by omega
      have i1 : ¬ (k : Int) < (N : Int) := by omega
      have hR2 : Hid (isV n = R) := by
        have h := hva.out
        rw [List.drop_of_length_le (by rw [hk2, hN.out]; exact Nat.le_refl _)] at h
        exact h
      have hB := Lib.hid B
      clear hk2 hva hlo hk B
      by_cases c1 : 0 ≤ n
      · have c1d : decide (0 ≤ n) = true := decide_eq_true c1
        by_cases c2 : n < 24
        · have c2d : decide (n < 24) = true := decide_eq_true c2
          have hr : Hid (R = true) := by show _ = _; rw [← hR2.out]; unfold isV; rw [c1d, c2d]; rfl
          go_wp2_with fail
          go_ret
          exact ⟨ret_bool hr.out.symm, B0.out.trans (hB.out.mono B0.out.size)⟩
        · have c2d : decide (n < 24) = false := decide_eq_false c2
          have hr : Hid (R = false) := by show _ = _; rw [← hR2.out]; unfold isV; rw [c1d, c2d]; rfl
          go_wp2_with fail
          go_ret
          exact ⟨ret_bool hr.out.symm, B0.out.trans (hB.out.mono B0.out.size)⟩
      · have c1d : decide (0 ≤ n) = false := decide_eq_false c1
        have hr : Hid (R = false) := by show _ = _; rw [← hR2.out]; unfold isV; rw [c1d]; rfl
        go_wp2_with fail
        go_ret
        exact ⟨ret_bool hr.out.symm, B0.out.trans (hB.out.mono B0.out.size)⟩
    | succ ga =>
      have hlt : k < N := by omega
      have hkl : k < es.length := by rw [← hN.out]; exact hlt
      obtain ⟨bv, ov, rfl, cv⟩ := cellE.out k hkl
      obtain ⟨d0, d1, d2, d3, d4, d5⟩ := cv wo B
      have i0 : (0 : Int) ≤ (k : Int) := by omega
      have i1 : (k : Int) < (N : Int) := by omega
      have hle : Hid (k + 1 + ga = N) := by show _ = _; omega
      have Ba : Below w1.heap.size w1 (wo.alloc (.cells (edCells es[k]) 40)) := B.alloc B.size _
      have hE0 : EdAt (wo.alloc (.cells (edCells es[k]) 40)) wo.heap.size 0 es[k] := EdAt.box wo es[k] 40
      have hE := Lib.hid (fun W (q : Below (wo.alloc (.cells (edCells es[k]) 40)).heap.size (wo.alloc (.cells (edCells es[k]) 40)) W) => hE0.below (by simp) q)
      have hBB := Lib.hid (fun W (q : Below (wo.alloc (.cells (edCells es[k]) 40)).heap.size (wo.alloc (.cells (edCells es[k]) 40)) W) => Ba.trans (q.mono Ba.size))
      have hv2 := hva.out
      rw [List.drop_eq_getElem_cons hkl] at hv2
      have hlast : lastF es (k + 1) = es[k].id := by unfold lastF; rw [if_neg (by omega)]; simp [hkl]
      have hNo := Lib.hid (fun (h : ¬ okN (lastF es k) n es[k]) => (show R = false from by rw [← hv2, va_bad _ _ _ _ hlo.out h]))
      have hYs := Lib.hid (fun (h : okN (lastF es k) n es[k]) => (show Hid (vaF n (lastF es (k + 1)) (es.drop (k + 1)) = R) ∧ Hid (-1 ≤ lastF es (k + 1)) from by
        rw [hlast]; exact ⟨by show _ = _; rw [← hv2, va_ok _ _ _ _ h], by show _ ≤ _; have := h.1; omega⟩))
      have hpv : Hid (0 < k → ∃ j : Nat, k = j + 1 ∧ ∀ W, Below w1.heap.size w1 W → W.cell? ⟨bv, ov + j * 6, none⟩ = some (.int .i64 (lastF es k))) := fun h0 => by
        obtain ⟨b', o', h1, h2⟩ := cellE.out (k - 1) (by omega)
        injection h1 with h1
        injection h1 with h1 h1'
        subst h1 h1'
        refine ⟨k - 1, by omega, fun W q => ?_⟩
        have h3 := (h2 W q).1
        rw [h3]; unfold lastF; rw [if_neg (by omega), List.getElem?_eq_getElem (by omega)]; rfl
      have hl0 : Hid (k = 0 → lastF es k = -1) := fun h => by unfold lastF; rw [if_pos h]
      clear hE0 cv hva hlt Ba hv2 hlast
      generalize es[k] = u at *
      unfold edCells at hE hBB
      generalize lastF es k = last at *
      go_upto_region 5 with (fail)
      obtain ⟨w2, hw2⟩ : ∃ w2, w2 = wo.alloc (.cells #[.int .i64 u.id, .int .i64 u.src, .int .i64 u.dst, .bool u.dir, .int .i64 u.wt, .int .i64 u.cap] 40) := ⟨_, rfl⟩
      rw [← hw2] at hE hBB ⊢
      replace hw2 := Lib.hid hw2
      have hB2 := Lib.hid (hBB.out w2 (Below.refl _ _))
      generalize hep : wo.heap.size = ep at *
      clear hep d0 d1 d2 d3 d4 d5 g0 g3 hk
      by_cases hk0 : 0 < k
      · obtain ⟨j, hkj, cj⟩ := hpv.out hk0
        have t1 : (0 : Int) < (k : Int) := by omega
        have t2 : decide (0 < k) = true := decide_eq_true hk0
        have t3 : decide ((0 : Int) < (k : Int)) = true := decide_eq_true t1
        have t4 : decide ((k : Int) > 0) = true := decide_eq_true t1
        have t5 : IntKind.i64.wrap ((k : Int) - 1) = (j : Int) := by rw [show ((k : Int) - 1) = (j : Int) by omega]; exact IntWalk.i64_in _ (by omega)
        have t6 : (0 : Int) ≤ (j : Int) := by omega
        have t7 : (j : Int) < (N : Int) := by omega
        have fZ := Lib.hid (fun W (q : Below w2.heap.size w2 W) => (show (W.cell? ⟨w.heap.size, 0, none⟩ = _ ∧ W.cell? ⟨w.heap.size, 3, none⟩ = _) ∧ EdAt W ep 0 u ∧ W.cell? ⟨bv, ov + j * 6, none⟩ = _ from ⟨hG.out W (hBB.out W q), hE.out W q, cj W (hBB.out W q)⟩))
        unfold EdAt at fZ
        simp only [Nat.zero_add] at fZ
        replace hkj := Lib.hid hkj
        clear cj
        by_cases c1 : u.id < 0
        · have c1d : decide (u.id < 0) = true := decide_eq_true c1
          have hr : Hid (R = false) := hNo.out (fun h => by obtain ⟨h1, h2, h3, h4, h5, h6, h7, h8, h9, h10⟩ := h; omega)
          refine q_region (fun W => Below w2.heap.size w2 W) (by kernel_rfl) (by kernel_rfl) ((Below.refl _ w2).drew) ?_
          repeat (first | (refine q_skip (by rfl) ?_; try simp only [Act.put, zT, z0, zS]) | (refine q_take (v := ?_) (by rfl) ?_ ?_; rotate_left; (first | ((intro w h; clear h; go_simp) <;> with_reducible rfl) | ((intro w h; obtain ⟨⟨y0, y1⟩, ⟨z0, z1, z2, z3, z4, z5⟩, z6⟩ := fZ.out w h; clear h; go_simp) <;> with_reducible rfl)); try simp only [Act.put, zT, z0, zS]))
          refine q_nil ?_
          intro w6 k6
          replace k6 := Lib.hid k6
          go_wp2_with fail
          go_ret
          exact ⟨ret_bool hr.out.symm, B0.out.trans ((hBB.out w6 k6.out).mono B0.out.size)⟩
        have c1d : decide (u.id < 0) = false := decide_eq_false c1
        by_cases c2 : 40 ≤ u.id
        · have c2d : decide (40 ≤ u.id) = true := decide_eq_true c2
          have hr : Hid (R = false) := hNo.out (fun h => by obtain ⟨h1, h2, h3, h4, h5, h6, h7, h8, h9, h10⟩ := h; omega)
          refine q_region (fun W => Below w2.heap.size w2 W) (by kernel_rfl) (by kernel_rfl) ((Below.refl _ w2).drew) ?_
          repeat (first | (refine q_skip (by rfl) ?_; try simp only [Act.put, zT, z0, zS]) | (refine q_take (v := ?_) (by rfl) ?_ ?_; rotate_left; (first | ((intro w h; clear h; go_simp) <;> with_reducible rfl) | ((intro w h; obtain ⟨⟨y0, y1⟩, ⟨z0, z1, z2, z3, z4, z5⟩, z6⟩ := fZ.out w h; clear h; go_simp) <;> with_reducible rfl)); try simp only [Act.put, zT, z0, zS]))
          refine q_nil ?_
          intro w6 k6
          replace k6 := Lib.hid k6
          go_wp2_with fail
          go_ret
          exact ⟨ret_bool hr.out.symm, B0.out.trans ((hBB.out w6 k6.out).mono B0.out.size)⟩
        have c2d : decide (40 ≤ u.id) = false := decide_eq_false c2
        by_cases c3 : u.id ≤ last
        · have c3d : decide (u.id ≤ last) = true := decide_eq_true c3
          have hr : Hid (R = false) := hNo.out (fun h => by obtain ⟨h1, h2, h3, h4, h5, h6, h7, h8, h9, h10⟩ := h; omega)
          refine q_region (fun W => Below w2.heap.size w2 W) (by kernel_rfl) (by kernel_rfl) ((Below.refl _ w2).drew) ?_
          repeat (first | (refine q_skip (by rfl) ?_; try simp only [Act.put, zT, z0, zS]) | (refine q_take (v := ?_) (by rfl) ?_ ?_; rotate_left; (first | ((intro w h; clear h; go_simp) <;> with_reducible rfl) | ((intro w h; obtain ⟨⟨y0, y1⟩, ⟨z0, z1, z2, z3, z4, z5⟩, z6⟩ := fZ.out w h; clear h; go_simp) <;> with_reducible rfl)); try simp only [Act.put, zT, z0, zS]))
          refine q_nil ?_
          intro w6 k6
          replace k6 := Lib.hid k6
          go_wp2_with fail
          go_ret
          exact ⟨ret_bool hr.out.symm, B0.out.trans ((hBB.out w6 k6.out).mono B0.out.size)⟩
        have c3d : decide (u.id ≤ last) = false := decide_eq_false c3
        by_cases c4 : u.src < 0
        · have c4d : decide (u.src < 0) = true := decide_eq_true c4
          have hr : Hid (R = false) := hNo.out (fun h => by obtain ⟨h1, h2, h3, h4, h5, h6, h7, h8, h9, h10⟩ := h; omega)
          refine q_region (fun W => Below w2.heap.size w2 W) (by kernel_rfl) (by kernel_rfl) ((Below.refl _ w2).drew) ?_
          repeat (first | (refine q_skip (by rfl) ?_; try simp only [Act.put, zT, z0, zS]) | (refine q_take (v := ?_) (by rfl) ?_ ?_; rotate_left; (first | ((intro w h; clear h; go_simp) <;> with_reducible rfl) | ((intro w h; obtain ⟨⟨y0, y1⟩, ⟨z0, z1, z2, z3, z4, z5⟩, z6⟩ := fZ.out w h; clear h; go_simp) <;> with_reducible rfl)); try simp only [Act.put, zT, z0, zS]))
          refine q_nil ?_
          intro w6 k6
          replace k6 := Lib.hid k6
          go_wp2_with fail
          go_ret
          exact ⟨ret_bool hr.out.symm, B0.out.trans ((hBB.out w6 k6.out).mono B0.out.size)⟩
        have c4d : decide (u.src < 0) = false := decide_eq_false c4
        by_cases c4b : 24 ≤ u.src
        · have c4bd : decide (24 ≤ u.src) = true := decide_eq_true c4b
          have hr : Hid (R = false) := hNo.out (fun h => by obtain ⟨h1, h2, h3, h4, h5, h6, h7, h8, h9, h10⟩ := h; omega)
          refine q_region (fun W => Below w2.heap.size w2 W) (by kernel_rfl) (by kernel_rfl) ((Below.refl _ w2).drew) ?_
          repeat (first | (refine q_skip (by rfl) ?_; try simp only [Act.put, zT, z0, zS]) | (refine q_take (v := ?_) (by rfl) ?_ ?_; rotate_left; (first | ((intro w h; clear h; go_simp) <;> with_reducible rfl) | ((intro w h; obtain ⟨⟨y0, y1⟩, ⟨z0, z1, z2, z3, z4, z5⟩, z6⟩ := fZ.out w h; clear h; go_simp) <;> with_reducible rfl)); try simp only [Act.put, zT, z0, zS]))
          refine q_nil ?_
          intro w6 k6
          replace k6 := Lib.hid k6
          go_wp2_with fail
          go_ret
          exact ⟨ret_bool hr.out.symm, B0.out.trans ((hBB.out w6 k6.out).mono B0.out.size)⟩
        have c4bd : decide (24 ≤ u.src) = false := decide_eq_false c4b
        by_cases c5 : u.dst < 0
        · have c5d : decide (u.dst < 0) = true := decide_eq_true c5
          have hr : Hid (R = false) := hNo.out (fun h => by obtain ⟨h1, h2, h3, h4, h5, h6, h7, h8, h9, h10⟩ := h; omega)
          refine q_region (fun W => Below w2.heap.size w2 W) (by kernel_rfl) (by kernel_rfl) ((Below.refl _ w2).drew) ?_
          repeat (first | (refine q_skip (by rfl) ?_; try simp only [Act.put, zT, z0, zS]) | (refine q_take (v := ?_) (by rfl) ?_ ?_; rotate_left; (first | ((intro w h; clear h; go_simp) <;> with_reducible rfl) | ((intro w h; obtain ⟨⟨y0, y1⟩, ⟨z0, z1, z2, z3, z4, z5⟩, z6⟩ := fZ.out w h; clear h; go_simp) <;> with_reducible rfl)); try simp only [Act.put, zT, z0, zS]))
          refine q_nil ?_
          intro w6 k6
          replace k6 := Lib.hid k6
          go_wp2_with fail
          go_ret
          exact ⟨ret_bool hr.out.symm, B0.out.trans ((hBB.out w6 k6.out).mono B0.out.size)⟩
        have c5d : decide (u.dst < 0) = false := decide_eq_false c5
        by_cases c5b : 24 ≤ u.dst
        · have c5bd : decide (24 ≤ u.dst) = true := decide_eq_true c5b
          have hr : Hid (R = false) := hNo.out (fun h => by obtain ⟨h1, h2, h3, h4, h5, h6, h7, h8, h9, h10⟩ := h; omega)
          refine q_region (fun W => Below w2.heap.size w2 W) (by kernel_rfl) (by kernel_rfl) ((Below.refl _ w2).drew) ?_
          repeat (first | (refine q_skip (by rfl) ?_; try simp only [Act.put, zT, z0, zS]) | (refine q_take (v := ?_) (by rfl) ?_ ?_; rotate_left; (first | ((intro w h; clear h; go_simp) <;> with_reducible rfl) | ((intro w h; obtain ⟨⟨y0, y1⟩, ⟨z0, z1, z2, z3, z4, z5⟩, z6⟩ := fZ.out w h; clear h; go_simp) <;> with_reducible rfl)); try simp only [Act.put, zT, z0, zS]))
          refine q_nil ?_
          intro w6 k6
          replace k6 := Lib.hid k6
          go_wp2_with fail
          go_ret
          exact ⟨ret_bool hr.out.symm, B0.out.trans ((hBB.out w6 k6.out).mono B0.out.size)⟩
        have c5bd : decide (24 ≤ u.dst) = false := decide_eq_false c5b
        by_cases c6 : u.wt < -1000
        · have c6d : decide (u.wt < -1000) = true := decide_eq_true c6
          have hr : Hid (R = false) := hNo.out (fun h => by obtain ⟨h1, h2, h3, h4, h5, h6, h7, h8, h9, h10⟩ := h; omega)
          refine q_region (fun W => Below w2.heap.size w2 W) (by kernel_rfl) (by kernel_rfl) ((Below.refl _ w2).drew) ?_
          repeat (first | (refine q_skip (by rfl) ?_; try simp only [Act.put, zT, z0, zS]) | (refine q_take (v := ?_) (by rfl) ?_ ?_; rotate_left; (first | ((intro w h; clear h; go_simp) <;> with_reducible rfl) | ((intro w h; obtain ⟨⟨y0, y1⟩, ⟨z0, z1, z2, z3, z4, z5⟩, z6⟩ := fZ.out w h; clear h; go_simp) <;> with_reducible rfl)); try simp only [Act.put, zT, z0, zS]))
          refine q_nil ?_
          intro w6 k6
          replace k6 := Lib.hid k6
          obtain ⟨⟨y0, y1⟩, ⟨z0, z1, z2, z3, z4, z5⟩, z6⟩ := fZ.out w6 k6.out
          go_wp2_with fail
          go_ret
          exact ⟨ret_bool hr.out.symm, B0.out.trans ((hBB.out w6 k6.out).mono B0.out.size)⟩
        have c6d : decide (u.wt < -1000) = false := decide_eq_false c6
        by_cases c7 : 1000 < u.wt
        · have c7d : decide (1000 < u.wt) = true := decide_eq_true c7
          have hr : Hid (R = false) := hNo.out (fun h => by obtain ⟨h1, h2, h3, h4, h5, h6, h7, h8, h9, h10⟩ := h; omega)
          refine q_region (fun W => Below w2.heap.size w2 W) (by kernel_rfl) (by kernel_rfl) ((Below.refl _ w2).drew) ?_
          repeat (first | (refine q_skip (by rfl) ?_; try simp only [Act.put, zT, z0, zS]) | (refine q_take (v := ?_) (by rfl) ?_ ?_; rotate_left; (first | ((intro w h; clear h; go_simp) <;> with_reducible rfl) | ((intro w h; obtain ⟨⟨y0, y1⟩, ⟨z0, z1, z2, z3, z4, z5⟩, z6⟩ := fZ.out w h; clear h; go_simp) <;> with_reducible rfl)); try simp only [Act.put, zT, z0, zS]))
          refine q_nil ?_
          intro w6 k6
          replace k6 := Lib.hid k6
          obtain ⟨⟨y0, y1⟩, ⟨z0, z1, z2, z3, z4, z5⟩, z6⟩ := fZ.out w6 k6.out
          go_wp2_with fail
          go_ret
          exact ⟨ret_bool hr.out.symm, B0.out.trans ((hBB.out w6 k6.out).mono B0.out.size)⟩
        have c7d : decide (1000 < u.wt) = false := decide_eq_false c7
        by_cases c8 : u.src = n
        · obtain ⟨hn1, hn2⟩ := hYs.out ⟨by omega, by omega, by omega, by omega, by omega, by omega, by omega, by omega, by omega, .inl c8⟩
          have c8b : (u.src != n) = false := by simpa using c8
          replace c8 := Lib.hid c8
          refine q_region (fun W => Below w2.heap.size w2 W) (by kernel_rfl) (by kernel_rfl) ((Below.refl _ w2).drew) ?_
          repeat (first | (refine q_skip (by rfl) ?_; try simp only [Act.put, zT, z0, zS]) | (refine q_take (v := ?_) (by rfl) ?_ ?_; rotate_left; (first | ((intro w h; clear h; go_simp) <;> with_reducible rfl) | ((intro w h; obtain ⟨⟨y0, y1⟩, ⟨z0, z1, z2, z3, z4, z5⟩, z6⟩ := fZ.out w h; clear h; go_simp) <;> with_reducible rfl)); try simp only [Act.put, zT, z0, zS]))
          refine q_nil ?_
          intro w6 k6
          replace k6 := Lib.hid k6
          obtain ⟨⟨y0, y1⟩, ⟨z0, z1, z2, z3, z4, z5⟩, z6⟩ := fZ.out w6 k6.out
          go_wp2_with fail
          go_roundg ga
          case measure => omega
          case rel => exact ⟨k + 1, hle.out, by go_num, hn1, hn2, hBB.out w6 k6.out⟩
        by_cases c9 : u.dst = n
        · obtain ⟨hn1, hn2⟩ := hYs.out ⟨by omega, by omega, by omega, by omega, by omega, by omega, by omega, by omega, by omega, .inr c9⟩
          have c8b : (u.src != n) = true := by simpa using c8
          have c9b : (u.dst != n) = false := by simpa using c9
          replace c8 := Lib.hid c8
          replace c9 := Lib.hid c9
          refine q_region (fun W => Below w2.heap.size w2 W) (by kernel_rfl) (by kernel_rfl) ((Below.refl _ w2).drew) ?_
          repeat (first | (refine q_skip (by rfl) ?_; try simp only [Act.put, zT, z0, zS]) | (refine q_take (v := ?_) (by rfl) ?_ ?_; rotate_left; (first | ((intro w h; clear h; go_simp) <;> with_reducible rfl) | ((intro w h; obtain ⟨⟨y0, y1⟩, ⟨z0, z1, z2, z3, z4, z5⟩, z6⟩ := fZ.out w h; clear h; go_simp) <;> with_reducible rfl)); try simp only [Act.put, zT, z0, zS]))
          refine q_nil ?_
          intro w6 k6
          replace k6 := Lib.hid k6
          obtain ⟨⟨y0, y1⟩, ⟨z0, z1, z2, z3, z4, z5⟩, z6⟩ := fZ.out w6 k6.out
          go_wp2_with fail
          go_roundg ga
          case measure => omega
          case rel => exact ⟨k + 1, hle.out, by go_num, hn1, hn2, hBB.out w6 k6.out⟩
        · have hr : Hid (R = false) := hNo.out (fun h => by obtain ⟨h1, h2, h3, h4, h5, h6, h7, h8, h9, h10⟩ := h; rcases h10 with h | h; exact c8 h; exact c9 h)
          have c8b : (u.src != n) = true := by simpa using c8
          have c9b : (u.dst != n) = true := by simpa using c9
          replace c8 := Lib.hid c8
          replace c9 := Lib.hid c9
          refine q_region (fun W => Below w2.heap.size w2 W) (by kernel_rfl) (by kernel_rfl) ((Below.refl _ w2).drew) ?_
          repeat (first | (refine q_skip (by rfl) ?_; try simp only [Act.put, zT, z0, zS]) | (refine q_take (v := ?_) (by rfl) ?_ ?_; rotate_left; (first | ((intro w h; clear h; go_simp) <;> with_reducible rfl) | ((intro w h; obtain ⟨⟨y0, y1⟩, ⟨z0, z1, z2, z3, z4, z5⟩, z6⟩ := fZ.out w h; clear h; go_simp) <;> with_reducible rfl)); try simp only [Act.put, zT, z0, zS]))
          refine q_nil ?_
          intro w6 k6
          replace k6 := Lib.hid k6
          obtain ⟨⟨y0, y1⟩, ⟨z0, z1, z2, z3, z4, z5⟩, z6⟩ := fZ.out w6 k6.out
          go_wp2_with fail
          go_ret
          exact ⟨ret_bool hr.out.symm, B0.out.trans ((hBB.out w6 k6.out).mono B0.out.size)⟩
      · have hk1 : k = 0 := by omega
        have hla : last = -1 := hl0.out hk1
        have t1 : ¬ (0 : Int) < (k : Int) := by omega
        have t2 : decide (0 < k) = false := decide_eq_false hk0
        have t3 : decide ((0 : Int) < (k : Int)) = false := decide_eq_false t1
        have t4 : decide ((k : Int) > 0) = false := decide_eq_false t1
        have fZ := Lib.hid (fun W (q : Below w2.heap.size w2 W) => (show (W.cell? ⟨w.heap.size, 0, none⟩ = _ ∧ W.cell? ⟨w.heap.size, 3, none⟩ = _) ∧ EdAt W ep 0 u from ⟨hG.out W (hBB.out W q), hE.out W q⟩))
        unfold EdAt at fZ
        simp only [Nat.zero_add] at fZ
        replace hk1 := Lib.hid hk1
        replace hla := Lib.hid hla
        replace hk0 := Lib.hid hk0
        by_cases c1 : u.id < 0
        · have c1d : decide (u.id < 0) = true := decide_eq_true c1
          have hr : Hid (R = false) := hNo.out (fun h => by obtain ⟨h1, h2, h3, h4, h5, h6, h7, h8, h9, h10⟩ := h; omega)
          refine q_region (fun W => Below w2.heap.size w2 W) (by kernel_rfl) (by kernel_rfl) ((Below.refl _ w2).drew) ?_
          repeat (first | (refine q_skip (by rfl) ?_; try simp only [Act.put, zT, z0, zS]) | (refine q_take (v := ?_) (by rfl) ?_ ?_; rotate_left; (first | ((intro w h; clear h; go_simp) <;> with_reducible rfl) | ((intro w h; obtain ⟨⟨y0, y1⟩, z0, z1, z2, z3, z4, z5⟩ := fZ.out w h; clear h; go_simp) <;> with_reducible rfl)); try simp only [Act.put, zT, z0, zS]))
          refine q_nil ?_
          intro w6 k6
          replace k6 := Lib.hid k6
          go_wp2_with fail
          go_ret
          exact ⟨ret_bool hr.out.symm, B0.out.trans ((hBB.out w6 k6.out).mono B0.out.size)⟩
        have c1d : decide (u.id < 0) = false := decide_eq_false c1
        by_cases c2 : 40 ≤ u.id
        · have c2d : decide (40 ≤ u.id) = true := decide_eq_true c2
          have hr : Hid (R = false) := hNo.out (fun h => by obtain ⟨h1, h2, h3, h4, h5, h6, h7, h8, h9, h10⟩ := h; omega)
          refine q_region (fun W => Below w2.heap.size w2 W) (by kernel_rfl) (by kernel_rfl) ((Below.refl _ w2).drew) ?_
          repeat (first | (refine q_skip (by rfl) ?_; try simp only [Act.put, zT, z0, zS]) | (refine q_take (v := ?_) (by rfl) ?_ ?_; rotate_left; (first | ((intro w h; clear h; go_simp) <;> with_reducible rfl) | ((intro w h; obtain ⟨⟨y0, y1⟩, z0, z1, z2, z3, z4, z5⟩ := fZ.out w h; clear h; go_simp) <;> with_reducible rfl)); try simp only [Act.put, zT, z0, zS]))
          refine q_nil ?_
          intro w6 k6
          replace k6 := Lib.hid k6
          go_wp2_with fail
          go_ret
          exact ⟨ret_bool hr.out.symm, B0.out.trans ((hBB.out w6 k6.out).mono B0.out.size)⟩
        have c2d : decide (40 ≤ u.id) = false := decide_eq_false c2
        by_cases c4 : u.src < 0
        · have c4d : decide (u.src < 0) = true := decide_eq_true c4
          have hr : Hid (R = false) := hNo.out (fun h => by obtain ⟨h1, h2, h3, h4, h5, h6, h7, h8, h9, h10⟩ := h; omega)
          refine q_region (fun W => Below w2.heap.size w2 W) (by kernel_rfl) (by kernel_rfl) ((Below.refl _ w2).drew) ?_
          repeat (first | (refine q_skip (by rfl) ?_; try simp only [Act.put, zT, z0, zS]) | (refine q_take (v := ?_) (by rfl) ?_ ?_; rotate_left; (first | ((intro w h; clear h; go_simp) <;> with_reducible rfl) | ((intro w h; obtain ⟨⟨y0, y1⟩, z0, z1, z2, z3, z4, z5⟩ := fZ.out w h; clear h; go_simp) <;> with_reducible rfl)); try simp only [Act.put, zT, z0, zS]))
          refine q_nil ?_
          intro w6 k6
          replace k6 := Lib.hid k6
          go_wp2_with fail
          go_ret
          exact ⟨ret_bool hr.out.symm, B0.out.trans ((hBB.out w6 k6.out).mono B0.out.size)⟩
        have c4d : decide (u.src < 0) = false := decide_eq_false c4
        by_cases c4b : 24 ≤ u.src
        · have c4bd : decide (24 ≤ u.src) = true := decide_eq_true c4b
          have hr : Hid (R = false) := hNo.out (fun h => by obtain ⟨h1, h2, h3, h4, h5, h6, h7, h8, h9, h10⟩ := h; omega)
          refine q_region (fun W => Below w2.heap.size w2 W) (by kernel_rfl) (by kernel_rfl) ((Below.refl _ w2).drew) ?_
          repeat (first | (refine q_skip (by rfl) ?_; try simp only [Act.put, zT, z0, zS]) | (refine q_take (v := ?_) (by rfl) ?_ ?_; rotate_left; (first | ((intro w h; clear h; go_simp) <;> with_reducible rfl) | ((intro w h; obtain ⟨⟨y0, y1⟩, z0, z1, z2, z3, z4, z5⟩ := fZ.out w h; clear h; go_simp) <;> with_reducible rfl)); try simp only [Act.put, zT, z0, zS]))
          refine q_nil ?_
          intro w6 k6
          replace k6 := Lib.hid k6
          go_wp2_with fail
          go_ret
          exact ⟨ret_bool hr.out.symm, B0.out.trans ((hBB.out w6 k6.out).mono B0.out.size)⟩
        have c4bd : decide (24 ≤ u.src) = false := decide_eq_false c4b
        by_cases c5 : u.dst < 0
        · have c5d : decide (u.dst < 0) = true := decide_eq_true c5
          have hr : Hid (R = false) := hNo.out (fun h => by obtain ⟨h1, h2, h3, h4, h5, h6, h7, h8, h9, h10⟩ := h; omega)
          refine q_region (fun W => Below w2.heap.size w2 W) (by kernel_rfl) (by kernel_rfl) ((Below.refl _ w2).drew) ?_
          repeat (first | (refine q_skip (by rfl) ?_; try simp only [Act.put, zT, z0, zS]) | (refine q_take (v := ?_) (by rfl) ?_ ?_; rotate_left; (first | ((intro w h; clear h; go_simp) <;> with_reducible rfl) | ((intro w h; obtain ⟨⟨y0, y1⟩, z0, z1, z2, z3, z4, z5⟩ := fZ.out w h; clear h; go_simp) <;> with_reducible rfl)); try simp only [Act.put, zT, z0, zS]))
          refine q_nil ?_
          intro w6 k6
          replace k6 := Lib.hid k6
          go_wp2_with fail
          go_ret
          exact ⟨ret_bool hr.out.symm, B0.out.trans ((hBB.out w6 k6.out).mono B0.out.size)⟩
        have c5d : decide (u.dst < 0) = false := decide_eq_false c5
        by_cases c5b : 24 ≤ u.dst
        · have c5bd : decide (24 ≤ u.dst) = true := decide_eq_true c5b
          have hr : Hid (R = false) := hNo.out (fun h => by obtain ⟨h1, h2, h3, h4, h5, h6, h7, h8, h9, h10⟩ := h; omega)
          refine q_region (fun W => Below w2.heap.size w2 W) (by kernel_rfl) (by kernel_rfl) ((Below.refl _ w2).drew) ?_
          repeat (first | (refine q_skip (by rfl) ?_; try simp only [Act.put, zT, z0, zS]) | (refine q_take (v := ?_) (by rfl) ?_ ?_; rotate_left; (first | ((intro w h; clear h; go_simp) <;> with_reducible rfl) | ((intro w h; obtain ⟨⟨y0, y1⟩, z0, z1, z2, z3, z4, z5⟩ := fZ.out w h; clear h; go_simp) <;> with_reducible rfl)); try simp only [Act.put, zT, z0, zS]))
          refine q_nil ?_
          intro w6 k6
          replace k6 := Lib.hid k6
          go_wp2_with fail
          go_ret
          exact ⟨ret_bool hr.out.symm, B0.out.trans ((hBB.out w6 k6.out).mono B0.out.size)⟩
        have c5bd : decide (24 ≤ u.dst) = false := decide_eq_false c5b
        by_cases c6 : u.wt < -1000
        · have c6d : decide (u.wt < -1000) = true := decide_eq_true c6
          have hr : Hid (R = false) := hNo.out (fun h => by obtain ⟨h1, h2, h3, h4, h5, h6, h7, h8, h9, h10⟩ := h; omega)
          refine q_region (fun W => Below w2.heap.size w2 W) (by kernel_rfl) (by kernel_rfl) ((Below.refl _ w2).drew) ?_
          repeat (first | (refine q_skip (by rfl) ?_; try simp only [Act.put, zT, z0, zS]) | (refine q_take (v := ?_) (by rfl) ?_ ?_; rotate_left; (first | ((intro w h; clear h; go_simp) <;> with_reducible rfl) | ((intro w h; obtain ⟨⟨y0, y1⟩, z0, z1, z2, z3, z4, z5⟩ := fZ.out w h; clear h; go_simp) <;> with_reducible rfl)); try simp only [Act.put, zT, z0, zS]))
          refine q_nil ?_
          intro w6 k6
          replace k6 := Lib.hid k6
          obtain ⟨⟨y0, y1⟩, z0, z1, z2, z3, z4, z5⟩ := fZ.out w6 k6.out
          go_wp2_with fail
          go_ret
          exact ⟨ret_bool hr.out.symm, B0.out.trans ((hBB.out w6 k6.out).mono B0.out.size)⟩
        have c6d : decide (u.wt < -1000) = false := decide_eq_false c6
        by_cases c7 : 1000 < u.wt
        · have c7d : decide (1000 < u.wt) = true := decide_eq_true c7
          have hr : Hid (R = false) := hNo.out (fun h => by obtain ⟨h1, h2, h3, h4, h5, h6, h7, h8, h9, h10⟩ := h; omega)
          refine q_region (fun W => Below w2.heap.size w2 W) (by kernel_rfl) (by kernel_rfl) ((Below.refl _ w2).drew) ?_
          repeat (first | (refine q_skip (by rfl) ?_; try simp only [Act.put, zT, z0, zS]) | (refine q_take (v := ?_) (by rfl) ?_ ?_; rotate_left; (first | ((intro w h; clear h; go_simp) <;> with_reducible rfl) | ((intro w h; obtain ⟨⟨y0, y1⟩, z0, z1, z2, z3, z4, z5⟩ := fZ.out w h; clear h; go_simp) <;> with_reducible rfl)); try simp only [Act.put, zT, z0, zS]))
          refine q_nil ?_
          intro w6 k6
          replace k6 := Lib.hid k6
          obtain ⟨⟨y0, y1⟩, z0, z1, z2, z3, z4, z5⟩ := fZ.out w6 k6.out
          go_wp2_with fail
          go_ret
          exact ⟨ret_bool hr.out.symm, B0.out.trans ((hBB.out w6 k6.out).mono B0.out.size)⟩
        have c7d : decide (1000 < u.wt) = false := decide_eq_false c7
        by_cases c8 : u.src = n
        · have hla9 := hla.out
          obtain ⟨hn1, hn2⟩ := hYs.out ⟨by omega, by omega, by omega, by omega, by omega, by omega, by omega, by omega, by omega, .inl c8⟩
          clear hla9
          have c8b : (u.src != n) = false := by simpa using c8
          replace c8 := Lib.hid c8
          refine q_region (fun W => Below w2.heap.size w2 W) (by kernel_rfl) (by kernel_rfl) ((Below.refl _ w2).drew) ?_
          repeat (first | (refine q_skip (by rfl) ?_; try simp only [Act.put, zT, z0, zS]) | (refine q_take (v := ?_) (by rfl) ?_ ?_; rotate_left; (first | ((intro w h; clear h; go_simp) <;> with_reducible rfl) | ((intro w h; obtain ⟨⟨y0, y1⟩, z0, z1, z2, z3, z4, z5⟩ := fZ.out w h; clear h; go_simp) <;> with_reducible rfl)); try simp only [Act.put, zT, z0, zS]))
          refine q_nil ?_
          intro w6 k6
          replace k6 := Lib.hid k6
          obtain ⟨⟨y0, y1⟩, z0, z1, z2, z3, z4, z5⟩ := fZ.out w6 k6.out
          go_wp2_with fail
          go_roundg ga
          case measure => omega
          case rel => exact ⟨k + 1, hle.out, by go_num, hn1, hn2, hBB.out w6 k6.out⟩
        by_cases c9 : u.dst = n
        · have hla9 := hla.out
          obtain ⟨hn1, hn2⟩ := hYs.out ⟨by omega, by omega, by omega, by omega, by omega, by omega, by omega, by omega, by omega, .inr c9⟩
          clear hla9
          have c8b : (u.src != n) = true := by simpa using c8
          have c9b : (u.dst != n) = false := by simpa using c9
          replace c8 := Lib.hid c8
          replace c9 := Lib.hid c9
          refine q_region (fun W => Below w2.heap.size w2 W) (by kernel_rfl) (by kernel_rfl) ((Below.refl _ w2).drew) ?_
          repeat (first | (refine q_skip (by rfl) ?_; try simp only [Act.put, zT, z0, zS]) | (refine q_take (v := ?_) (by rfl) ?_ ?_; rotate_left; (first | ((intro w h; clear h; go_simp) <;> with_reducible rfl) | ((intro w h; obtain ⟨⟨y0, y1⟩, z0, z1, z2, z3, z4, z5⟩ := fZ.out w h; clear h; go_simp) <;> with_reducible rfl)); try simp only [Act.put, zT, z0, zS]))
          refine q_nil ?_
          intro w6 k6
          replace k6 := Lib.hid k6
          obtain ⟨⟨y0, y1⟩, z0, z1, z2, z3, z4, z5⟩ := fZ.out w6 k6.out
          go_wp2_with fail
          go_roundg ga
          case measure => omega
          case rel => exact ⟨k + 1, hle.out, by go_num, hn1, hn2, hBB.out w6 k6.out⟩
        · have hr : Hid (R = false) := hNo.out (fun h => by obtain ⟨h1, h2, h3, h4, h5, h6, h7, h8, h9, h10⟩ := h; rcases h10 with h | h; exact c8 h; exact c9 h)
          have c8b : (u.src != n) = true := by simpa using c8
          have c9b : (u.dst != n) = true := by simpa using c9
          replace c8 := Lib.hid c8
          replace c9 := Lib.hid c9
          refine q_region (fun W => Below w2.heap.size w2 W) (by kernel_rfl) (by kernel_rfl) ((Below.refl _ w2).drew) ?_
          repeat (first | (refine q_skip (by rfl) ?_; try simp only [Act.put, zT, z0, zS]) | (refine q_take (v := ?_) (by rfl) ?_ ?_; rotate_left; (first | ((intro w h; clear h; go_simp) <;> with_reducible rfl) | ((intro w h; obtain ⟨⟨y0, y1⟩, z0, z1, z2, z3, z4, z5⟩ := fZ.out w h; clear h; go_simp) <;> with_reducible rfl)); try simp only [Act.put, zT, z0, zS]))
          refine q_nil ?_
          intro w6 k6
          replace k6 := Lib.hid k6
          obtain ⟨⟨y0, y1⟩, z0, z1, z2, z3, z4, z5⟩ := fZ.out w6 k6.out
          go_wp2_with fail
          go_ret
          exact ⟨ret_bool hr.out.symm, B0.out.trans ((hBB.out w6 k6.out).mono B0.out.size)⟩

end Go.Proofs.Ytlnbobclbaieoaa
