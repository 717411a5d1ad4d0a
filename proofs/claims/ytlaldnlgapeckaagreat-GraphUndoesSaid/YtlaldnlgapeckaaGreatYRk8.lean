/- The reference's act where a vertex is split. -/
import Derived.Test.YtlaldnlgapeckaaGreatYRk8a
import Derived.Deep.CutRange
import Derived.Test.YtlaldnlgapeckaaGreatYH
set_option linter.unusedSimpArgs false
set_option maxRecDepth 100000
set_option maxHeartbeats 4000000
namespace Go.Proofs.YtlaldnlgapeckaaGreat
open Go.RowKit
theorem actR_8 (va vb vc ca cb : Value) (g : Gr) (c : Ch) (B0 : Nat) (w0 : World) (h1 : OwnV w0 B0 va g.vs) (h2 : OwnEd w0 B0 vb g.es) (h3 : OwnI w0 B0 vc g.ds) (h4 : DL w0 ca c.ends) (h5 : DL w0 cb c.deps) (hok : Ok g) (hB0 : B0 ≤ w0.heap.size) (hl : c.ends.length ≤ 100000 ∧ c.deps.length ≤ 100000) (hk : c.kind = 8) (hr : ∀ n ∈ c.ends, -9223372036854775808 ≤ n ∧ n ≤ 9223372036854775807) (hx : ∀ eb eo n d, ca = .slice (some ⟨eb, eo, none⟩) n d → c.ends ≠ [] → eb < B0) :
  Calls Tryz.prog 58 #[.agg #[va, vb, vc], .agg (chCells c ca cb)] w0 (ActR g c B0 w0) := by
 obtain ⟨a1, a2, rfl⟩ := h1.VL.shape;obtain ⟨b1, b2, rfl⟩ := h2.EL.shape;obtain ⟨c1, c2, rfl⟩ := h3.DL.shape;obtain ⟨e1, e2, rfl⟩ := h4.shape;obtain ⟨f1, f2, rfl⟩ := h5.shape;have hrh := Hd hr;have hxh := Hd (show ∀ eb eo, e1 = some ⟨eb, eo, none⟩ → c.ends ≠ [] → eb < B0 from fun eb eo h => hx eb eo _ _ (by rw [h]));clear hr hx;obtain ⟨N1, hN1⟩ : ∃ N, Hid (N = g.vs.length) := ⟨_, rfl⟩;obtain ⟨N2, hN2⟩ : ∃ N, Hid (N = g.es.length) := ⟨_, rfl⟩;obtain ⟨N3, hN3⟩ : ∃ N, Hid (N = g.ds.length) := ⟨_, rfl⟩;obtain ⟨m1, hm1⟩ : ∃ N, Hid (N = c.ends.length) := ⟨_, rfl⟩;obtain ⟨m2, hm2⟩ : ∃ N, Hid (N = c.deps.length) := ⟨_, rfl⟩;have z1 := hok.vlen;have z2 := hok.elen;have z3 := hok.dlen;obtain ⟨l1, l2⟩ := hl;rw [← hN1.out] at h1 z1 ⊢;rw [← hN2.out] at h2 z2 ⊢;rw [← hN3.out] at h3 z3 ⊢;rw [← hm1.out] at h4 l1 ⊢;rw [← hm2.out] at h5 l2 ⊢;unfold chCells;rw [hk];obtain ⟨B, w1, hB, hwh, hsz, hB0, hBw, hbox, hcbx, hres, hO1, hO2, hO3, hL4, hL5, hgv, hbase, hT, hR, cP, cF, hlow, hlow3⟩ := act_pre 8 h1 h2 h3 h4 h5 hN1.out hN2.out z1 z2 hB0;have hokh := Hd hok;have hkh := Hd hk;have hact := Hd (show actK g c = act8 g c by unfold actK; simp [hk]);obtain ⟨⟨t0, t1, t2⟩, p0, p1, p2, p3, p4, p5, p6, p7, p8, p9, pA, pB, pC⟩ := hT.out w1 (Below.refl _ _);try dsimp only at p0 p1 p2 p3 p4 p5 p6 p7 p8 p9 pA
 clear h1 h2 h3 h4 h5 hok hk;go_enter Tryz.func58, Tryz.ntmps58;go_wp2_with fail;rw [← hwh.out, ← hB.out];with_reducible refine (cP.out w1 (Below.refl _ _)).mono ?_
 rintro e w2 ⟨rfl, k2⟩;have K2 := Hd k2;clear k2 t0 t1 t2 p0 p1 p2 p3 p4 p5 p6 p7 p8 p9 pA pB pC;obtain ⟨⟨t0, t1, t2⟩, p0, p1, p2, p3, p4, p5, p6, p7, p8, p9, pA, pB, pC⟩ := hT.out w2 K2.out;try dsimp only at p0 p1 p2 p3 p4 p5 p6 p7 p8 p9 pA
 go_wp2_with fail;with_reducible refine (cF.out w2 K2.out).mono ?_
 rintro e w3 ⟨rfl, k3⟩;have K3 := Hd (K2.out.trans (k3.mono K2.out.size));clear k3 K2 t0 t1 t2 p0 p1 p2 p3 p4 p5 p6 p7 p8 p9 pA pB pC;obtain ⟨⟨t0, t1, t2⟩, p0, p1, p2, p3, p4, p5, p6, p7, p8, p9, pA, pB, pC⟩ := hT.out w3 K3.out;try dsimp only at p0 p1 p2 p3 p4 p5 p6 p7 p8 p9 pA
 have hnoB := Hd (show ∀ W, Below w1.heap.size w1 W → BelK B0 w0 (W.setRow (B + 2) #[.slice a1 N1 a2, .slice b1 N2 b2, .slice c1 N3 c2]) from fun W BB => belK_no hBw.out hB.out hB0 (by omega) BB _);generalize plI (keysE g.es) c.id = P2 at *
 have hEC := Hd (show c.ends ≠ [] → ∃ eb eo, e1 = some ⟨eb, eo, none⟩ ∧ ∀ W, Below w1.heap.size w1 W → ∀ j (hj : j < c.ends.length), W.cell? ⟨eb, eo + j, none⟩ = some (.int .i64 c.ends[j]) from fun h => by
  obtain ⟨eb, eo, h1, _, h2⟩ := (hL4.out w1 (Below.refl _ _)).at' h;exact ⟨eb, eo, h1, h2⟩)
 have cE := Hd (show ∀ W n, n ∈ c.ends → Below w1.heap.size w1 W → Calls Tryz.prog 48 #[.agg #[.slice a1 N1 a2, .slice b1 N2 b2, .slice c1 N3 c2], .int .i64 n] W fun e w' => e = .returned (.int .i64 (endV g.es n)) ∧ Below w1.heap.size w1 w' from fun W n hn BB => (EndR_any _ g n W (hgv.out W BB) (by rw [← hN2.out]; omega) (hrh.out n hn).1 (hrh.out n hn).2).mono fun e w' h => ⟨h.1, BB.trans (h.2.mono BB.size)⟩);obtain ⟨P1, hP1⟩ : ∃ P, Hid (P = plI (keysV g.vs) c.id) := ⟨_, rfl⟩;rw [← hP1.out];go_wp2_with fail
 go_loopw [12] (fun i wr => ∃ k : Nat, k ≤ m1 ∧ i = .int .i64 k ∧ Hid (Below w1.heap.size w1 wr) ∧ Hid (∀ j (hj : j < c.ends.length), j < k → endV g.es c.ends[j] = c.id ∧ ∀ h0 : 0 < j, c.ends[j - 1] < c.ends[j])) (fun i _ => m1 - (intOf i).toNat)
 case atStart => exact ⟨0, by omega, rfl, K3.out, fun j _ h => by omega⟩
 case round =>
 clear t0 t1 t2 p0 p1 p2 p3 p4 p5 p6 p7 p8 p9 pA pB pC;obtain ⟨k, hk, rfl, kr, hpass⟩ := hrel;have k0 : (0 : Int) ≤ (k : Int) := by omega
 by_cases hlt : k < m1
 ·have k1 : (k : Int) < (m1 : Int) := by omega
  have hlE : k < c.ends.length := by rw [← hm1.out]; exact hlt
  obtain ⟨eb, eo, he1, hcl⟩ := hEC.out (fun e => by rw [e] at hlE; simp at hlE);obtain ⟨x, hx, cx, cEx⟩ : ∃ x, Hid (∀ hk : k < c.ends.length, c.ends[k] = x) ∧ Hid (∀ W, Below w1.heap.size w1 W → W.cell? ⟨eb, eo + k, none⟩ = some (.int .i64 x)) ∧ Hid (∀ W, Below w1.heap.size w1 W → Calls Tryz.prog 48 #[.agg #[.slice a1 N1 a2, .slice b1 N2 b2, .slice c1 N3 c2], .int .i64 x] W fun e w' => e = .returned (.int .i64 (endV g.es x)) ∧ Below w1.heap.size w1 w') :=
   ⟨c.ends[k], fun _ => rfl, fun W BB => hcl W BB k hlE, fun W BB => cE.out W _ (List.getElem_mem hlE) BB⟩
  subst he1;have hlEh := Hd hlE;by_cases hv : endV g.es x = c.id;rotate_left
  ·have hno : Hid (act8 g c = none) := act8_no g c hokh.out k hlE (.inl (by rw [hx.out]; exact hv));obtain ⟨V, hV⟩ : ∃ V, Hid (V = endV g.es x) := ⟨_, rfl⟩;rw [← hV.out] at cEx hv;have q1 : (V == c.id) = false := by simpa using hv
   have q2 : (V != c.id) = true := by simpa using hv
   have q3 : decide (V = c.id) = false := decide_eq_false hv;clear hcl hv hlE hlt;obtain ⟨⟨t0, t1, t2⟩, p0, p1, p2, p3, p4, p5, p6, p7, p8, p9, pA, pB, pC⟩ := hT.out wr kr.out;try dsimp only at p0 p1 p2 p3 p4 p5 p6 p7 p8 p9 pA
   go_upto_region 49 with (fail);clear t0 t1 t2 p0 p1 p2 p3 p4 p5 p6 p7 p8 p9 pA pB pC;refine q_region (fun W => Below w1.heap.size w1 W) (by kernel_rfl) (by kernel_rfl) (kr.out.drew) ?_;iterate 6 (refine q_take (v := ?_) (by rfl) ?_ ?_; rotate_left; (first | ((intro w h; go_simp) <;> with_reducible rfl) | ((intro w h; obtain ⟨⟨t0, t1, t2⟩, p0, p1, p2, p3, p4, p5, p6, p7, p8, p9, pA, pB, pC⟩ := hT.out w h; (try dsimp only at p9); have cx1 := cx.out w h; go_simp) <;> with_reducible rfl)); try simp only [Act.put, zT, z0, zS])
   refine q_call (v := .int .i64 V) Tryz.f48 (by rfl) rfl Tryz.func48 (by kernel_rfl) (by kernel_rfl) #[.agg #[.slice a1 N1 a2, .slice b1 N2 b2, .slice c1 N3 c2], .int .i64 x] (by simp [Act.eval]) (fun w hSw => cEx.out w hSw) ?_;try simp only [Act.put, zT, z0, zS]
   refine q_take (v := ?_) (by rfl) ?_ ?_;rotate_left
   ·((intro w hSw; go_simp) <;> with_reducible rfl)
   try simp only [Act.put, zT, z0, zS]
   refine q_take (v := ?_) (by rfl) ?_ ?_;rotate_left
   ·((intro w hSw; obtain ⟨⟨t0, t1, t2⟩, p0, p1, p2, p3, p4, p5, p6, p7, p8, p9, pA, pB, pC⟩ := hT.out w hSw; (try dsimp only at p9); have cx1 := cx.out w hSw; go_simp) <;> with_reducible rfl)
   try simp only [Act.put, zT, z0, zS]
   refine q_take (v := .bool true) (by rfl) (fun w hSw => ?_) ?_
   ·first | (go_simp; done) | (go_simp <;> go_num) | (go_simp; rw [q4]) | (go_simp; rw [q4]; go_simp) | (go_simp; simp [q4]) | (go_simp; exact IntWalk.i64_in _ (by omega))
   try simp only [Act.put, zT, z0, zS]
   iterate 17 (first | (refine q_skip (by rfl) ?_; try simp only [Act.put, zT, z0, zS]) | (refine q_take (v := ?_) (by rfl) ?_ ?_; rotate_left; (first | ((intro w h; go_simp) <;> with_reducible rfl)); try simp only [Act.put, zT, z0, zS]))
   refine q_take (v := .bool true) (by rfl) (fun w hSw => ?_) ?_
   ·first | (go_simp; done) | (go_simp <;> go_num) | (go_simp; rw [q4]) | (go_simp; rw [q4]; go_simp) | (go_simp; simp [q4]) | (go_simp; exact IntWalk.i64_in _ (by omega))
   try simp only [Act.put, zT, z0, zS]
   refine q_nil ?_;intro wq kq;have kq1 := Hd kq;clear kq;obtain ⟨⟨t0, t1, t2⟩, p0, p1, p2, p3, p4, p5, p6, p7, p8, p9, pA, pB, pC⟩ := hT.out wq kq1.out;try dsimp only at p0 p1 p2 p3 p4 p5 p6 p7 p8 p9 pA
   have r8 := Hd (hR.out wq kq1.out);have hf := Hd (hnoB.out wq kq1.out);go_upto_region 50 with (fail)
   go_wp2_with (refine wpList_store_row rfl 26 (.tmp 4) (.tmp 288) rfl (B + 2) #[.slice a1 N1 a2, .slice b1 N2 b2, .slice c1 N3 c2] rfl rfl 26 _ r8.out (size26b _ _ _) rfl (by simp [Value.oneCell']) ?_)
   refine bodyPost_ret (results_cell_tmp_row (fn := Tryz.f58) rfl _ _ (B + 2) 26 #[.slice a1 N1 a2, .slice b1 N2 b2, .slice c1 N3 c2] (0, 0) _ _ rfl rfl (setRow_heap _ _ _ _ _ _ r8.out) Tryz.underlying26 rfl (size26b _ _ _)) rfl ?_;exact ActR.no (by rw [hact.out]; exact hno.out) rfl hf.out
  ·rw [hv] at cEx;by_cases hk0 : 0 < k;rotate_left
   ·have q2 : ¬ (0 : Int) < (k : Int) := by omega
    have q3 : decide ((0 : Int) < (k : Int)) = false := decide_eq_false q2;have hp2 : Hid (∀ j (hj : j < c.ends.length), j < k + 1 → endV g.es c.ends[j] = c.id ∧ ∀ h0 : 0 < j, c.ends[j - 1] < c.ends[j]) := fun j hj hjk => by
     have : j = k := by omega
     subst this;exact ⟨by rw [hx.out]; exact hv, fun h0 => absurd h0 hk0⟩
    clear hcl hv hlE hk0;obtain ⟨⟨t0, t1, t2⟩, p0, p1, p2, p3, p4, p5, p6, p7, p8, p9, pA, pB, pC⟩ := hT.out wr kr.out;try dsimp only at p0 p1 p2 p3 p4 p5 p6 p7 p8 p9 pA
    go_upto_region 49 with (fail);clear t0 t1 t2 p0 p1 p2 p3 p4 p5 p6 p7 p8 p9 pA pB pC;refine q_region (fun W => Below w1.heap.size w1 W) (by kernel_rfl) (by kernel_rfl) (kr.out.drew) ?_;iterate 6 (refine q_take (v := ?_) (by rfl) ?_ ?_; rotate_left; (first | ((intro w h; go_simp) <;> with_reducible rfl) | ((intro w h; obtain ⟨⟨t0, t1, t2⟩, p0, p1, p2, p3, p4, p5, p6, p7, p8, p9, pA, pB, pC⟩ := hT.out w h; (try dsimp only at p9); have cx1 := cx.out w h; go_simp) <;> with_reducible rfl)); try simp only [Act.put, zT, z0, zS])
    refine q_call (v := .int .i64 c.id) Tryz.f48 (by rfl) rfl Tryz.func48 (by kernel_rfl) (by kernel_rfl) #[.agg #[.slice a1 N1 a2, .slice b1 N2 b2, .slice c1 N3 c2], .int .i64 x] (by simp [Act.eval]) (fun w hSw => cEx.out w hSw) ?_;try simp only [Act.put, zT, z0, zS]
    refine q_take (v := ?_) (by rfl) ?_ ?_;rotate_left
    ·((intro w hSw; go_simp) <;> with_reducible rfl)
    try simp only [Act.put, zT, z0, zS]
    refine q_take (v := ?_) (by rfl) ?_ ?_;rotate_left
    ·((intro w hSw; obtain ⟨⟨t0, t1, t2⟩, p0, p1, p2, p3, p4, p5, p6, p7, p8, p9, pA, pB, pC⟩ := hT.out w hSw; (try dsimp only at p9); have cx1 := cx.out w hSw; go_simp) <;> with_reducible rfl)
    try simp only [Act.put, zT, z0, zS]
    refine q_take (v := .bool false) (by rfl) (fun w hSw => ?_) ?_
    ·first | (go_simp; done) | (go_simp <;> go_num) | (go_simp; rw [q4]) | (go_simp; rw [q4]; go_simp) | (go_simp; simp [q4]) | (go_simp; exact IntWalk.i64_in _ (by omega))
    try simp only [Act.put, zT, z0, zS]
    refine q_take (v := ?_) (by rfl) ?_ ?_;rotate_left
    ·((intro w hSw; go_simp) <;> with_reducible rfl)
    try simp only [Act.put, zT, z0, zS]
    refine q_take (v := ?_) (by rfl) ?_ ?_;rotate_left
    ·((intro w hSw; go_simp) <;> with_reducible rfl)
    try simp only [Act.put, zT, z0, zS]
    refine q_take (v := .bool false) (by rfl) (fun w hSw => ?_) ?_
    ·first | (go_simp; done) | (go_simp <;> go_num) | (go_simp; rw [q4]) | (go_simp; rw [q4]; go_simp) | (go_simp; simp [q4]) | (go_simp; exact IntWalk.i64_in _ (by omega))
    try simp only [Act.put, zT, z0, zS]
    iterate 13 (first | (refine q_skip (by rfl) ?_; try simp only [Act.put, zT, z0, zS]) | (refine q_take (v := ?_) (by rfl) ?_ ?_; rotate_left; (first | ((intro w h; go_simp) <;> with_reducible rfl)); try simp only [Act.put, zT, z0, zS]))
    refine q_take (v := .bool false) (by rfl) (fun w hSw => ?_) ?_
    ·first | (go_simp; done) | (go_simp <;> go_num) | (go_simp; rw [q4]) | (go_simp; rw [q4]; go_simp) | (go_simp; simp [q4]) | (go_simp; exact IntWalk.i64_in _ (by omega))
    try simp only [Act.put, zT, z0, zS]
    refine q_take (v := .bool false) (by rfl) (fun w hSw => ?_) ?_
    ·first | (go_simp; done) | (go_simp <;> go_num) | (go_simp; rw [q4]) | (go_simp; rw [q4]; go_simp) | (go_simp; simp [q4]) | (go_simp; exact IntWalk.i64_in _ (by omega))
    try simp only [Act.put, zT, z0, zS]
    refine q_nil ?_;intro wq kq;have kq1 := Hd kq;clear kq;go_wp2_with fail
    go_roundw
    case rel => exact ⟨k + 1, by omega, by go_num, kq1.out, hp2.out⟩
    case measure => simp [intOf]; omega
   ·obtain ⟨kp, hkp⟩ : ∃ kp, Hid (k = kp + 1) := ⟨k - 1, Hd (by omega)⟩;obtain ⟨y, hy, cy⟩ : ∃ y, Hid (∀ hk : k - 1 < c.ends.length, c.ends[k - 1] = y) ∧ Hid (∀ W, Below w1.heap.size w1 W → W.cell? ⟨eb, eo + kp, none⟩ = some (.int .i64 y)) :=
     ⟨c.ends[k - 1], fun _ => rfl, fun W BB => by have h := hcl W BB (k - 1) (by omega); rw [show kp = k - 1 by have := hkp.out; omega]; exact h⟩
    have q2 : (0 : Int) < (k : Int) := by omega
    have q3 : decide ((0 : Int) < (k : Int)) = true := decide_eq_true q2;have q4 : (k : Int) - 1 = (kp : Int) := by have := hkp.out; omega
    have q5 : (0 : Int) ≤ (kp : Int) := by omega
    have q6 : (kp : Int) < (m1 : Int) := by omega
    by_cases hle : x ≤ y
    ·have hno : Hid (act8 g c = none) := act8_no g c hokh.out k hlE (.inr ⟨hk0, by rw [hx.out, hy.out]; omega⟩);have q7 : decide (x ≤ y) = true := decide_eq_true hle;clear hcl hv hlE hk0;obtain ⟨⟨t0, t1, t2⟩, p0, p1, p2, p3, p4, p5, p6, p7, p8, p9, pA, pB, pC⟩ := hT.out wr kr.out;try dsimp only at p0 p1 p2 p3 p4 p5 p6 p7 p8 p9 pA
     go_upto_region 49 with (fail);clear t0 t1 t2 p0 p1 p2 p3 p4 p5 p6 p7 p8 p9 pA pB pC;refine q_region (fun W => Below w1.heap.size w1 W) (by kernel_rfl) (by kernel_rfl) (kr.out.drew) ?_;iterate 6 (refine q_take (v := ?_) (by rfl) ?_ ?_; rotate_left; (first | ((intro w h; go_simp) <;> with_reducible rfl) | ((intro w h; obtain ⟨⟨t0, t1, t2⟩, p0, p1, p2, p3, p4, p5, p6, p7, p8, p9, pA, pB, pC⟩ := hT.out w h; (try dsimp only at p9); have cx1 := cx.out w h; have cy1 := cy.out w h; go_simp) <;> with_reducible rfl)); try simp only [Act.put, zT, z0, zS])
     refine q_call (v := .int .i64 c.id) Tryz.f48 (by rfl) rfl Tryz.func48 (by kernel_rfl) (by kernel_rfl) #[.agg #[.slice a1 N1 a2, .slice b1 N2 b2, .slice c1 N3 c2], .int .i64 x] (by simp [Act.eval]) (fun w hSw => cEx.out w hSw) ?_;try simp only [Act.put, zT, z0, zS]
     refine q_take (v := ?_) (by rfl) ?_ ?_;rotate_left
     ·((intro w hSw; go_simp) <;> with_reducible rfl)
     try simp only [Act.put, zT, z0, zS]
     refine q_take (v := ?_) (by rfl) ?_ ?_;rotate_left
     ·((intro w hSw; obtain ⟨⟨t0, t1, t2⟩, p0, p1, p2, p3, p4, p5, p6, p7, p8, p9, pA, pB, pC⟩ := hT.out w hSw; (try dsimp only at p9); have cx1 := cx.out w hSw; have cy1 := cy.out w hSw; go_simp) <;> with_reducible rfl)
     try simp only [Act.put, zT, z0, zS]
     refine q_take (v := .bool false) (by rfl) (fun w hSw => ?_) ?_
     ·first | (go_simp; done) | (go_simp <;> go_num) | (go_simp; rw [q4]) | (go_simp; rw [q4]; go_simp) | (go_simp; simp [q4]) | (go_simp; exact IntWalk.i64_in _ (by omega))
     try simp only [Act.put, zT, z0, zS]
     refine q_take (v := ?_) (by rfl) ?_ ?_;rotate_left
     ·((intro w hSw; go_simp) <;> with_reducible rfl)
     try simp only [Act.put, zT, z0, zS]
     refine q_take (v := ?_) (by rfl) ?_ ?_;rotate_left
     ·((intro w hSw; go_simp) <;> with_reducible rfl)
     try simp only [Act.put, zT, z0, zS]
     refine q_take (v := .bool true) (by rfl) (fun w hSw => ?_) ?_
     ·first | (go_simp; done) | (go_simp <;> go_num) | (go_simp; rw [q4]) | (go_simp; rw [q4]; go_simp) | (go_simp; simp [q4]) | (go_simp; exact IntWalk.i64_in _ (by omega))
     try simp only [Act.put, zT, z0, zS]
     iterate 9 (refine q_take (v := ?_) (by rfl) ?_ ?_; rotate_left; (first | ((intro w h; go_simp) <;> with_reducible rfl) | ((intro w h; obtain ⟨⟨t0, t1, t2⟩, p0, p1, p2, p3, p4, p5, p6, p7, p8, p9, pA, pB, pC⟩ := hT.out w h; (try dsimp only at p9); have cx1 := cx.out w h; have cy1 := cy.out w h; go_simp) <;> with_reducible rfl)); try simp only [Act.put, zT, z0, zS])
     refine q_take (v := .int .i64 (kp : Int)) (by rfl) (fun w hSw => ?_) ?_
     ·first | (go_simp; done) | (go_simp <;> go_num) | (go_simp; rw [q4]) | (go_simp; rw [q4]; go_simp) | (go_simp; simp [q4]) | (go_simp; exact IntWalk.i64_in _ (by omega))
     try simp only [Act.put, zT, z0, zS]
     iterate 5 (refine q_take (v := ?_) (by rfl) ?_ ?_; rotate_left; (first | ((intro w h; go_simp) <;> with_reducible rfl) | ((intro w h; obtain ⟨⟨t0, t1, t2⟩, p0, p1, p2, p3, p4, p5, p6, p7, p8, p9, pA, pB, pC⟩ := hT.out w h; (try dsimp only at p9); have cx1 := cx.out w h; have cy1 := cy.out w h; go_simp) <;> with_reducible rfl)); try simp only [Act.put, zT, z0, zS])
     refine q_nil ?_;intro wq kq;have kq1 := Hd kq;clear kq;obtain ⟨⟨t0, t1, t2⟩, p0, p1, p2, p3, p4, p5, p6, p7, p8, p9, pA, pB, pC⟩ := hT.out wq kq1.out;try dsimp only at p0 p1 p2 p3 p4 p5 p6 p7 p8 p9 pA
     have r8 := Hd (hR.out wq kq1.out);have hf := Hd (hnoB.out wq kq1.out);go_upto_region 50 with (fail)
     go_wp2_with (refine wpList_store_row rfl 26 (.tmp 4) (.tmp 288) rfl (B + 2) #[.slice a1 N1 a2, .slice b1 N2 b2, .slice c1 N3 c2] rfl rfl 26 _ r8.out (size26b _ _ _) rfl (by simp [Value.oneCell']) ?_)
     refine bodyPost_ret (results_cell_tmp_row (fn := Tryz.f58) rfl _ _ (B + 2) 26 #[.slice a1 N1 a2, .slice b1 N2 b2, .slice c1 N3 c2] (0, 0) _ _ rfl rfl (setRow_heap _ _ _ _ _ _ r8.out) Tryz.underlying26 rfl (size26b _ _ _)) rfl ?_;exact ActR.no (by rw [hact.out]; exact hno.out) rfl hf.out
    ·have q7 : decide (x ≤ y) = false := decide_eq_false hle;have hp2 : Hid (∀ j (hj : j < c.ends.length), j < k + 1 → endV g.es c.ends[j] = c.id ∧ ∀ h0 : 0 < j, c.ends[j - 1] < c.ends[j]) := fun j hj hjk => by
      by_cases e : j = k
      ·subst e;exact ⟨by rw [hx.out]; exact hv, fun h0 => by rw [hx.out, hy.out]; omega⟩
      ·exact hpass.out j hj (by omega)
     clear hcl hv hlE hk0;obtain ⟨⟨t0, t1, t2⟩, p0, p1, p2, p3, p4, p5, p6, p7, p8, p9, pA, pB, pC⟩ := hT.out wr kr.out;try dsimp only at p0 p1 p2 p3 p4 p5 p6 p7 p8 p9 pA
     go_upto_region 49 with (fail);clear t0 t1 t2 p0 p1 p2 p3 p4 p5 p6 p7 p8 p9 pA pB pC;refine q_region (fun W => Below w1.heap.size w1 W) (by kernel_rfl) (by kernel_rfl) (kr.out.drew) ?_;iterate 6 (refine q_take (v := ?_) (by rfl) ?_ ?_; rotate_left; (first | ((intro w h; go_simp) <;> with_reducible rfl) | ((intro w h; obtain ⟨⟨t0, t1, t2⟩, p0, p1, p2, p3, p4, p5, p6, p7, p8, p9, pA, pB, pC⟩ := hT.out w h; (try dsimp only at p9); have cx1 := cx.out w h; have cy1 := cy.out w h; go_simp) <;> with_reducible rfl)); try simp only [Act.put, zT, z0, zS])
     refine q_call (v := .int .i64 c.id) Tryz.f48 (by rfl) rfl Tryz.func48 (by kernel_rfl) (by kernel_rfl) #[.agg #[.slice a1 N1 a2, .slice b1 N2 b2, .slice c1 N3 c2], .int .i64 x] (by simp [Act.eval]) (fun w hSw => cEx.out w hSw) ?_;try simp only [Act.put, zT, z0, zS]
     refine q_take (v := ?_) (by rfl) ?_ ?_;rotate_left
     ·((intro w hSw; go_simp) <;> with_reducible rfl)
     try simp only [Act.put, zT, z0, zS]
     refine q_take (v := ?_) (by rfl) ?_ ?_;rotate_left
     ·((intro w hSw; obtain ⟨⟨t0, t1, t2⟩, p0, p1, p2, p3, p4, p5, p6, p7, p8, p9, pA, pB, pC⟩ := hT.out w hSw; (try dsimp only at p9); have cx1 := cx.out w hSw; have cy1 := cy.out w hSw; go_simp) <;> with_reducible rfl)
     try simp only [Act.put, zT, z0, zS]
     refine q_take (v := .bool false) (by rfl) (fun w hSw => ?_) ?_
     ·first | (go_simp; done) | (go_simp <;> go_num) | (go_simp; rw [q4]) | (go_simp; rw [q4]; go_simp) | (go_simp; simp [q4]) | (go_simp; exact IntWalk.i64_in _ (by omega))
     try simp only [Act.put, zT, z0, zS]
     refine q_take (v := ?_) (by rfl) ?_ ?_;rotate_left
     ·((intro w hSw; go_simp) <;> with_reducible rfl)
     try simp only [Act.put, zT, z0, zS]
     refine q_take (v := ?_) (by rfl) ?_ ?_;rotate_left
     ·((intro w hSw; go_simp) <;> with_reducible rfl)
     try simp only [Act.put, zT, z0, zS]
     refine q_take (v := .bool true) (by rfl) (fun w hSw => ?_) ?_
     ·first | (go_simp; done) | (go_simp <;> go_num) | (go_simp; rw [q4]) | (go_simp; rw [q4]; go_simp) | (go_simp; simp [q4]) | (go_simp; exact IntWalk.i64_in _ (by omega))
     try simp only [Act.put, zT, z0, zS]
     iterate 9 (refine q_take (v := ?_) (by rfl) ?_ ?_; rotate_left; (first | ((intro w h; go_simp) <;> with_reducible rfl) | ((intro w h; obtain ⟨⟨t0, t1, t2⟩, p0, p1, p2, p3, p4, p5, p6, p7, p8, p9, pA, pB, pC⟩ := hT.out w h; (try dsimp only at p9); have cx1 := cx.out w h; have cy1 := cy.out w h; go_simp) <;> with_reducible rfl)); try simp only [Act.put, zT, z0, zS])
     refine q_take (v := .int .i64 (kp : Int)) (by rfl) (fun w hSw => ?_) ?_
     ·first | (go_simp; done) | (go_simp <;> go_num) | (go_simp; rw [q4]) | (go_simp; rw [q4]; go_simp) | (go_simp; simp [q4]) | (go_simp; exact IntWalk.i64_in _ (by omega))
     try simp only [Act.put, zT, z0, zS]
     iterate 5 (refine q_take (v := ?_) (by rfl) ?_ ?_; rotate_left; (first | ((intro w h; go_simp) <;> with_reducible rfl) | ((intro w h; obtain ⟨⟨t0, t1, t2⟩, p0, p1, p2, p3, p4, p5, p6, p7, p8, p9, pA, pB, pC⟩ := hT.out w h; (try dsimp only at p9); have cx1 := cx.out w h; have cy1 := cy.out w h; go_simp) <;> with_reducible rfl)); try simp only [Act.put, zT, z0, zS])
     refine q_nil ?_;intro wq kq;have kq1 := Hd kq;clear kq;go_wp2_with fail
     go_roundw
     case rel => exact ⟨k + 1, by omega, by go_num, kq1.out, hp2.out⟩
     case measure => simp [intOf]; omega
 ·have hk2 : k = m1 := by omega
  subst hk2;have k1 : ¬ ((k : Nat) : Int) < (k : Int) := by omega
  have hall := Hd (show ∀ j (hj : j < c.ends.length), endV g.es c.ends[j] = c.id ∧ ∀ h0 : 0 < j, c.ends[j - 1] < c.ends[j] from fun j hj => hpass.out j hj (by rw [hm1.out]; exact hj));clear hpass;have cW := Hd (withVertexR_own (.slice a1 N1 a2) (.slice b1 N2 b2) (.slice c1 N3 c2) g c.v wr (OwnV.VL (hO1.out wr kr.out)) (OwnEd.EL (hO2.out wr kr.out)) (OwnI.DL (hO3.out wr kr.out)) hokh.out.vasc (by rw [← hN1.out]; omega));obtain ⟨⟨t0, t1, t2⟩, p0, p1, p2, p3, p4, p5, p6, p7, p8, p9, pA, pB, pC⟩ := hT.out wr kr.out;try dsimp only at p0 p1 p2 p3 p4 p5 p6 p7 p8 p9 pA
  go_wp2_with fail;with_reducible refine cW.out.mono ?_
  rintro e w4 ⟨xv, hcond, ⟨x1, y1, x2, rfl⟩, b4⟩;have K4 := Hd (kr.out.trans (b4.mono kr.out.size));have K4s := K4.out.size;have hwr4 : wr.heap.size ≤ w4.heap.size := b4.size;clear b4 cW;clear t0 t1 t2 p0 p1 p2 p3 p4 p5 p6 p7 p8 p9 pA pB pC;by_cases hc : (c.v.ok && !decide (c.v.id ∈ keysV g.vs)) = true;rotate_left
  ·rw [if_neg hc] at hcond;subst hcond;have hno := Hd (show act8 g c = none by
    unfold act8;rw [if_neg];intro h;rw [Bool.and_eq_true, Bool.and_eq_true] at h;exact hc h.1.2)
   clear hc;go_upto_region 52 with (fail);obtain ⟨w5, hw5⟩ : ∃ W, W = w4.alloc (.cells #[.slice x1 y1 x2, .slice b1 N2 b2, .slice c1 N3 c2] 26) := ⟨_, rfl⟩;rw [← hw5];obtain ⟨bb, hpw0⟩ := box_new hw5;have hpw := Hd hpw0;have K5 := Hd (K4.out.trans (bb.mono K4s));have K5s := K5.out.size;have hw45 : w4.heap.size < w5.heap.size := by rw [hw5]; simp
   have bbh := Hd bb;clear hw5 hpw0 bb;obtain ⟨⟨t0, t1, t2⟩, p0, p1, p2, p3, p4, p5, p6, p7, p8, p9, pA, pB, pC⟩ := hT.out w5 K5.out;try dsimp only at p0 p1 p2 p3 p4 p5 p6 p7 p8 p9 pA
   have r8 := Hd (hR.out w5 K5.out);have hf := Hd (hnoB.out w5 K5.out);by_cases hm : P1 < 0
   ·have s1 : decide (P1 < 0) = true := decide_eq_true hm;go_upto_region 53 with (fail)
    go_wp2_with (refine wpList_store_row rfl 26 (.tmp 4) (.tmp 302) rfl (B + 2) #[.slice a1 N1 a2, .slice b1 N2 b2, .slice c1 N3 c2] rfl rfl 26 _ r8.out (size26b _ _ _) rfl (by simp [Value.oneCell']) ?_)
    refine bodyPost_ret (results_cell_tmp_row (fn := Tryz.f58) rfl _ _ (B + 2) 26 #[.slice a1 N1 a2, .slice b1 N2 b2, .slice c1 N3 c2] (0, 0) _ _ rfl rfl (setRow_heap _ _ _ _ _ _ r8.out) Tryz.underlying26 rfl (size26b _ _ _)) rfl ?_;exact ActR.no (by rw [hact.out]; exact hno.out) rfl hf.out
   ·have s1 : decide (P1 < 0) = false := decide_eq_false hm;go_upto_region 53 with (fail)
    go_wp2_with (refine wpList_store_row rfl 26 (.tmp 4) (.tmp 302) rfl (B + 2) #[.slice a1 N1 a2, .slice b1 N2 b2, .slice c1 N3 c2] rfl rfl 26 _ r8.out (size26b _ _ _) rfl (by simp [Value.oneCell']) ?_)
    refine bodyPost_ret (results_cell_tmp_row (fn := Tryz.f58) rfl _ _ (B + 2) 26 #[.slice a1 N1 a2, .slice b1 N2 b2, .slice c1 N3 c2] (0, 0) _ _ rfl rfl (setRow_heap _ _ _ _ _ _ r8.out) Tryz.underlying26 rfl (size26b _ _ _)) rfl ?_;exact ActR.no (by rw [hact.out]; exact hno.out) rfl hf.out
  ·rw [if_pos hc] at hcond;obtain ⟨rfl, hxv, hxo⟩ := hcond;have hxvh := Hd hxv;have hxoh := Hd hxo;have hge := Hd (show RowGe B0 (.slice x1 y1 x2) ∧ RowGe B0 (.slice b1 N2 b2) ∧ RowGe B0 (.slice c1 N3 c2) from ⟨fun j hj => by have := hxo j hj; have := kr.out.size; have := hBw.out.size; omega, own_ge (hO2.out w1 (Below.refl _ _)), own_ge (hO3.out w1 (Below.refl _ _))⟩);have hch := Hd hc;clear hxv hxo hc;go_upto_region 52 with (fail);obtain ⟨w5, hw5⟩ : ∃ W, W = w4.alloc (.cells #[.slice x1 y1 x2, .slice b1 N2 b2, .slice c1 N3 c2] 26) := ⟨_, rfl⟩;rw [← hw5];obtain ⟨bb, hpw0⟩ := box_new hw5;have hpw := Hd hpw0;have K5 := Hd (K4.out.trans (bb.mono K4s));have K5s := K5.out.size;have hw45 : w4.heap.size < w5.heap.size := by rw [hw5]; simp
   have bbh := Hd bb;clear hw5 hpw0 bb;obtain ⟨⟨t0, t1, t2⟩, p0, p1, p2, p3, p4, p5, p6, p7, p8, p9, pA, pB, pC⟩ := hT.out w5 K5.out;try dsimp only at p0 p1 p2 p3 p4 p5 p6 p7 p8 p9 pA
   have r8 := Hd (hR.out w5 K5.out);have hf := Hd (hnoB.out w5 K5.out);by_cases hm : c.id ∈ keysV g.vs;rotate_left
   ·have hno := Hd (show act8 g c = none by unfold act8; simp [hm]);have hm1' : P1 = -1 := by rw [hP1.out]; exact plI_no _ _ hm
    have hm2' : P1 < 0 := by omega
    have s1 : decide (P1 < 0) = true := decide_eq_true hm2';clear hm hm1' ;go_upto_region 53 with (fail)
    go_wp2_with (refine wpList_store_row rfl 26 (.tmp 4) (.tmp 302) rfl (B + 2) #[.slice a1 N1 a2, .slice b1 N2 b2, .slice c1 N3 c2] rfl rfl 26 _ r8.out (size26b _ _ _) rfl (by simp [Value.oneCell']) ?_)
    refine bodyPost_ret (results_cell_tmp_row (fn := Tryz.f58) rfl _ _ (B + 2) 26 #[.slice a1 N1 a2, .slice b1 N2 b2, .slice c1 N3 c2] (0, 0) _ _ rfl rfl (setRow_heap _ _ _ _ _ _ r8.out) Tryz.underlying26 rfl (size26b _ _ _)) rfl ?_;exact ActR.no (by rw [hact.out]; exact hno.out) rfl hf.out
   ·have hends := Hd (act8_pass g c hokh.out hm hall.out);have hyes := Hd (show (act8 g c).map (·.1) = some { g with vs := insV g.vs c.v, es := g.es.map (mvE c.ends c.v.id) } by
     unfold act8;rw [if_pos (by rw [Bool.and_eq_true, Bool.and_eq_true]; exact ⟨⟨by simpa using hm, hch.out⟩, hends.out⟩)];rfl)
    have hin := Hd (show ∀ n ∈ c.ends, n ∈ endsF g.es c.id by
     have h := hends.out;rw [Bool.and_eq_true, List.all_eq_true] at h;exact fun n hn => by simpa using h.2 n hn)
    have hmp : ¬ P1 < 0 := by
     obtain ⟨p, _, hpe, _⟩ := plV_mem g.vs c.id hm;rw [hP1.out, hpe]; omega
    have s1 : decide (P1 < 0) = false := decide_eq_false hmp;obtain ⟨gb, hgb, hb1, hb0, hgne, hS0, hSE⟩ := edW_start (hO2.out w5 K5.out) hN2.out (hbase.out w5 K5.out) (by have := hBw.out.size; omega);have hn26 := Hd (show ∀ cs, w5.heap[gb]? ≠ some (.cells cs 26 (0, 0)) from fun cs e => hgne _ _ _ e (by decide) rfl);have nB : B ≠ gb := hgne _ _ _ ((K5.out.block B (by omega)).trans hbox.out) (by decide);have nC : B + 1 ≠ gb := hgne _ _ _ ((K5.out.block (B + 1) (by omega)).trans hcbx.out) (by decide);have nR : B + 2 ≠ gb := hgne _ _ _ (hR.out w5 K5.out) (by decide);have nQ : w4.heap.size ≠ gb := hgne _ _ _ (hpw.out w5 (Below.refl _ _)) (by decide);have hB5 : B0 ≤ w5.heap.size := by have := hBw.out.size; omega
    have hSh := Hd hS0;have hEh := Hd hSE;have hTS := Hd (show ∀ W L, EdW w5 gb B0 w0 L W → _ ∧ _ from fun W L h => And.intro (box3 ((h.oth w4.heap.size (by omega) nQ).trans (hpw.out w5 (Below.refl _ _)))) (ch_cells (c := { c with kind := 8 }) (a := .slice e1 k e2) (b := .slice f1 m2 f2) ((h.oth (B + 1) (by omega) nC).trans ((K5.out.block (B + 1) (by omega)).trans hcbx.out))));have hRS := Hd (show ∀ W L, EdW w5 gb B0 w0 L W → W.heap[B + 2]? = some (.cells #[.slice none 0 0, .slice none 0 0, .slice none 0 0] 26 (0, 0)) from fun W L h => (h.oth (B + 2) (by omega) nR).trans (hR.out w5 K5.out));have hgbl : gb < wr.heap.size ∨ gb = w5.heap.size := by
     by_cases e : g.es = []
     ·exact .inr (hb0 e)
     ·left
      have := hlow.out.2 gb (by rw [(hb1 e).1]; simp [Value.ownBlock]);have := kr.out.size;omega
    have hVS := Hd (show ∀ W L, EdW w5 gb B0 w0 L W → VL W (.slice x1 y1 x2) (insV g.vs c.v) ∧ DL W (.slice c1 N3 c2) g.ds from fun W L h => by
     have o3 := hO3.out w5 K5.out;refine ⟨VL.keep (hxvh.out.below bbh.out) (fun j hj hjs => h.oth j hjs (by have := hxoh.out j hj; omega)) h.size, OwnI.DL (own_same o3 fun j hj => ?_)⟩;obtain ⟨_, cur, hc⟩ := own_row o3 j hj;exact h.oth j (Array.getElem?_eq_some_iff.1 hc).1 (hgne _ _ _ hc (by decide)))
    have hES := Hd (show ∀ W L, EdW w5 gb B0 w0 L W → ∀ j (hj : j < c.ends.length), ∃ eb eo, e1 = some ⟨eb, eo, none⟩ ∧ W.cell? ⟨eb, eo + j, none⟩ = some (.int .i64 c.ends[j]) from fun W L h j hj => by
     have hne : c.ends ≠ [] := fun e => by rw [e] at hj; simp at hj
     obtain ⟨eb, eo, he1, hcl⟩ := hEC.out hne;have := hxh.out eb eo he1 hne;exact ⟨eb, eo, he1, (keep_cell (h.oth eb (by omega) (by omega))).trans (hcl w5 K5.out j hj)⟩)
    have hb1h := Hd hb1;have hmh := Hd hm;clear hS0 hSE hgne hb1 hb0 hm hgbl;go_wp2_with fail;clear t0 t1 t2 p0 p1 p2 p3 p4 p5 p6 p7 p8 p9 pA pB pC
    go_loopw [15, 16] (fun i _ W => ∃ q : Nat, q ≤ k ∧ i = .int .i64 q ∧ Hid (EdW w5 gb B0 w0 (g.es.map (mvE (c.ends.take q) c.v.id)) W)) (fun i _ _ => k - (intOf i).toNat)
    case atStart => exact ⟨0, by omega, rfl, Hd (by rw [List.take_zero, mv_nil]; exact hSh.out)⟩
    case round =>
    obtain ⟨q, hq, rfl, kq⟩ := hrel;have k0q : (0 : Int) ≤ (q : Int) := by omega
    by_cases hlt : q < k
    ·have k1q : (q : Int) < (k : Int) := by omega
     have hlE : q < c.ends.length := by rw [← hm1.out]; exact hlt
     obtain ⟨h0, p, hp, hpe, hpi⟩ := mv_find g.es c.id c.ends[q] hokh.out.eid0 (hin.out _ (List.getElem_mem hlE));have hne : g.es ≠ [] := fun e => by rw [e] at hp; simp at hp
     have hne2 : c.ends ≠ [] := fun e => by rw [e] at hlE; simp at hlE
     obtain ⟨hb2, hgbl⟩ := hb1h.out hne;obtain ⟨eb, eo, he1, hcl⟩ := hEC.out hne2;have hebB := hxh.out eb eo he1 hne2;obtain ⟨L, hL⟩ : ∃ L, Hid (L = g.es.map (mvE (c.ends.take q) c.v.id)) := ⟨_, rfl⟩;have hLl := Hd (show L.length = N2 by rw [hL.out, List.length_map, hN2.out]);have hpL : p < L.length := by rw [hL.out, List.length_map]; exact hp
     have hpN : p < N2 := by rw [← hLl.out]; exact hpL
     have hpLh := Hd hpL;have hKy := Hd (show keysE L = keysE g.es by rw [hL.out]; exact keys_map _ _ (fun _ => rfl));obtain ⟨x, hx0, hx9, hcx, hpx, hidx, htk⟩ : ∃ x, 0 ≤ x ∧ x ≤ 9223372036854775807 ∧ Hid (∀ W L, EdW w5 gb B0 w0 L W → W.cell? ⟨eb, eo + q, none⟩ = some (.int .i64 x)) ∧ plI (keysE g.es) (x / 2) = p ∧ g.es[p].id = x / 2 ∧ c.ends.take (q + 1) = c.ends.take q ++ [x] :=
      ⟨c.ends[q], h0, (hrh.out _ (List.getElem_mem hlE)).2, fun W L h => (keep_cell (h.oth eb (by omega) (by omega))).trans (hcl w5 K5.out q hlE), hpe, hpi, List.take_succ_eq_append_getElem hlE⟩
     obtain ⟨u, hu⟩ : ∃ u, Hid (∀ h : p < L.length, L[p] = u) := ⟨L[p], fun _ => rfl⟩;have hst := Hd (show g.es.map (mvE (c.ends.take (q + 1)) c.v.id) = L.set p (if x % 2 = 0 then { u with src := c.v.id } else { u with dst := c.v.id }) by
      have e := hu.out hpL;subst e;rw [htk, mv_step g.es hokh.out.easc _ x c.v.id p hp hidx];simp only [hL.out, List.getElem_map])
     have q8 : IntKind.i64.wrap (x.tdiv 2) = x / 2 := by rw [Int.tdiv_eq_ediv_of_nonneg hx0, IntWalk.i64_in _ (by omega)]
     have cF := Hd (show ∀ W, EdW w5 gb B0 w0 L W → Calls Tryz.prog 42 #[.agg #[.slice x1 y1 x2, .slice b1 N2 b2, .slice c1 N3 c2], .int .i64 (x / 2)] W fun e w' => e = .returned (.int .i64 (p : Int)) ∧ EdW w5 gb B0 w0 L w' from fun W h => (FindR_any _ { g with vs := insV g.vs c.v, es := L } (x / 2) W ⟨_, _, _, rfl, (hVS.out W L h).1, hEh.out W L hLl.out h, (hVS.out W L h).2⟩ (by show L.length ≤ _; rw [hLl.out]; omega)).mono fun e w' hh => ⟨by rw [hh.1]; show Ending.returned (.int .i64 (plI (keysE L) (x / 2))) = _; rw [hKy.out, hpx], h.below hh.2 hB5⟩);have kL := Hd (show EdW w5 gb B0 w0 L _ by have h := kq.out; rw [← hL.out] at h; exact h);have i0 : (0 : Int) ≤ (p : Int) := by omega
     have i1 : (p : Int) < (N2 : Int) := by omega
     subst hb2 he1;clear kq hL hcl h0 hpe hpi hne hne2 hebB hidx hpx htk hlE hpL hlt hp;obtain ⟨⟨t0, t1, t2⟩, p0, p1, p2, p3, p4, p5, p6, p7, p8, p9, pA, pB, pC⟩ := hTS.out _ _ kL.out;try dsimp only at p0 p1 p2 p3 p4 p5 p6 p7 p8 p9 pA
     go_upto_region 57 with (fail);clear t0 t1 t2 p0 p1 p2 p3 p4 p5 p6 p7 p8 p9 pA pB pC;refine q_region (fun W => EdW w5 gb B0 w0 L W) (by kernel_rfl) (by kernel_rfl) (kL.out.drew) ?_;iterate 7 (refine q_take (v := ?_) (by rfl) ?_ ?_; rotate_left; (first | ((intro w h; go_simp) <;> with_reducible rfl) | ((intro w h; obtain ⟨⟨t0, t1, t2⟩, p0, p1, p2, p3, p4, p5, p6, p7, p8, p9, pA, pB, pC⟩ := hTS.out w _ h; have cx1 := hcx.out w _ h; go_simp) <;> with_reducible rfl)); try simp only [Act.put, zT, z0, zS])
     refine q_call (v := .int .i64 (p : Int)) Tryz.f42 (by rfl) rfl Tryz.func42 (by kernel_rfl) (by kernel_rfl) #[.agg #[.slice x1 y1 x2, .slice (some ⟨gb, 0, none⟩) N2 b2, .slice c1 N3 c2], .int .i64 (x / 2)] (by simp [Act.eval]) (fun w hSw => cF.out w hSw) ?_;try simp only [Act.put, zT, z0, zS]
     refine q_take (v := ?_) (by rfl) ?_ ?_;rotate_left
     ·((intro w hSw; go_simp) <;> with_reducible rfl)
     try simp only [Act.put, zT, z0, zS]
     refine q_nil ?_;intro wq kq0;have kq1 := Hd kq0;clear kq0 kL;by_cases hpar : x % 2 = 0
     ·have q9 : (x % 2 == 0) = true := by simpa using hpar
      obtain ⟨⟨t0, t1, t2⟩, p0, p1, p2, p3, p4, p5, p6, p7, p8, p9, pA, pB, pC⟩ := hTS.out _ _ kq1.out;try dsimp only at p0 p1 p2 p3 p4 p5 p6 p7 p8 p9 pA
      have cx1 := hcx.out _ _ kq1.out;obtain ⟨cur, hcur⟩ := kq1.out.row (fun e => by have := hpLh.out; rw [e] at this; simp at this);have fr := free_of_block (i := p * 6 + 1) hcur;obtain ⟨d0, d1, d2, d3, d4, d5⟩ := kq1.out.cells hpLh.out;go_upto_region 56 with (fail);clear t0 t1 t2 p0 p1 p2 p3 p4 p5 p6 p7 p8 p9 pA pB pC;clear cx1 hcur fr d0 d1 d2 d3 d4 d5;obtain ⟨wz, hwz⟩ : ∃ W, W = wq.setCell ⟨gb, p * 6 + 1, none⟩ (.int .i64 c.v.id) := ⟨_, rfl⟩;rw [← hwz];have hE := Hd (show EdW w5 gb B0 w0 (g.es.map (mvE (c.ends.take (q + 1)) c.v.id)) wz by
       rw [hst.out, if_pos hpar, hwz];exact kq1.out.set hgb p hpLh.out 1 (by omega) _ _ (by rw [hu.out hpLh.out]; rfl))
      clear hwz hpar q9;go_wp2_with fail
      go_roundw
      case rel => exact ⟨q + 1, by omega, by go_num, hE⟩
      case measure => simp [intOf]; omega
     ·have q9 : (x % 2 == 0) = false := by simpa using hpar
      obtain ⟨⟨t0, t1, t2⟩, p0, p1, p2, p3, p4, p5, p6, p7, p8, p9, pA, pB, pC⟩ := hTS.out _ _ kq1.out;try dsimp only at p0 p1 p2 p3 p4 p5 p6 p7 p8 p9 pA
      have cx1 := hcx.out _ _ kq1.out;obtain ⟨cur, hcur⟩ := kq1.out.row (fun e => by have := hpLh.out; rw [e] at this; simp at this);have fr := free_of_block (i := p * 6 + 2) hcur;obtain ⟨d0, d1, d2, d3, d4, d5⟩ := kq1.out.cells hpLh.out;go_upto_region 56 with (fail);clear t0 t1 t2 p0 p1 p2 p3 p4 p5 p6 p7 p8 p9 pA pB pC;clear cx1 hcur fr d0 d1 d2 d3 d4 d5;obtain ⟨wz, hwz⟩ : ∃ W, W = wq.setCell ⟨gb, p * 6 + 2, none⟩ (.int .i64 c.v.id) := ⟨_, rfl⟩;rw [← hwz];have hE := Hd (show EdW w5 gb B0 w0 (g.es.map (mvE (c.ends.take (q + 1)) c.v.id)) wz by
       rw [hst.out, if_neg hpar, hwz];exact kq1.out.set hgb p hpLh.out 2 (by omega) _ _ (by rw [hu.out hpLh.out]; rfl))
      clear hwz hpar q9;go_wp2_with fail
      go_roundw
      case rel => exact ⟨q + 1, by omega, by go_num, hE⟩
      case measure => simp [intOf]; omega
    ·have hq2 : q = k := by omega
     have k1q : ¬ (q : Int) < (k : Int) := by omega
     have hfu := Hd (show EdW w5 gb B0 w0 (g.es.map (mvE c.ends c.v.id)) _ by have h := kq.out; rw [List.take_of_length_le (by rw [hq2, hm1.out]; exact Nat.le_refl _)] at h; exact h);clear hq2 kq;have hgf := Hd (show GV _ (.agg #[.slice x1 y1 x2, .slice b1 N2 b2, .slice c1 N3 c2]) { g with vs := insV g.vs c.v, es := g.es.map (mvE c.ends c.v.id) } from ⟨_, _, _, rfl, (hVS.out _ _ hfu.out).1, hEh.out _ _ (by rw [List.length_map, hN2.out]) hfu.out, (hVS.out _ _ hfu.out).2⟩);have r8 := Hd (hRS.out _ _ hfu.out);have hf := Hd (belK_at (hBw.out.trans (K5.out.mono (show B ≤ w1.heap.size by omega))) hB.out hB0 hfu.out.bel hn26.out hfu.out.oth #[.slice x1 y1 x2, .slice b1 N2 b2, .slice c1 N3 c2]);obtain ⟨⟨t0, t1, t2⟩, p0, p1, p2, p3, p4, p5, p6, p7, p8, p9, pA, pB, pC⟩ := hTS.out _ _ hfu.out;try dsimp only at p0 p1 p2 p3 p4 p5 p6 p7 p8 p9 pA
     go_upto_region 61 with (fail)
     go_wp2_with (refine wpList_store_row rfl 26 (.tmp 4) (.tmp 341) rfl (B + 2) #[.slice x1 y1 x2, .slice b1 N2 b2, .slice c1 N3 c2] rfl rfl 26 _ r8.out (size26b _ _ _) rfl (by simp [Value.oneCell']) ?_)
     refine bodyPost_ret (results_cell_tmp_row (fn := Tryz.f58) rfl _ _ (B + 2) 26 #[.slice x1 y1 x2, .slice b1 N2 b2, .slice c1 N3 c2] (0, 0) _ _ rfl rfl (setRow_heap _ _ _ _ _ _ r8.out) Tryz.underlying26 rfl (size26b _ _ _)) rfl ?_;exact ActR.yesM (by rw [hact.out]; exact hyes.out) rfl (GV.shut0 hgf.out r8.out _) hge.out hf.out
end Go.Proofs.YtlaldnlgapeckaaGreat
