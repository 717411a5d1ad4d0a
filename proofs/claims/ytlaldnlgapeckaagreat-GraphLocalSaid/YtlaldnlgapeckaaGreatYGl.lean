/- Contracts and facts. -/
import Derived.Test.YtlaldnlgapeckaaGreatYGk
namespace Go.Proofs.YtlaldnlgapeckaaGreat
open Go.RowKit
set_option linter.unusedSimpArgs false in
set_option maxRecDepth 100000 in
set_option maxHeartbeats 8000000 in
theorem Local_any (n : Int) (vl : Value) (l : List F5) (wide : Bool) (x : F6) (w : World) (hl : L5 w vl l) (hn : i64B n) (hlen : l.length ≤ 9223372036854775807) (hr : ∀ r ∈ l, i64B r.a ∧ i64B r.b ∧ i64B r.c ∧ i64B r.d ∧ i64B r.e) (hx : x.inB) :
  Calls Tryz.prog 6 #[.int .i64 n, vl, .bool wide, .agg x.cells] w fun e w' => e = .returned (.bool true) ∧ Below w.heap.size w w' := by
 obtain ⟨W0, hW0⟩ : ∃ W0, W0 = w.alloc (.cells x.cells 42) := ⟨_, rfl⟩
 obtain ⟨B0, gx0⟩ := box_new hW0
 have cS := Lib.hid (sane_any W0)
 have cM := Lib.hid (fun W (B : Below W0.heap.size W0 W) => Made_any n vl l wide W ((hl.below B0).below B) hn hlen hr)
 obtain ⟨G, hG⟩ : ∃ G, Hid (G = madeG n l wide) := ⟨_, rfl⟩
 have hok0 : Ok G := by rw [hG.out]; exact made_ok n l wide
 rw [← hG.out] at cM
 have hvl := hok0.vlen
 have hel := hok0.elen
 have hdl := hok0.dlen
 have hgok : G.ok = true := (ok_iff G).2 hok0
 have cC := Lib.hid (fun v W h => Changed_any v G x W h (by omega) hx)
 have hlc := changed_len G x (by omega)
 obtain ⟨c, hc⟩ : ∃ c, Hid (c = changedC G x) := ⟨_, rfl⟩
 rw [← hc.out] at hlc cC
 have cOk := Lib.hid (fun v vc g' W h h2 (ha : (actF G c).map (·.1) = some g') => apply_ok v vc G c g' W h h2 (by omega) (by omega) hgok ha)
 have cNo := Lib.hid (fun v vc W h h2 (ha : (if G.ok = true then actF G c else none) = none) => apply_no v vc G c W h h2 (by omega) (by omega) ha)
 obtain ⟨N1, hN1⟩ : ∃ N, Hid (N = G.vs.length) := ⟨_, rfl⟩
 obtain ⟨N2, hN2⟩ : ∃ N, Hid (N = G.es.length) := ⟨_, rfl⟩
 obtain ⟨N3, hN3⟩ : ∃ N, Hid (N = G.ds.length) := ⟨_, rfl⟩
 have kw := Lib.hid B0
 have kW0 := Lib.hid (Below.refl W0.heap.size W0)
 have hX := Lib.hid gx0
 have hW0h := Lib.hid hW0
 have hok := Lib.hid hok0
 have hsz := Lib.hid (And.intro hvl (And.intro hel hdl))
 have hgokh := Lib.hid hgok
 unfold F6.cells at hW0h hX cC ⊢
 clear hl hn hlen hr hx B0 gx0 hW0 hG hok0 hvl hel hdl hgok hlc hc
 go_enter Tryz.func6, Tryz.ntmps6
 go_wp2_with fail
 rw [← hW0h.out]
 with_reducible refine (cS.out).mono ?_
 rintro e w1 ⟨rfl, b⟩
 replace kw := Lib.hid (kw.out.trans (b.mono kw.out.size))
 replace kW0 := Lib.hid (kW0.out.trans (b.mono kW0.out.size))
 clear b
 go_wp2_with fail
 with_reducible refine (cM.out _ kW0.out).mono ?_
 rintro e w2 ⟨va, vb, vc, rfl, o1, o2, o3, b⟩
 obtain ⟨a1, a2, ha⟩ := o1.VL.shape
 obtain ⟨b1, b2, hb⟩ := o2.EL.shape
 obtain ⟨c1, c2, hc⟩ := o3.DL.shape
 rw [← hN1.out] at ha
 rw [← hN2.out] at hb
 rw [← hN3.out] at hc
 subst ha hb hc
 have vG := Lib.hid (show ∀ W, Below w2.heap.size w2 W → GV W (.agg #[.slice a1 N1 a2, .slice b1 N2 b2, .slice c1 N3 c2]) G from fun W B => (show GV w2 (.agg #[.slice a1 N1 a2, .slice b1 N2 b2, .slice c1 N3 c2]) G from ⟨_, _, _, rfl, o1.VL, o2.EL, o3.DL⟩).below B)
 clear o1 o2 o3 hW0h
 replace kw := Lib.hid (kw.out.trans (b.mono kw.out.size))
 replace kW0 := Lib.hid (kW0.out.trans (b.mono kW0.out.size))
 clear b
 have kw2 := Lib.hid (Below.refl w2.heap.size w2)
 go_upto_region 5 with (fail)
 obtain ⟨wa, hwa⟩ : ∃ W, W = w2.alloc (.cells #[.slice a1 N1 a2, .slice b1 N2 b2, .slice c1 N3 c2] 26) := ⟨_, rfl⟩
 rw [← hwa]
 obtain ⟨bb, hpwa0⟩ := box_new hwa
 have hpwa := Lib.hid hpwa0
 clear hwa hpwa0
 replace kw := Lib.hid (kw.out.trans (bb.mono kw.out.size))
 replace kW0 := Lib.hid (kW0.out.trans (bb.mono kW0.out.size))
 replace kw2 := Lib.hid (kw2.out.trans (bb.mono kw2.out.size))
 clear bb
 have kwa := Lib.hid (Below.refl wa.heap.size wa)
 obtain ⟨t0, t1, t2⟩ := box3 (hpwa.out _ kwa.out)
 obtain ⟨x0, x1, x2, x3, x4, x5⟩ := six_cells (hX.out _ kW0.out)
 go_wp2_with fail
 with_reducible refine (cC.out _ _ (vG.out _ kw2.out)).mono ?_
 rintro e w3 ⟨r, rfl, hcv, b⟩
 clear t0 t1 t2
 clear x0 x1 x2 x3 x4 x5
 replace kw := Lib.hid (kw.out.trans (b.mono kw.out.size))
 replace kW0 := Lib.hid (kW0.out.trans (b.mono kW0.out.size))
 replace kw2 := Lib.hid (kw2.out.trans (b.mono kw2.out.size))
 replace kwa := Lib.hid (kwa.out.trans (b.mono kwa.out.size))
 clear b
 obtain ⟨ca, cb, hr, hca, hcb⟩ := hcv
 obtain ⟨ca1, ca2, hcae⟩ := hca.shape
 obtain ⟨cb1, cb2, hcbe⟩ := hcb.shape
 obtain ⟨m1, hm1⟩ : ∃ m, Hid (m = c.ends.length) := ⟨_, rfl⟩
 obtain ⟨m2, hm2⟩ : ∃ m, Hid (m = c.deps.length) := ⟨_, rfl⟩
 rw [← hm1.out] at hcae
 rw [← hm2.out] at hcbe
 subst hcae hcbe hr
 have hcV := Lib.hid (show ∀ W, Below w3.heap.size w3 W → CV W (.agg (chCells c (.slice ca1 m1 ca2) (.slice cb1 m2 cb2))) c from fun W B => ⟨_, _, rfl, hca.below B, hcb.below B⟩)
 unfold chCells at hcV
 unfold chCells
 clear hca hcb
 have kw3 := Lib.hid (Below.refl w3.heap.size w3)
 go_upto_region 6 with (fail)
 obtain ⟨we, hwe⟩ : ∃ W, W = w3.alloc (.cells #[.int .i64 c.kind, .int .i64 c.v.id, .int .i64 c.v.side, .int .i64 c.e.id, .int .i64 c.e.src, .int .i64 c.e.dst, .bool c.e.dir, .int .i64 c.e.wt, .int .i64 c.e.cap, .int .i64 c.id, .int .i64 c.n, .slice ca1 m1 ca2, .slice cb1 m2 cb2] 33) := ⟨_, rfl⟩
 rw [← hwe]
 obtain ⟨bb, hpwe0⟩ := box_new hwe
 have hpwe := Lib.hid hpwe0
 clear hwe hpwe0
 replace kw := Lib.hid (kw.out.trans (bb.mono kw.out.size))
 replace kW0 := Lib.hid (kW0.out.trans (bb.mono kW0.out.size))
 replace kw2 := Lib.hid (kw2.out.trans (bb.mono kw2.out.size))
 replace kwa := Lib.hid (kwa.out.trans (bb.mono kwa.out.size))
 replace kw3 := Lib.hid (kw3.out.trans (bb.mono kw3.out.size))
 clear bb
 have kwe := Lib.hid (Below.refl we.heap.size we)
 obtain ⟨t0, t1, t2⟩ := box3 (hpwa.out _ kwa.out)
 obtain ⟨p0, p1, p2, p3, p4, p5, p6, p7, p8, p9, pA, pB, pC⟩ := ch_cells (c := c) (a := .slice ca1 m1 ca2) (b := .slice cb1 m2 cb2) (hpwe.out _ kwe.out)
 cases hR : actF G c with
 | none =>
  go_wp2_with fail
  with_reducible refine (cNo.out _ _ _ (vG.out _ kw2.out) (hcV.out _ kw3.out) (by rw [hR]; simp)).mono ?_
  rintro e w4 ⟨rfl, b⟩
  replace kw := Lib.hid (kw.out.trans (b.mono kw.out.size))
  replace kW0 := Lib.hid (kW0.out.trans (b.mono kW0.out.size))
  replace kw2 := Lib.hid (kw2.out.trans (b.mono kw2.out.size))
  replace kwa := Lib.hid (kwa.out.trans (b.mono kwa.out.size))
  replace kw3 := Lib.hid (kw3.out.trans (b.mono kw3.out.size))
  replace kwe := Lib.hid (kwe.out.trans (b.mono kwe.out.size))
  clear b
  clear hR t0 t1 t2
  clear p0 p1 p2 p3 p4 p5 p6 p7 p8 p9 pA pB pC
  go_upto_region 7 with (fail)
  obtain ⟨wf, hwf⟩ : ∃ W, W = w4.alloc (.cells #[.slice none 0 0, .slice none 0 0, .slice none 0 0] 26) := ⟨_, rfl⟩
  rw [← hwf]
  obtain ⟨bb, hpwf0⟩ := box_new hwf
  have hpwf := Lib.hid hpwf0
  clear hwf hpwf0
  replace kw := Lib.hid (kw.out.trans (bb.mono kw.out.size))
  replace kW0 := Lib.hid (kW0.out.trans (bb.mono kW0.out.size))
  replace kw2 := Lib.hid (kw2.out.trans (bb.mono kw2.out.size))
  replace kwa := Lib.hid (kwa.out.trans (bb.mono kwa.out.size))
  replace kw3 := Lib.hid (kw3.out.trans (bb.mono kw3.out.size))
  replace kwe := Lib.hid (kwe.out.trans (bb.mono kwe.out.size))
  clear bb
  have kwf := Lib.hid (Below.refl wf.heap.size wf)
  go_wp2_with fail
  go_ret
  exact ⟨rfl, kw.out⟩
 | some gu =>
 obtain ⟨g', u⟩ := gu
 have hok' := act_ok G c g' u hok.out hR
 have hLE := Lib.hid (fun i h1 h2 => local_E G c g' u hok.out hR i h1 h2)
 have hLV := Lib.hid (fun i h1 h2 => local_V G c g' u hok.out hR i h1 h2)
 have hLD := Lib.hid (local_D G c g' u hR)
 have hKc : c.kind = 1 ∨ c.kind = 2 ∨ c.kind = 3 ∨ c.kind = 4 ∨ c.kind = 5 ∨ c.kind = 6 ∨ c.kind = 7 ∨ c.kind = 8 ∨ c.kind = 9 ∨ c.kind = 10 := by
  rcases act_cases hR with h | h | h | h | h | h | h | h | h | h <;> (have := h.1; omega)
 have hKh := Lib.hid hKc
 have hsz' := Lib.hid (And.intro hok'.vlen (And.intro hok'.elen hok'.dlen))
 have hR2 : (actF G c).map (·.1) = some g' := by rw [hR]; rfl
 go_wp2_with fail
 with_reducible refine (cOk.out _ _ g' _ (vG.out _ kw2.out) (hcV.out _ kw3.out) hR2).mono ?_
 rintro e w4 ⟨r, rfl, s1, s2, s3, s4, s5, s6, hr, hg, b⟩
 obtain ⟨M1, hM1⟩ : ∃ N, Hid (N = g'.vs.length) := ⟨_, rfl⟩
 obtain ⟨M2, hM2⟩ : ∃ N, Hid (N = g'.es.length) := ⟨_, rfl⟩
 obtain ⟨M3, hM3⟩ : ∃ N, Hid (N = g'.ds.length) := ⟨_, rfl⟩
 rw [← hM1.out, ← hM2.out, ← hM3.out] at hr
 subst hr
 clear hR hR2 hok' hKc t0 t1 t2
 clear p0 p1 p2 p3 p4 p5 p6 p7 p8 p9 pA pB pC
 replace kw := Lib.hid (kw.out.trans (b.mono kw.out.size))
 replace kW0 := Lib.hid (kW0.out.trans (b.mono kW0.out.size))
 replace kw2 := Lib.hid (kw2.out.trans (b.mono kw2.out.size))
 replace kwa := Lib.hid (kwa.out.trans (b.mono kwa.out.size))
 replace kw3 := Lib.hid (kw3.out.trans (b.mono kw3.out.size))
 replace kwe := Lib.hid (kwe.out.trans (b.mono kwe.out.size))
 clear b
 have kw4 := Lib.hid (Below.refl w4.heap.size w4)
 have vS := Lib.hid (fun W (B : Below w4.heap.size w4 W) => hg.below B)
 clear hg
 go_upto_region 7 with (fail)
 obtain ⟨wf, hwf⟩ : ∃ W, W = w4.alloc (.cells #[.slice s1 M1 s2, .slice s3 M2 s4, .slice s5 M3 s6] 26) := ⟨_, rfl⟩
 rw [← hwf]
 obtain ⟨bb, hpwf0⟩ := box_new hwf
 have hpwf := Lib.hid hpwf0
 clear hwf hpwf0
 replace kw := Lib.hid (kw.out.trans (bb.mono kw.out.size))
 replace kW0 := Lib.hid (kW0.out.trans (bb.mono kW0.out.size))
 replace kw2 := Lib.hid (kw2.out.trans (bb.mono kw2.out.size))
 replace kwa := Lib.hid (kwa.out.trans (bb.mono kwa.out.size))
 replace kw3 := Lib.hid (kw3.out.trans (bb.mono kw3.out.size))
 replace kwe := Lib.hid (kwe.out.trans (bb.mono kwe.out.size))
 replace kw4 := Lib.hid (kw4.out.trans (bb.mono kw4.out.size))
 clear bb
 have kwf := Lib.hid (Below.refl wf.heap.size wf)
 have hGw := Lib.hid (fun W (B : Below wf.heap.size wf W) => vG.out W (kw2.out.trans (B.mono kw2.out.size)))
 have hSw := Lib.hid (fun W (B : Below wf.heap.size wf W) => vS.out W (kw4.out.trans (B.mono kw4.out.size)))
 have ht := Lib.hid (fun W (B : Below wf.heap.size wf W) => box3 (hpwa.out W (kwa.out.trans (B.mono kwa.out.size))))
 have hs := Lib.hid (fun W (B : Below wf.heap.size wf W) => box3 (hpwf.out W B))
 have hch := Lib.hid (fun W (B : Below wf.heap.size wf W) => ch_cells (c := c) (a := .slice ca1 m1 ca2) (b := .slice cb1 m2 cb2) (hpwe.out W (kwe.out.trans (B.mono kwe.out.size))))
 have hfin := Lib.hid (fun W (B : Below wf.heap.size wf W) => kw.out.trans (B.mono kw.out.size))
 have kf := Lib.hid (Below.refl wf.heap.size wf)
 clear kw kW0 kw2 kwa kw3 kwe kw4 kwf vG vS hpwa hpwe hpwf hX hcV cC cOk cNo cS cM hok hgokh
 go_upto_region 9 with (fail)
 obtain ⟨nm, hnm⟩ : ∃ nm : Bool, Hid (nm = (decide (c.kind = 5) || decide (c.kind = 6) || decide (c.kind = 4))) := ⟨_, rfl⟩
 go_cut [14] from 48 to 60 (fun s14 wx => s14 = .bool nm ∧ wx = wf)
 case first =>
  obtain ⟨p0, _, _, _, _, _, _, _, _, _, _, _, _⟩ := hch.out _ kf.out
  by_cases k5 : c.kind = 5
  ·have e5 : (c.kind == 5) = true := by simpa using k5
   simp only [decide_eq_true k5, Bool.true_or, Bool.or_true, Bool.false_or] at hnm
   clear k5
   go_wp2_with fail
   go_meet
   case rel => exact ⟨by rw [hnm.out], rfl⟩
  ·have e5 : (c.kind == 5) = false := by simpa using k5
   by_cases k6 : c.kind = 6
   ·have e6 : (c.kind == 6) = true := by simpa using k6
    simp only [decide_eq_false k5, decide_eq_true k6, Bool.true_or, Bool.or_true, Bool.false_or] at hnm
    clear k5 k6
    go_wp2_with fail
    go_meet
    case rel => exact ⟨by rw [hnm.out], rfl⟩
   ·have e6 : (c.kind == 6) = false := by simpa using k6
    by_cases k4 : c.kind = 4
    ·have e4 : (c.kind == 4) = true := by simpa using k4
     simp only [decide_eq_false k5, decide_eq_false k6, decide_eq_true k4, Bool.true_or, Bool.or_true, Bool.false_or] at hnm
     clear k5 k6 k4
     go_wp2_with fail
     go_meet
     case rel => exact ⟨by rw [hnm.out], rfl⟩
    ·have e4 : (c.kind == 4) = false := by simpa using k4
     simp only [decide_eq_false k5, decide_eq_false k6, decide_eq_false k4, Bool.or_false] at hnm
     clear k5 k6 k4
     go_wp2_with fail
     go_meet
     case rel => exact ⟨by rw [hnm.out], rfl⟩
 case rest =>
 obtain ⟨rfl, rfl⟩ := hcut
 obtain ⟨wf, rfl⟩ : ∃ wf', wf' = wc := ⟨_, rfl⟩
 go_upto_region 10 with (fail)
 obtain ⟨mv, hmv⟩ : ∃ mv : Bool, Hid (mv = (decide (c.kind = 7) || decide (c.kind = 8))) := ⟨_, rfl⟩
 go_cut [15] from 61 to 68 (fun s15 wx => s15 = .bool mv ∧ wx = wf)
 case first =>
  obtain ⟨p0, _, _, _, _, _, _, _, _, _, _, _, _⟩ := hch.out _ kf.out
  by_cases k7 : c.kind = 7
  ·have e7 : (c.kind == 7) = true := by simpa using k7
   simp only [decide_eq_true k7, Bool.true_or, Bool.or_true, Bool.false_or] at hmv
   clear k7
   go_wp2_with fail
   go_meet
   case rel => exact ⟨by rw [hmv.out], rfl⟩
  ·have e7 : (c.kind == 7) = false := by simpa using k7
   by_cases k8 : c.kind = 8
   ·have e8 : (c.kind == 8) = true := by simpa using k8
    simp only [decide_eq_false k7, decide_eq_true k8, Bool.true_or, Bool.or_true, Bool.false_or] at hmv
    clear k7 k8
    go_wp2_with fail
    go_meet
    case rel => exact ⟨by rw [hmv.out], rfl⟩
   ·have e8 : (c.kind == 8) = false := by simpa using k8
    simp only [decide_eq_false k7, decide_eq_false k8, Bool.or_false] at hmv
    clear k7 k8
    go_wp2_with fail
    go_meet
    case rel => exact ⟨by rw [hmv.out], rfl⟩
 case rest =>
 obtain ⟨rfl, rfl⟩ := hcut
 obtain ⟨wf, rfl⟩ : ∃ wf', wf' = wc := ⟨_, rfl⟩
 go_wp2_with fail
 go_loopw [16] (fun i wr => ∃ k : Nat, k ≤ 40 ∧ i = .int .i64 k ∧ Hid (Below wf.heap.size wf wr)) (fun i _ => 40 - (intOf i).toNat)
 case atStart => exact ⟨0, by omega, rfl, kf.out⟩
 case round =>
 clear kf
 obtain ⟨k, hk40, rfl, kr⟩ := hrel
 have i0 : (0 : Int) ≤ (k : Int) := by omega
 by_cases hlt : k < 40
 ·have i1 : (k : Int) < 40 := by omega
  obtain ⟨q0, q1, q2⟩ := ht.out wr kr.out
  have hf1 := Lib.hid (FindR_any (.agg #[.slice a1 N1 a2, .slice b1 N2 b2, .slice c1 N3 c2]) G (k : Int) wr (hGw.out wr kr.out) (by have := hsz.out.2.1; omega))
  go_wp2_with fail
  with_reducible refine hf1.out.mono ?_
  rintro e w5 ⟨rfl, b5⟩
  have k5 := Lib.hid (kr.out.trans (b5.mono kr.out.size))
  clear q0 q1 q2 b5 hf1
  obtain ⟨r0, r1, r2⟩ := hs.out w5 k5.out
  have hf2 := Lib.hid (FindR_any (.agg #[.slice s1 M1 s2, .slice s3 M2 s4, .slice s5 M3 s6]) g' (k : Int) w5 (hSw.out w5 k5.out) (by have := hsz'.out.2.1; omega))
  go_wp2_with fail
  with_reducible refine hf2.out.mono ?_
  rintro e w6 ⟨rfl, b6⟩
  have k6 := Lib.hid (k5.out.trans (b6.mono k5.out.size))
  clear r0 r1 r2 b6 hf2
  go_upto_region 16 with (fail)
  obtain ⟨cn, hcn⟩ : ∃ cn : Bool, Hid (cn = ((nm && decide ((k : Int) = c.id)) || (decide (c.kind = 3) && decide ((k : Int) = c.e.id)))) := ⟨_, rfl⟩
  go_cut [17, 18, 97] from 69 to 180 (fun s17 s18 s97 wx => s17 = .int .i64 (plI (keysE G.es) (k : Int)) ∧ s18 = .int .i64 (plI (keysE g'.es) (k : Int)) ∧ s97 = .bool cn ∧ wx = w6)
  case first =>
   obtain ⟨p0, _, _, p3, _, _, _, _, _, p9, _, _, _⟩ := hch.out w6 k6.out
   generalize plI (keysE G.es) (k : Int) = A1 at *
   generalize plI (keysE g'.es) (k : Int) = A2 at *
   cases nm with
   | true =>
    by_cases hid : (k : Int) = c.id
    ·have e1 : ((k : Int) == c.id) = true := by simpa using hid
     rw [show decide ((k : Int) = c.id) = true from decide_eq_true hid, Bool.true_and, Bool.true_or] at hcn
     clear hid
     go_wp2_with fail
     go_meet
     case rel => exact ⟨rfl, rfl, by rw [hcn.out], rfl⟩
    ·have e1 : ((k : Int) == c.id) = false := by simpa using hid
     rw [show decide ((k : Int) = c.id) = false from decide_eq_false hid, Bool.and_false, Bool.false_or] at hcn
     clear hid
     by_cases h3 : c.kind = 3
     ·have e3 : (c.kind == 3) = true := by simpa using h3
      rw [show decide (c.kind = 3) = true from decide_eq_true h3, Bool.true_and] at hcn
      skip
      clear h3
      go_wp2_with fail
      go_meet
      case rel => exact ⟨rfl, rfl, by first | (rw [hcn.out]; done) | (rw [hcn.out]; rfl), rfl⟩
     ·have e3 : (c.kind == 3) = false := by simpa using h3
      rw [show decide (c.kind = 3) = false from decide_eq_false h3, Bool.false_and] at hcn
      clear h3
      go_wp2_with fail
      go_meet
      case rel => exact ⟨rfl, rfl, by rw [hcn.out], rfl⟩
   | false =>
    rw [Bool.false_and, Bool.false_or] at hcn
    by_cases h3 : c.kind = 3
    ·have e3 : (c.kind == 3) = true := by simpa using h3
     rw [show decide (c.kind = 3) = true from decide_eq_true h3, Bool.true_and] at hcn
     clear h3
     go_wp2_with fail
     go_meet
     case rel => exact ⟨rfl, rfl, by first | (rw [hcn.out]; done) | (rw [hcn.out]; rfl), rfl⟩
    ·have e3 : (c.kind == 3) = false := by simpa using h3
     rw [show decide (c.kind = 3) = false from decide_eq_false h3, Bool.false_and] at hcn
     clear h3
     go_wp2_with fail
     go_meet
     case rel => exact ⟨rfl, rfl, by rw [hcn.out], rfl⟩
  case rest =>
  obtain ⟨rfl, rfl, rfl, rfl⟩ := hcut
  obtain ⟨w6, rfl⟩ : ∃ w6', w6' = wc := ⟨_, rfl⟩
  cases cn with
  | true =>
   go_wp2_with fail
   go_roundw
   case rel => exact ⟨k + 1, by omega, by go_num, k6.out⟩
   case measure => simp [intOf]; omega
  | false =>
  have hle := hLE.out (k : Int) (fun h => by
    have e := hcn.out
    rw [show decide ((k : Int) = c.id) = true from decide_eq_true h.2, hnm.out, show (decide (c.kind = 5) || decide (c.kind = 6) || decide (c.kind = 4)) = true by rcases h.1 with h | h | h <;> simp [h]] at e
    simp at e) (fun h => by
    have e := hcn.out
    rw [show decide ((k : Int) = c.e.id) = true from decide_eq_true h.2, show decide (c.kind = 3) = true from decide_eq_true h.1] at e
    simp at e)
  obtain ⟨hiff, hloc⟩ := hle
  clear hcn
  by_cases hm : (k : Int) ∈ keysE G.es
  rotate_left
  ·rw [plI_no _ _ hm, plI_no _ _ (fun h => hm (hiff.2 h))]
   clear hm hiff hloc
   go_wp2_with fail
   go_quiet (fail)
   go_wp2_with fail
   go_roundw
   case rel => exact ⟨k + 1, by omega, by go_num, below_drewN k6.out _⟩
   case measure => simp [intOf]; omega
  ·obtain ⟨p, hp, e1, e2⟩ := plI_mem G.es (k : Int) hm
   obtain ⟨q, hq, e3, e4⟩ := plI_mem g'.es (k : Int) (hiff.1 hm)
   have hlo := hloc hm
   rw [← e2, ← e4] at hlo
   rw [e1, e3]
   obtain ⟨eb, eo, heb, hEd⟩ := edges_in (hGw.out w6 k6.out) p hp
   obtain ⟨fb, fo, hfb, hFd⟩ := edges_in (hSw.out w6 k6.out) q hq
   subst heb hfb
   have hyE := Lib.hid hEd
   have hzE := Lib.hid hFd
   rw [← hN2.out] at hp
   rw [← hM2.out] at hq
   generalize G.es[p] = y at *
   generalize g'.es[q] = z at *
   clear hm hiff hloc e1 e2 e3 e4 hEd hFd
   have j0 : (0 : Int) ≤ (p : Int) := by omega
   have j1 : (p : Int) < (N2 : Int) := by omega
   have j2 : (0 : Int) ≤ (q : Int) := by omega
   have j3 : (q : Int) < (M2 : Int) := by omega
   have j4 : ¬ (p : Int) < 0 := by omega
   have j5 : ¬ (q : Int) < 0 := by omega
   have j6 : decide ((p : Int) < 0) = false := decide_eq_false j4
   have j7 : decide ((q : Int) < 0) = false := decide_eq_false j5
   obtain ⟨q0, q1, q2⟩ := ht.out w6 k6.out
   obtain ⟨r0, r1, r2⟩ := hs.out w6 k6.out
   obtain ⟨d0, d1, d2, d3, d4, d5⟩ := hyE.out w6 (Below.refl _ _)
   obtain ⟨f0, f1, f2, f3, f4, f5⟩ := hzE.out w6 (Below.refl _ _)
   by_cases hyz : y = z
   ·subst hyz
    clear hlo
    go_wp2_with fail
    go_quiet (fail)
    go_wp2_with fail
    go_roundw
    case rel => exact ⟨k + 1, by omega, by go_num, below_drewN k6.out _⟩
    case measure => simp [intOf]; omega
   ·have ee : ∀ w, (binOp .eql 31 (.agg #[.int .i64 y.id, .int .i64 y.src, .int .i64 y.dst, .bool y.dir, .int .i64 y.wt, .int .i64 y.cap]) (.agg #[.int .i64 z.id, .int .i64 z.src, .int .i64 z.dst, .bool z.dir, .int .i64 z.wt, .int .i64 z.cap])).run Tryz.prog w = .ok (.bool false) w := fun w => by rw [eqE_run2 y z w, decide_eq_false hyz]
    obtain ⟨hmo, h1, h2, h3, h4⟩ := hlo.resolve_left hyz
    have hmt : mv = true := by rw [hmv.out]; rcases hmo with h | h <;> simp [h]
    subst hmt
    clear hyz hlo hmo hmv
    go_wp2_with fail
    go_quiet (fail)
    clear ee
    obtain ⟨w7, hw7⟩ : ∃ w7, w7 = w6.drewN nq := ⟨_, rfl⟩
    rw [← hw7]
    have b7 : Below w6.heap.size w6 w7 := by rw [hw7]; exact below_drewN (Below.refl _ _) _
    have k7 := Lib.hid (k6.out.trans (b7.mono k6.out.size))
    have hyE7 := Lib.hid (fun W (B : Below w7.heap.size w7 W) => hyE.out W (b7.trans (B.mono b7.size)))
    have hzE7 := Lib.hid (fun W (B : Below w7.heap.size w7 W) => hzE.out W (b7.trans (B.mono b7.size)))
    clear q0 q1 q2 r0 r1 r2 d0 d1 d2 d3 d4 d5 f0 f1 f2 f3 f4 f5 hw7 hyE hzE b7 j4 j5 j6 j7 k5 k6
    have hf7 := k7.out.size
    have kw7 := Lib.hid (Below.refl w7.heap.size w7)
    obtain ⟨q0, q1, q2⟩ := ht.out w7 k7.out
    obtain ⟨d0, d1, d2, d3, d4, d5⟩ := hyE7.out w7 (Below.refl _ _)
    go_upto_region 21 with (fail)
    clear q0 q1 q2 d0 d1 d2 d3 d4 d5
    obtain ⟨wy, hwy⟩ : ∃ W, W = w7.alloc (.cells #[.int .i64 y.id, .int .i64 y.src, .int .i64 y.dst, .bool y.dir, .int .i64 y.wt, .int .i64 y.cap] 31) := ⟨_, rfl⟩
    rw [← hwy]
    obtain ⟨bb, hpwy0⟩ := box_new hwy
    have hpwy := Lib.hid hpwy0
    clear hwy hpwy0
    replace k7 := Lib.hid (k7.out.trans (bb.mono k7.out.size))
    replace kw7 := Lib.hid (kw7.out.trans (bb.mono kw7.out.size))
    clear bb
    have kwy := Lib.hid (Below.refl wy.heap.size wy)
    obtain ⟨r0, r1, r2⟩ := hs.out wy k7.out
    obtain ⟨f0, f1, f2, f3, f4, f5⟩ := hzE7.out wy kw7.out
    go_upto_region 22 with (fail)
    clear r0 r1 r2 f0 f1 f2 f3 f4 f5 hyE7 hzE7
    obtain ⟨wz, hwz⟩ : ∃ W, W = wy.alloc (.cells #[.int .i64 z.id, .int .i64 z.src, .int .i64 z.dst, .bool z.dir, .int .i64 z.wt, .int .i64 z.cap] 31) := ⟨_, rfl⟩
    rw [← hwz]
    obtain ⟨bb, hpwz0⟩ := box_new hwz
    have hpwz := Lib.hid hpwz0
    clear hwz hpwz0
    replace k7 := Lib.hid (k7.out.trans (bb.mono k7.out.size))
    replace kw7 := Lib.hid (kw7.out.trans (bb.mono kw7.out.size))
    replace kwy := Lib.hid (kwy.out.trans (bb.mono kwy.out.size))
    clear bb
    have kwz := Lib.hid (Below.refl wz.heap.size wz)
    obtain ⟨d0, d1, d2, d3, d4, d5⟩ := ed_cells (u := y) (hpwy.out wz kwy.out)
    obtain ⟨f0, f1, f2, f3, f4, f5⟩ := ed_cells (u := z) (hpwz.out wz kwz.out)
    have fr1 := free_of_block (i := 1) (hpwz.out wz kwz.out)
    have fr2 := free_of_block (i := 2) (hpwz.out wz kwz.out)
    go_cut [171] from 69 to 180 (fun s171 wx => s171 = .bool false ∧ wx = wz)
    case first =>
     obtain ⟨_, _, _, _, _, _, _, _, _, p9, _, _, _⟩ := hch.out wz k7.out
     clear d0 d3 d4 d5 f0 f3 f4 f5 fr1 fr2
     by_cases s1 : y.src = c.id
     ·have e1 : (y.src != c.id) = false := by simpa using s1
      by_cases s2 : y.dst = c.id
      ·have e2 : (y.dst != c.id) = false := by simpa using s2
       clear s1 s2 h1 h2 h3 h4
       go_wp2_with fail
       go_meet
       case rel => exact ⟨rfl, rfl⟩
      ·have e2 : (y.dst != c.id) = true := by simpa using s2
       have e3 : (z.dst != y.dst) = false := by simpa using h3.resolve_left s2
       clear s1 s2 h1 h2 h3 h4
       go_wp2_with fail
       go_meet
       case rel => exact ⟨rfl, rfl⟩
     ·have e1 : (y.src != c.id) = true := by simpa using s1
      have s2 : y.dst = c.id := h1.resolve_left s1
      have e2 : (y.dst != c.id) = false := by simpa using s2
      have e3 : (z.src != y.src) = false := by simpa using h2.resolve_left s1
      clear s1 s2 h1 h2 h3 h4
      go_wp2_with fail
      go_meet
      case rel => exact ⟨rfl, rfl⟩
    case rest =>
    obtain ⟨rfl, rfl⟩ := hcut
    obtain ⟨wz, rfl⟩ : ∃ wz', wz' = wc := ⟨_, rfl⟩
    have hzb : wy.heap.size < wz.heap.size := (Array.getElem?_eq_some_iff.1 (hpwz.out wz kwz.out)).1
    have hyb : w7.heap.size < wy.heap.size := (Array.getElem?_eq_some_iff.1 (hpwy.out wy (Below.refl _ _))).1
    have hne : ¬ w7.heap.size = wy.heap.size := by omega
    have hne2 : ¬ wy.heap.size = w7.heap.size := by omega
    have hfw : wf.heap.size ≤ wy.heap.size := by omega
    have k8 := Lib.hid ((k7.out.setCell (p := ⟨wy.heap.size, 1, none⟩) hfw (.int .i64 y.src)).setCell (p := ⟨wy.heap.size, 2, none⟩) hfw (.int .i64 y.dst))
    have z0 : z.id = y.id := by rw [← h4]
    have z3 : z.dir = y.dir := by rw [← h4]
    have z4 : z.wt = y.wt := by rw [← h4]
    have z5 : z.cap = y.cap := by rw [← h4]
    rw [z0] at f0
    rw [z3] at f3
    rw [z4] at f4
    rw [z5] at f5
    clear z0 z3 z4 z5 h1 h2 h3 h4 hzb hyb hfw hf7 hpwy hpwz k7 kw7 kwy kwz
    go_wp2_with fail
    go_wp2_with fail
    go_roundw
    case rel => exact ⟨k + 1, by omega, by go_num, k8.out⟩
    case measure => simp [intOf]; omega
 ·have hk4 : k = 40 := by omega
  subst hk4
  have i1 : ¬ ((40 : Nat) : Int) < 40 := by omega
  have hch2 := Lib.hid (fun W (BB : Below wf.heap.size wf W) => (fun (h : _ ∧ _) => (And.intro h.1 (And.intro h.2.1 h.2.2.2.2.2.2.2.2.2.1))) (hch.out W BB))
  rename_i K0 hK0
  have hK1 := Lib.hid hK0
  clear hK0 hlt hnm hmv hLE
  go_wp2_with fail
  refine hK1.out _ _ ?_
  have hrest : ∀ C, C = rest6 → ∀ a, Code.wp Tryz.prog rest6 (bodyPost Tryz.prog Tryz.f6 fun e w' => e = .returned (.bool true) ∧ Below w.heap.size w w') a wr → Code.wp Tryz.prog C (bodyPost Tryz.prog Tryz.f6 fun e w' => e = .returned (.bool true) ∧ Below w.heap.size w w') a wr := fun C hC a h => by rw [hC]; exact h
  refine hrest _ (by kernel_rfl) _ ?_
  exact half2 _ _ _ _ _ _ _ _ _ _ _ _ _ _ _ _ _ _ _ _ _ _ _ _ _ _ _ _ _ _ _ _ _ _ _ _ _ _ _ _ _ _ _ _ _ _ _ _ _ _ _ _ _ _ _ _ _ _ _ _ _ _ _ _ _ _ _ _ _ _ _ _ _ _ _ _ _ _ _ _ _ _ _ _ _ _ _ _ _ _ _ _ _ _ _ _ _ _ _ _ _ _ _ _ _ _ _ _ _ _ _ _ _ _ _ _ _ _ _ _ _ _ _ _ _ _ _ _ _ _ _ _ _ _ _ _ _ _ _ _ _ _ _ _ _ _ _ _ _ _ _ _ _ _ _ _ _ _ _ _ _ _ _ _ _ _ _ _ _ _ _ _ _ _ _ _ _ _ _ _ _ _ _ _ _ _ _ _ _ _ _ _ _ _ _ _ _ _ _ _ _ _ _ _ _ _ _ _ _ _ _ _ _ _ _ _ _ _ _ _ _ _ _ _ _ _ _ _ _ _ _ _ _ _ _ _ _ _ _ _ _ _ _ _ _ _ _ _ _ _ _ _ _ _ _ _ _ _ _ _ _ _ _ _ _ _ _ _ _ _ _ _ _ _ _ _ _ _ _ _ _ _ _ _ hsz hsz' hN1 hM1 hLV hLD hGw hSw ht hs hch2 hfin kr
end Go.Proofs.YtlaldnlgapeckaaGreat
