/- GraphCode, the walk. -/
import Derived.Test.YtlaldnlgapeckaaGreatYE
import Derived.Deep.CutRange
import Derived.Test.YtlaldnlgapeckaaGreatYH
namespace Go.Proofs.YtlaldnlgapeckaaGreat
open Go.RowKit
set_option maxRecDepth 100000 in
set_option maxHeartbeats 4000000 in
theorem Code_any (n : Int) (vl : Value) (l : List F5) (wide : Bool) (x : F6) (sp sq ss : ByteArray) (a : Int) (w : World) (hl : L5 w vl l) (hn : i64B n) (hlen : l.length ≤ 9223372036854775807) (hr : ∀ r ∈ l, i64B r.a ∧ i64B r.b ∧ i64B r.c ∧ i64B r.d ∧ i64B r.e) (hx : x.inB) (hsp : sp.size ≤ maxLen) (hsq : sq.size ≤ maxLen) (hss : ss.size ≤ maxLen) (ha : i64B a) :
    Calls Tryz.prog 8 #[.int .i64 n, vl, .bool wide, .agg x.cells, .string sp, .string sq, .string ss, .int .i64 a] w fun e w' => e = .returned (.bool true) ∧ Below w.heap.size w w' := by
  obtain ⟨W0, hW0⟩ : ∃ W0, W0 = w.alloc (.cells x.cells 42) := ⟨_, rfl⟩
  have B0 : Below w.heap.size w W0 := by rw [hW0]; exact (Below.refl _ w).alloc (Nat.le_refl _) _
  have z0 : W0.heap.size = w.heap.size + 1 := by rw [hW0]; simp
  have gx : W0.heap[w.heap.size]? = some (.cells x.cells 42 (0, 0)) := by rw [hW0]; exact heap_alloc_new w _
  have cS := Lib.hid (sane_any W0)
  obtain ⟨G, hG⟩ : ∃ G, Hid (G = madeG n l wide) := ⟨_, rfl⟩
  have hok : Ok G := by rw [hG.out]; exact made_ok n l wide
  have hvl := hok.vlen
  have hel := hok.elen
  have hdl := hok.dlen
  have cM := Lib.hid (show ∀ W (B : Below W0.heap.size W0 W), Calls Tryz.prog 11 #[.int .i64 n, vl, .bool wide] W fun e w' => ∃ a1 a2 b1 b2 c1 c2, ∃ n1 n2 n3 : Nat, e = .returned (.agg #[.slice a1 n1 a2, .slice b1 n2 b2, .slice c1 n3 c2]) ∧ GV w' (.agg #[.slice a1 n1 a2, .slice b1 n2 b2, .slice c1 n3 c2]) G ∧ Below W.heap.size W w' from fun W B => (Made_any n vl l wide W ((hl.below B0).below B) hn hlen hr).mono fun e w' h => by
    obtain ⟨x, y, z, he, o1, o2, o3, hb⟩ := h
    rw [← hG.out] at o1 o2 o3
    obtain ⟨a1, a2, rfl⟩ := o1.VL.shape
    obtain ⟨b1, b2, rfl⟩ := o2.EL.shape
    obtain ⟨c1, c2, rfl⟩ := o3.DL.shape
    exact ⟨_, _, _, _, _, _, _, _, _, he, ⟨_, _, _, rfl, o1.VL, o2.EL, o3.DL⟩, hb⟩)
  obtain ⟨c, hc⟩ : ∃ c, Hid (c = changedC G x) := ⟨_, rfl⟩
  have hco : okCh c := by rw [hc.out]; exact changed_okCh G x hok
  have hcn : c.ends.length ≤ 1000000 ∧ c.deps.length ≤ 1000000 := ⟨by have := hco.2.2.2.2.2.1.1; omega, by have := hco.2.2.2.2.2.2.1; omega⟩
  have cC := Lib.hid (show ∀ v W, GV W v G → Calls Tryz.prog 14 #[v, .agg #[.int .i64 x.a, .int .i64 x.b, .int .i64 x.c, .int .i64 x.d, .int .i64 x.e, .int .i64 x.f]] W fun e w' => ∃ x1 x2 x3 x4, ∃ n1 n2 : Nat, e = .returned (.agg (chCells c (.slice x1 n1 x2) (.slice x3 n2 x4))) ∧ (DL w' (.slice x1 n1 x2) c.ends ∧ DL w' (.slice x3 n2 x4) c.deps) ∧ Below W.heap.size W w' from fun v W h => (show Calls Tryz.prog 14 #[v, .agg x.cells] W _ from (Changed_any v G x W h ⟨by omega, by omega, by omega⟩ hx)).mono fun e w' h => by
    obtain ⟨r, he, ⟨a, b, hr, h1, h2⟩, hb⟩ := h
    rw [← hc.out] at hr h1 h2
    obtain ⟨b1, b2, rfl⟩ := h1.shape
    obtain ⟨c1, c2, rfl⟩ := h2.shape
    subst hr
    exact ⟨_, _, _, _, _, _, he, ⟨h1, h2⟩, hb⟩)
  have cE := Lib.hid (fun v W h => encG_ok v G W h hok)
  have cF := Lib.hid (fun v W h => encC_ok v c W h hco)
  obtain ⟨T, hT⟩ : ∃ T, Hid (T = bsOf (encB G)) := ⟨_, rfl⟩
  obtain ⟨U, hU⟩ : ∃ U, Hid (U = bsOf (chB c)) := ⟨_, rfl⟩
  have zT : T.size ≤ 100000 := by rw [hT.out, bsOf_size]; exact encB_len G hok
  have zU : U.size ≤ 100000 := by rw [hU.out, bsOf_size]; exact chB_len c hco
  rw [← hT.out] at cE
  rw [← hU.out] at cF
  have cDm := Lib.hid (fun P Q W h1 h2 => dec_mid P Q G T hT.out ((ok_iff G).2 hok) W h1 h2 zT)
  have cCm := Lib.hid (fun P Q W h1 h2 => decC_mid P Q c U hU.out hco W h1 h2 zU)
  have cSm := Lib.hid (show ∀ v v' W, GV W v G → GV W v' G → Calls Tryz.prog 17 #[v, v'] W fun e w' => e = .returned (.bool true) ∧ Below W.heap.size W w' from fun v v' W h1 h2 => by
    have h := Same_any v v' G G W h1 h2 ⟨by omega, by omega, by omega⟩ ⟨by omega, by omega, by omega⟩
    rw [sameG_refl] at h
    exact h)
  have cSc := Lib.hid (show ∀ v v' W, CV W v c → CV W v' c → Calls Tryz.prog 40 #[v, v'] W fun e w' => e = .returned (.bool true) ∧ Below W.heap.size W w' from fun v v' W h1 h2 => by
    have h := SameChange_any v v' c c W h1 h2 hcn hcn
    rw [sameC_refl] at h
    exact h)
  unfold maxLen at hsp hsq hss
  obtain ⟨m0, hm0, l0, k0⟩ : ∃ m, Hid (m = min sp.size 30) ∧ m ≤ 30 ∧ m ≤ sp.size := ⟨_, rfl, by omega, by omega⟩
  obtain ⟨m1, hm1, l1, k1⟩ : ∃ m, Hid (m = min sq.size 30) ∧ m ≤ 30 ∧ m ≤ sq.size := ⟨_, rfl, by omega, by omega⟩
  obtain ⟨m2, hm2, l2, k2⟩ : ∃ m, Hid (m = min ss.size 300) ∧ m ≤ 300 ∧ m ≤ ss.size := ⟨_, rfl, by omega, by omega⟩
  have r0 : ∀ ts t w, (Builtin.min_ ts t #[.int .i64 (sp.size : Int), .int .i64 30]).run Tryz.prog w = .ok (.int .i64 (m0 : Int)) w := fun ts t w => by rw [hm0.out]; exact cmin_run _ 30 _ _ _ _ rfl
  have r1 : ∀ ts t w, (Builtin.min_ ts t #[.int .i64 (sq.size : Int), .int .i64 30]).run Tryz.prog w = .ok (.int .i64 (m1 : Int)) w := fun ts t w => by rw [hm1.out]; exact cmin_run _ 30 _ _ _ _ rfl
  have r2 : ∀ ts t w, (Builtin.min_ ts t #[.int .i64 (ss.size : Int), .int .i64 300]).run Tryz.prog w = .ok (.int .i64 (m2 : Int)) w := fun ts t w => by rw [hm2.out]; exact cmin_run _ 300 _ _ _ _ rfl
  have e0 := Lib.hid (ccut_size sp m0 k0)
  have e1 := Lib.hid (ccut_size sq m1 k1)
  have e2 := Lib.hid (ccut_size ss m2 k2)
  obtain ⟨a1, a2⟩ := ha
  have kw := Lib.hid B0
  have kW0 := Lib.hid (Below.refl W0.heap.size W0)
  have hW0h := Lib.hid hW0
  have gxh := Lib.hid gx
  have hCO := Lib.hid hco
  have hOK := Lib.hid hok
  unfold F6.cells at hW0h gxh ⊢
  clear hl hn hlen hr hx hG hok B0 gx hW0 hvl hel hdl hc hco hcn hT hU
  go_enter Tryz.func8, Tryz.ntmps8
  go_wp2_with fail
  rw [← hW0h.out]
  with_reducible refine (cS.out).mono ?_
  rintro e w1 ⟨rfl, b⟩
  have z1 : W0.heap.size ≤ w1.heap.size := b.size
  replace kw := Lib.hid (kw.out.trans (b.mono kw.out.size))
  replace kW0 := Lib.hid (kW0.out.trans (b.mono kW0.out.size))
  clear b
  go_wp2_with fail
  with_reducible refine (cM.out _ kW0.out).mono ?_
  rintro e w2 ⟨u1, u2, u3, u4, u5, u6, n1, n2, n3, rfl, hgv, b⟩
  have z2 : w1.heap.size ≤ w2.heap.size := b.size
  have vG := Lib.hid (show ∀ W, Below w2.heap.size w2 W → GV W _ G from fun W B => hgv.below B)
  clear hgv
  replace kw := Lib.hid (kw.out.trans (b.mono kw.out.size))
  replace kW0 := Lib.hid (kW0.out.trans (b.mono kW0.out.size))
  clear b
  have kw2 := Lib.hid (Below.refl w2.heap.size w2)
  go_upto_region 5 with (fail)
  obtain ⟨wa, hwa⟩ : ∃ W, W = w2.alloc (.cells #[.slice u1 n1 u2, .slice u3 n2 u4, .slice u5 n3 u6] 26) := ⟨_, rfl⟩
  rw [← hwa]
  obtain ⟨b, hpwa0⟩ := box_new hwa
  have hpwa := Lib.hid hpwa0
  clear hwa hpwa0
  replace kw := Lib.hid (kw.out.trans (b.mono kw.out.size))
  replace kW0 := Lib.hid (kW0.out.trans (b.mono kW0.out.size))
  replace kw2 := Lib.hid (kw2.out.trans (b.mono kw2.out.size))
  clear b
  have kwa := Lib.hid (Below.refl wa.heap.size wa)
  obtain ⟨x0, x1, x2, x3, x4, x5⟩ := six_cells ((kW0.out.block _ (by omega)).trans gxh.out)
  obtain ⟨t0, t1, t2⟩ := box3 (hpwa.out _ kwa.out)
  go_wp2_with fail
  with_reducible refine (cC.out _ _ (vG.out _ kw2.out)).mono ?_
  clear x0 x1 x2 x3 x4 x5 t0 t1 t2
  rintro e w3 ⟨v1, v2, v3, v4, n4, n5, rfl, hcv, b⟩
  unfold chCells
  have vC := Lib.hid (show ∀ W, Below w3.heap.size w3 W → CV W (.agg (chCells c (.slice v1 n4 v2) (.slice v3 n5 v4))) c from fun W B => ⟨_, _, rfl, hcv.1.below B, hcv.2.below B⟩)
  clear hcv
  replace kw := Lib.hid (kw.out.trans (b.mono kw.out.size))
  replace kW0 := Lib.hid (kW0.out.trans (b.mono kW0.out.size))
  replace kw2 := Lib.hid (kw2.out.trans (b.mono kw2.out.size))
  replace kwa := Lib.hid (kwa.out.trans (b.mono kwa.out.size))
  clear b
  have kw3 := Lib.hid (Below.refl w3.heap.size w3)
  go_upto_region 6 with (fail)
  obtain ⟨wb, hwb⟩ : ∃ W, W = w3.alloc (.cells #[.int .i64 c.kind, .int .i64 c.v.id, .int .i64 c.v.side, .int .i64 c.e.id, .int .i64 c.e.src, .int .i64 c.e.dst, .bool c.e.dir, .int .i64 c.e.wt, .int .i64 c.e.cap, .int .i64 c.id, .int .i64 c.n, .slice v1 n4 v2, .slice v3 n5 v4] 33) := ⟨_, rfl⟩
  rw [← hwb]
  obtain ⟨b, hpwb0⟩ := box_new hwb
  have hpwb := Lib.hid hpwb0
  clear hwb hpwb0
  replace kw := Lib.hid (kw.out.trans (b.mono kw.out.size))
  replace kW0 := Lib.hid (kW0.out.trans (b.mono kW0.out.size))
  replace kw2 := Lib.hid (kw2.out.trans (b.mono kw2.out.size))
  replace kwa := Lib.hid (kwa.out.trans (b.mono kwa.out.size))
  replace kw3 := Lib.hid (kw3.out.trans (b.mono kw3.out.size))
  clear b
  have kwb := Lib.hid (Below.refl wb.heap.size wb)
  unfold chCells at vC
  go_upto_region 8 with (fail)
  obtain ⟨P, hP⟩ : ∃ P, Hid (P = sp.extract 0 m0) := ⟨_, rfl⟩
  obtain ⟨Q, hQ⟩ : ∃ Q, Hid (Q = sq.extract 0 m1) := ⟨_, rfl⟩
  rw [← hP.out, ← hQ.out]
  have zP : P.size ≤ 30 := by rw [hP.out, e0.out]; exact l0
  have zQ : Q.size ≤ 30 := by rw [hQ.out, e1.out]; exact l1
  clear r0 r1 e0 e1 hm0 hm1 k0 k1 l0 l1 hP hQ hsp hsq
  obtain ⟨t0, t1, t2⟩ := box3 (hpwa.out _ kwa.out)
  go_wp2_with fail
  with_reducible refine (cE.out _ _ (vG.out _ kw2.out)).mono ?_
  clear t0 t1 t2
  rintro e w4 ⟨rfl, b⟩
  replace kw := Lib.hid (kw.out.trans (b.mono kw.out.size))
  replace kW0 := Lib.hid (kW0.out.trans (b.mono kW0.out.size))
  replace kw2 := Lib.hid (kw2.out.trans (b.mono kw2.out.size))
  replace kwa := Lib.hid (kwa.out.trans (b.mono kwa.out.size))
  replace kw3 := Lib.hid (kw3.out.trans (b.mono kw3.out.size))
  replace kwb := Lib.hid (kwb.out.trans (b.mono kwb.out.size))
  clear b
  obtain ⟨p0, p1, p2, p3, p4, p5, p6, p7, p8, p9, pA, pB, pC⟩ := ch_cells (c := c) (a := .slice v1 n4 v2) (b := .slice v3 n5 v4) (hpwb.out _ kwb.out)
  go_wp2_with fail
  with_reducible refine (cF.out _ _ (vC.out _ kw3.out)).mono ?_
  clear p0 p1 p2 p3 p4 p5 p6 p7 p8 p9 pA pB pC
  rintro e w5 ⟨rfl, b⟩
  replace kw := Lib.hid (kw.out.trans (b.mono kw.out.size))
  replace kW0 := Lib.hid (kW0.out.trans (b.mono kW0.out.size))
  replace kw2 := Lib.hid (kw2.out.trans (b.mono kw2.out.size))
  replace kwa := Lib.hid (kwa.out.trans (b.mono kwa.out.size))
  replace kw3 := Lib.hid (kw3.out.trans (b.mono kw3.out.size))
  replace kwb := Lib.hid (kwb.out.trans (b.mono kwb.out.size))
  clear b
  go_wp2_with fail
  with_reducible refine (cDm.out P Q _ zP zQ).mono ?_
  rintro e w6 ⟨x1, x2, x3, x4, x5, x6, n6, n7, n8, rfl, hgv, b⟩
  have vH := Lib.hid (show ∀ W, Below w6.heap.size w6 W → GV W _ G from fun W B => hgv.below B)
  clear hgv
  replace kw := Lib.hid (kw.out.trans (b.mono kw.out.size))
  replace kW0 := Lib.hid (kW0.out.trans (b.mono kW0.out.size))
  replace kw2 := Lib.hid (kw2.out.trans (b.mono kw2.out.size))
  replace kwa := Lib.hid (kwa.out.trans (b.mono kwa.out.size))
  replace kw3 := Lib.hid (kw3.out.trans (b.mono kw3.out.size))
  replace kwb := Lib.hid (kwb.out.trans (b.mono kwb.out.size))
  clear b
  have kw6 := Lib.hid (Below.refl w6.heap.size w6)
  have ow := Lib.hid (show w.heap.size ≤ w6.heap.size from kw.out.size)
  go_upto_region 11 with (fail)
  obtain ⟨wc, hwc⟩ : ∃ W, W = w6.alloc (.cells #[.slice x1 n6 x2, .slice x3 n7 x4, .slice x5 n8 x6] 26) := ⟨_, rfl⟩
  rw [← hwc]
  obtain ⟨b, hpwc0⟩ := box_new hwc
  have hpwc := Lib.hid hpwc0
  clear hwc hpwc0
  replace kw := Lib.hid (kw.out.trans (b.mono kw.out.size))
  replace kW0 := Lib.hid (kW0.out.trans (b.mono kW0.out.size))
  replace kw2 := Lib.hid (kw2.out.trans (b.mono kw2.out.size))
  replace kwa := Lib.hid (kwa.out.trans (b.mono kwa.out.size))
  replace kw3 := Lib.hid (kw3.out.trans (b.mono kw3.out.size))
  replace kwb := Lib.hid (kwb.out.trans (b.mono kwb.out.size))
  replace kw6 := Lib.hid (kw6.out.trans (b.mono kw6.out.size))
  clear b
  have kwc := Lib.hid (Below.refl wc.heap.size wc)
  go_wp2_with fail
  with_reducible refine (cCm.out P Q _ zP zQ).mono ?_
  rintro e w7 ⟨y1, y2, y3, y4, n9, m9, rfl, hcv, b⟩
  have oo := Lib.hid (show wc.heap.size ≤ w7.heap.size from b.size)
  unfold chCells
  have vD := Lib.hid (show ∀ W, Below w7.heap.size w7 W → CV W (.agg (chCells c (.slice y1 n9 y2) (.slice y3 m9 y4))) c from fun W B => ⟨_, _, rfl, hcv.1.below B, hcv.2.below B⟩)
  clear hcv
  replace kw := Lib.hid (kw.out.trans (b.mono kw.out.size))
  replace kW0 := Lib.hid (kW0.out.trans (b.mono kW0.out.size))
  replace kw2 := Lib.hid (kw2.out.trans (b.mono kw2.out.size))
  replace kwa := Lib.hid (kwa.out.trans (b.mono kwa.out.size))
  replace kw3 := Lib.hid (kw3.out.trans (b.mono kw3.out.size))
  replace kwb := Lib.hid (kwb.out.trans (b.mono kwb.out.size))
  replace kw6 := Lib.hid (kw6.out.trans (b.mono kw6.out.size))
  replace kwc := Lib.hid (kwc.out.trans (b.mono kwc.out.size))
  clear b
  have kw7 := Lib.hid (Below.refl w7.heap.size w7)
  go_upto_region 12 with (fail)
  obtain ⟨wd, hwd⟩ : ∃ W, W = w7.alloc (.cells #[.int .i64 c.kind, .int .i64 c.v.id, .int .i64 c.v.side, .int .i64 c.e.id, .int .i64 c.e.src, .int .i64 c.e.dst, .bool c.e.dir, .int .i64 c.e.wt, .int .i64 c.e.cap, .int .i64 c.id, .int .i64 c.n, .slice y1 n9 y2, .slice y3 m9 y4] 33) := ⟨_, rfl⟩
  rw [← hwd]
  obtain ⟨b, hpwd0⟩ := box_new hwd
  have hpwd := Lib.hid hpwd0
  clear hwd hpwd0
  replace kw := Lib.hid (kw.out.trans (b.mono kw.out.size))
  replace kW0 := Lib.hid (kW0.out.trans (b.mono kW0.out.size))
  replace kw2 := Lib.hid (kw2.out.trans (b.mono kw2.out.size))
  replace kwa := Lib.hid (kwa.out.trans (b.mono kwa.out.size))
  replace kw3 := Lib.hid (kw3.out.trans (b.mono kw3.out.size))
  replace kwb := Lib.hid (kwb.out.trans (b.mono kwb.out.size))
  replace kw6 := Lib.hid (kw6.out.trans (b.mono kw6.out.size))
  replace kwc := Lib.hid (kwc.out.trans (b.mono kwc.out.size))
  replace kw7 := Lib.hid (kw7.out.trans (b.mono kw7.out.size))
  clear b
  have kwd := Lib.hid (Below.refl wd.heap.size wd)
  unfold chCells at vD
  obtain ⟨t0, t1, t2⟩ := box3 (hpwa.out _ kwa.out)
  obtain ⟨s0, s1, s2⟩ := box3 (hpwc.out _ kwc.out)
  go_wp2_with fail
  with_reducible refine (cSm.out _ _ _ (vG.out _ kw2.out) (vH.out _ kw6.out)).mono ?_
  clear t0 t1 t2 s0 s1 s2
  rintro e w8 ⟨rfl, b⟩
  replace kw := Lib.hid (kw.out.trans (b.mono kw.out.size))
  replace kW0 := Lib.hid (kW0.out.trans (b.mono kW0.out.size))
  replace kw2 := Lib.hid (kw2.out.trans (b.mono kw2.out.size))
  replace kwa := Lib.hid (kwa.out.trans (b.mono kwa.out.size))
  replace kw3 := Lib.hid (kw3.out.trans (b.mono kw3.out.size))
  replace kwb := Lib.hid (kwb.out.trans (b.mono kwb.out.size))
  replace kw6 := Lib.hid (kw6.out.trans (b.mono kw6.out.size))
  replace kwc := Lib.hid (kwc.out.trans (b.mono kwc.out.size))
  replace kw7 := Lib.hid (kw7.out.trans (b.mono kw7.out.size))
  replace kwd := Lib.hid (kwd.out.trans (b.mono kwd.out.size))
  clear b
  obtain ⟨p0, p1, p2, p3, p4, p5, p6, p7, p8, p9, pA, pB, pC⟩ := ch_cells (c := c) (a := .slice v1 n4 v2) (b := .slice v3 n5 v4) (hpwb.out _ kwb.out)
  obtain ⟨q0, q1, q2, q3, q4, q5, q6, q7, q8, q9, qA, qB, qC⟩ := ch_cells (c := c) (a := .slice y1 n9 y2) (b := .slice y3 m9 y4) (hpwd.out _ kwd.out)
  go_wp2_with fail
  with_reducible refine (cSc.out _ _ _ (vC.out _ kw3.out) (vD.out _ kw7.out)).mono ?_
  clear p0 p1 p2 p3 p4 p5 p6 p7 p8 p9 pA pB pC q0 q1 q2 q3 q4 q5 q6 q7 q8 q9 qA qB qC
  rintro e w9 ⟨rfl, b⟩
  replace kw := Lib.hid (kw.out.trans (b.mono kw.out.size))
  replace kW0 := Lib.hid (kW0.out.trans (b.mono kW0.out.size))
  replace kw2 := Lib.hid (kw2.out.trans (b.mono kw2.out.size))
  replace kwa := Lib.hid (kwa.out.trans (b.mono kwa.out.size))
  replace kw3 := Lib.hid (kw3.out.trans (b.mono kw3.out.size))
  replace kwb := Lib.hid (kwb.out.trans (b.mono kwb.out.size))
  replace kw6 := Lib.hid (kw6.out.trans (b.mono kw6.out.size))
  replace kwc := Lib.hid (kwc.out.trans (b.mono kwc.out.size))
  replace kw7 := Lib.hid (kw7.out.trans (b.mono kw7.out.size))
  replace kwd := Lib.hid (kwd.out.trans (b.mono kwd.out.size))
  clear b
  go_upto_region 15 with (fail)
  obtain ⟨S, hS⟩ : ∃ S, Hid (S = ss.extract 0 m2) := ⟨_, rfl⟩
  rw [← hS.out]
  have zS : S.size ≤ 300 := by rw [hS.out, e2.out]; exact l2
  clear r2 e2 hm2 k2 l2 hS hss
  have bxc := Lib.hid (hpwc.out _ kwc.out)
  have bxd := Lib.hid (hpwd.out _ kwd.out)
  have o1 : w6.heap.size < wc.heap.size := (Array.getElem?_eq_some_iff.1 (hpwc.out _ (Below.refl _ _))).1
  have o2 : w7.heap.size < wd.heap.size := (Array.getElem?_eq_some_iff.1 (hpwd.out _ (Below.refl _ _))).1
  have o3 : wc.heap.size ≤ w7.heap.size := oo.out
  have o4 : wd.heap.size ≤ w9.heap.size := kwd.out.size
  have o5 : w.heap.size ≤ w6.heap.size := ow.out
  clear kW0 kw2 kwa kw3 kwb kw6 kwc kw7 kwd hpwa hpwb hpwc hpwd vG vH vC vD cS cM cC cE cF cDm cCm cSm cSc hCO hOK gxh hW0h zT zU zP zQ oo ow z0 z1 z2
  have kw9 := Lib.hid (Below.refl w9.heap.size w9)
  go_wp2_with fail
  refine (dec_any S a _ (by unfold maxLen; omega) a1 a2).mono ?_
  rintro e w10 hpost
  rcases hpost with ⟨x1, x2, x3, x4, x5, x6, n10, n11, n12, m, g, rfl, hown, hrr, b⟩ | ⟨rfl, hrr, b⟩
  · have bc := Lib.hid ((b.block _ (by omega)).trans bxc.out)
    have bd := Lib.hid ((b.block _ (by omega)).trans bxd.out)
    have zz := b.size
    replace kw := Lib.hid (kw.out.trans (b.mono kw.out.size))
    clear b bxc bxd kw9
    obtain ⟨k, rfl, hkm, hmS, cB⟩ := enc_back S a g m hrr
    obtain ⟨hq1, hq2, hq3⟩ := hown
    have cBh := Lib.hid cB
    have rx := cmax_run k m hkm
    clear cB hrr
    go_upto_region 16 with (refine wpList_store_row rfl 26 (.tmp 26) (.tmp 140) rfl (w6.heap.size) #[.slice x1 n10 x2, .slice x3 n11 x4, .slice x5 n12 x6] rfl rfl 26 _ bc.out (by kernel_rfl) rfl (by simp [Value.oneCell']) ?_)
    obtain ⟨w11, hw11⟩ : ∃ W, W = w10.setRow w6.heap.size #[.slice x1 n10 x2, .slice x3 n11 x4, .slice x5 n12 x6] := ⟨_, rfl⟩
    rw [← hw11]
    have hd := Lib.hid (show GV w11 (.agg #[.slice x1 n10 x2, .slice x3 n11 x4, .slice x5 n12 x6]) g from ⟨_, _, _, rfl, by rw [hw11]; exact OwnV.VL (own_setRowB hq1 (by omega)), by rw [hw11]; exact OwnEd.EL (own_setRowB hq2 (by omega)), by rw [hw11]; exact OwnI.DL (own_setRowB hq3 (by omega))⟩)
    have bx11 : w11.heap[w6.heap.size]? = some (.cells #[.slice x1 n10 x2, .slice x3 n11 x4, .slice x5 n12 x6] 26 (0, 0)) := by rw [hw11]; exact setRow_heap _ _ _ _ _ _ bc.out
    have bxd := Lib.hid ((show w11.heap[w7.heap.size]? = w10.heap[w7.heap.size]? from by rw [hw11, setRow_other _ _ _ _ (by omega)]).trans bd.out)
    have z11 : w11.heap.size = w10.heap.size := by rw [hw11]; simp
    replace kw := Lib.hid (show Below w.heap.size w w11 by rw [hw11]; exact below_row kw.out (by omega) _)
    clear hw11 bc bd hq1 hq2 hq3
    obtain ⟨t0, t1, t2⟩ := box3 bx11
    go_wp2_with fail
    with_reducible refine (cBh.out _ _ hd.out).mono ?_
    clear t0 t1 t2
    rintro e w12 ⟨rfl, b⟩
    have z12 := b.size
    replace kw := Lib.hid (kw.out.trans (b.mono kw.out.size))
    replace bxd := Lib.hid ((b.block _ (by omega)).trans bxd.out)
    clear b cBh hd bx11
    go_wp2_with fail
    refine (decC_any S (k : Int) _ (by unfold maxLen; omega) (by omega) (by omega)).mono ?_
    rintro e w20 hpost2
    rcases hpost2 with ⟨f1, f2, f3, f4, n21, n22, mm, d, rfl, hown, hrr, b⟩ | ⟨rfl, hrr, b⟩
    · have bx := Lib.hid ((b.block _ (by omega)).trans bxd.out)
      have zz := b.size
      replace kw := Lib.hid (kw.out.trans (b.mono kw.out.size))
      clear b bxd
      obtain ⟨k2, he, hkm2, hmS2, cB2⟩ := encC_back S _ d mm hrr
      obtain ⟨hq1, hq2⟩ := hown
      have cBh2 := Lib.hid cB2
      have rx2 := cmax_run k2 mm hkm2
      clear cB2 hrr
      try (have he' : k = k2 := by omega)
      try subst he'
      try subst he
      unfold chCells
      go_upto_region 21 with (refine wpList_store_row rfl 33 (.tmp 29) (.tmp 181) rfl (w7.heap.size) #[.int .i64 d.kind, .int .i64 d.v.id, .int .i64 d.v.side, .int .i64 d.e.id, .int .i64 d.e.src, .int .i64 d.e.dst, .bool d.e.dir, .int .i64 d.e.wt, .int .i64 d.e.cap, .int .i64 d.id, .int .i64 d.n, .slice f1 n21 f2, .slice f3 n22 f4] rfl rfl 33 _ bx.out (by kernel_rfl) rfl (by simp [Value.oneCell']) ?_)
      obtain ⟨w21, hw21⟩ : ∃ W, W = w20.setRow w7.heap.size #[.int .i64 d.kind, .int .i64 d.v.id, .int .i64 d.v.side, .int .i64 d.e.id, .int .i64 d.e.src, .int .i64 d.e.dst, .bool d.e.dir, .int .i64 d.e.wt, .int .i64 d.e.cap, .int .i64 d.id, .int .i64 d.n, .slice f1 n21 f2, .slice f3 n22 f4] := ⟨_, rfl⟩
      rw [← hw21]
      have hd := Lib.hid (show CV w21 (.agg (chCells d (.slice f1 n21 f2) (.slice f3 n22 f4))) d from ⟨_, _, rfl, by rw [hw21]; exact OwnI.DL (own_setRowB hq1 (by omega)), by rw [hw21]; exact OwnI.DL (own_setRowB hq2 (by omega))⟩)
      have bx21 : w21.heap[w7.heap.size]? = some (.cells (chCells d (.slice f1 n21 f2) (.slice f3 n22 f4)) 33 (0, 0)) := by rw [hw21]; exact setRow_heap _ _ _ _ _ _ bx.out
      replace kw := Lib.hid (show Below w.heap.size w w21 by rw [hw21]; exact below_row kw.out (by omega) _)
      clear hw21 bx hq1 hq2
      obtain ⟨q0, q1, q2, q3, q4, q5, q6, q7, q8, q9, qA, qB, qC⟩ := ch_cells bx21
      go_wp2_with fail
      unfold chCells at hd
      with_reducible refine (cBh2.out _ _ hd.out).mono ?_
      clear q0 q1 q2 q3 q4 q5 q6 q7 q8 q9 qA qB qC
      rintro e w22 ⟨rfl, b⟩
      replace kw := Lib.hid (kw.out.trans (b.mono kw.out.size))
      clear b cBh2 hd bx21
      go_wp2
      go_ret
      exact ⟨rfl, kw.out⟩
    · have bx := Lib.hid ((b.block _ (by omega)).trans bxd.out)
      replace kw := Lib.hid (kw.out.trans (b.mono kw.out.size))
      clear b bxd hrr
      unfold chCells zC zV zE
      go_upto_region 21 with (refine wpList_store_row rfl 33 (.tmp 29) (.tmp 181) rfl (w7.heap.size) #[.int .i64 0, .int .i64 0, .int .i64 0, .int .i64 0, .int .i64 0, .int .i64 0, .bool false, .int .i64 0, .int .i64 0, .int .i64 0, .int .i64 0, .slice none 0 0, .slice none 0 0] rfl rfl 33 _ bx.out (by kernel_rfl) rfl (by simp [Value.oneCell']) ?_)
      obtain ⟨w21, hw21⟩ : ∃ W, W = w20.setRow w7.heap.size #[.int .i64 0, .int .i64 0, .int .i64 0, .int .i64 0, .int .i64 0, .int .i64 0, .bool false, .int .i64 0, .int .i64 0, .int .i64 0, .int .i64 0, .slice none 0 0, .slice none 0 0] := ⟨_, rfl⟩
      rw [← hw21]
      replace kw := Lib.hid (show Below w.heap.size w w21 by rw [hw21]; exact below_row kw.out (by omega) _)
      clear hw21 bx
      go_wp2
      go_ret
      exact ⟨rfl, kw.out⟩
  · have bc := Lib.hid ((b.block _ (by omega)).trans bxc.out)
    have bd := Lib.hid ((b.block _ (by omega)).trans bxd.out)
    have zz := b.size
    replace kw := Lib.hid (kw.out.trans (b.mono kw.out.size))
    clear b bxc bxd kw9 hrr
    go_upto_region 16 with (refine wpList_store_row rfl 26 (.tmp 26) (.tmp 140) rfl (w6.heap.size) #[.slice none 0 0, .slice none 0 0, .slice none 0 0] rfl rfl 26 _ bc.out (by kernel_rfl) rfl (by simp [Value.oneCell']) ?_)
    obtain ⟨w11, hw11⟩ : ∃ W, W = w10.setRow w6.heap.size #[.slice none 0 0, .slice none 0 0, .slice none 0 0] := ⟨_, rfl⟩
    rw [← hw11]
    have bxd := Lib.hid ((show w11.heap[w7.heap.size]? = w10.heap[w7.heap.size]? from by rw [hw11, setRow_other _ _ _ _ (by omega)]).trans bd.out)
    have z11 : w11.heap.size = w10.heap.size := by rw [hw11]; simp
    replace kw := Lib.hid (show Below w.heap.size w w11 by rw [hw11]; exact below_row kw.out (by omega) _)
    clear hw11 bc bd
    go_wp2_with fail
    refine (decC_any S a _ (by unfold maxLen; omega) (by omega) (by omega)).mono ?_
    rintro e w20 hpost2
    rcases hpost2 with ⟨f1, f2, f3, f4, n21, n22, mm, d, rfl, hown, hrr, b⟩ | ⟨rfl, hrr, b⟩
    · have bx := Lib.hid ((b.block _ (by omega)).trans bxd.out)
      have zz := b.size
      replace kw := Lib.hid (kw.out.trans (b.mono kw.out.size))
      clear b bxd
      obtain ⟨k2, he, hkm2, hmS2, cB2⟩ := encC_back S _ d mm hrr
      obtain ⟨hq1, hq2⟩ := hown
      have cBh2 := Lib.hid cB2
      have rx2 := cmax_run k2 mm hkm2
      clear cB2 hrr
      try (have he' : k = k2 := by omega)
      try subst he'
      try subst he
      unfold chCells
      go_upto_region 21 with (refine wpList_store_row rfl 33 (.tmp 29) (.tmp 181) rfl (w7.heap.size) #[.int .i64 d.kind, .int .i64 d.v.id, .int .i64 d.v.side, .int .i64 d.e.id, .int .i64 d.e.src, .int .i64 d.e.dst, .bool d.e.dir, .int .i64 d.e.wt, .int .i64 d.e.cap, .int .i64 d.id, .int .i64 d.n, .slice f1 n21 f2, .slice f3 n22 f4] rfl rfl 33 _ bx.out (by kernel_rfl) rfl (by simp [Value.oneCell']) ?_)
      obtain ⟨w21, hw21⟩ : ∃ W, W = w20.setRow w7.heap.size #[.int .i64 d.kind, .int .i64 d.v.id, .int .i64 d.v.side, .int .i64 d.e.id, .int .i64 d.e.src, .int .i64 d.e.dst, .bool d.e.dir, .int .i64 d.e.wt, .int .i64 d.e.cap, .int .i64 d.id, .int .i64 d.n, .slice f1 n21 f2, .slice f3 n22 f4] := ⟨_, rfl⟩
      rw [← hw21]
      have hd := Lib.hid (show CV w21 (.agg (chCells d (.slice f1 n21 f2) (.slice f3 n22 f4))) d from ⟨_, _, rfl, by rw [hw21]; exact OwnI.DL (own_setRowB hq1 (by omega)), by rw [hw21]; exact OwnI.DL (own_setRowB hq2 (by omega))⟩)
      have bx21 : w21.heap[w7.heap.size]? = some (.cells (chCells d (.slice f1 n21 f2) (.slice f3 n22 f4)) 33 (0, 0)) := by rw [hw21]; exact setRow_heap _ _ _ _ _ _ bx.out
      replace kw := Lib.hid (show Below w.heap.size w w21 by rw [hw21]; exact below_row kw.out (by omega) _)
      clear hw21 bx hq1 hq2
      obtain ⟨q0, q1, q2, q3, q4, q5, q6, q7, q8, q9, qA, qB, qC⟩ := ch_cells bx21
      go_wp2_with fail
      unfold chCells at hd
      with_reducible refine (cBh2.out _ _ hd.out).mono ?_
      clear q0 q1 q2 q3 q4 q5 q6 q7 q8 q9 qA qB qC
      rintro e w22 ⟨rfl, b⟩
      replace kw := Lib.hid (kw.out.trans (b.mono kw.out.size))
      clear b cBh2 hd bx21
      go_wp2
      go_ret
      exact ⟨rfl, kw.out⟩
    · have bx := Lib.hid ((b.block _ (by omega)).trans bxd.out)
      replace kw := Lib.hid (kw.out.trans (b.mono kw.out.size))
      clear b bxd hrr
      unfold chCells zC zV zE
      go_upto_region 21 with (refine wpList_store_row rfl 33 (.tmp 29) (.tmp 181) rfl (w7.heap.size) #[.int .i64 0, .int .i64 0, .int .i64 0, .int .i64 0, .int .i64 0, .int .i64 0, .bool false, .int .i64 0, .int .i64 0, .int .i64 0, .int .i64 0, .slice none 0 0, .slice none 0 0] rfl rfl 33 _ bx.out (by kernel_rfl) rfl (by simp [Value.oneCell']) ?_)
      obtain ⟨w21, hw21⟩ : ∃ W, W = w20.setRow w7.heap.size #[.int .i64 0, .int .i64 0, .int .i64 0, .int .i64 0, .int .i64 0, .int .i64 0, .bool false, .int .i64 0, .int .i64 0, .int .i64 0, .int .i64 0, .slice none 0 0, .slice none 0 0] := ⟨_, rfl⟩
      rw [← hw21]
      replace kw := Lib.hid (show Below w.heap.size w w21 by rw [hw21]; exact below_row kw.out (by omega) _)
      clear hw21 bx
      go_wp2
      go_ret
      exact ⟨rfl, kw.out⟩
end Go.Proofs.YtlaldnlgapeckaaGreat
