/- GraphContracts, the walk from its begin. -/
import Derived.Test.YtlaldnlgapeckaaGreatYC1
import Derived.Test.YtlaldnlgapeckaaGreatYH
namespace Go.Proofs.YtlaldnlgapeckaaGreat
open Go.RowKit
/-- what contraction answers -/
theorem con_app (G : Gr) (hok : Ok G) (a b : Int) (ha : a ∈ keysV G.vs) (hb : b ∈ keysV G.vs) (vG : Value) (W : World) (hg : GV W vG G) :
  Calls Tryz.prog 19 #[vG, .agg #[.int .i64 7, .int .i64 0, .int .i64 0, .int .i64 0, .int .i64 0, .int .i64 0, .bool false, .int .i64 0, .int .i64 0, .int .i64 a, .int .i64 b, .slice none 0 0, .slice none 0 0]] W fun e w' =>
   ∃ x1 x2 x3 x4 x5 x6, ∃ m1 m2 m3 : Nat, ∃ er : Int, e = .returned (.tuple #[.agg #[.slice x1 m1 x2, .slice x3 m2 x4, .slice x5 m3 x6], .int .i64 er]) ∧ Below W.heap.size W w' ∧
    ((er = 30 ∧ ¬ (a ≠ b ∧ a ∉ G.ds)) ∨ (er = 0 ∧ a ≠ b ∧ a ∉ G.ds ∧ m1 + 1 = G.vs.length ∧ m2 = G.es.length ∧ GV w' (.agg #[.slice x1 m1 x2, .slice x3 m2 x4, .slice x5 m3 x6]) { G with vs := delV G.vs a, es := G.es.map (ctE a b) })) := by
 have h1 := hok.vlen
 have h2 := hok.elen
 have h3 := hok.dlen
 have hcv : CV W (.agg (chCells (conC a b) (.slice none 0 0) (.slice none 0 0))) (conC a b) := ⟨_, _, rfl, .inl ⟨rfl, _, _, rfl⟩, .inl ⟨rfl, _, _, rfl⟩⟩
 have hact := act_con G a b
 by_cases h : a ≠ b ∧ a ∉ G.ds
 ·rw [if_pos (by simp [h.1, h.2, ha, hb])] at hact
  refine (apply_ok vG _ G (conC a b) _ W hg hcv ⟨by omega, by omega, by omega⟩ (by simp [conC, zC]) ((ok_iff G).2 hok) hact).mono fun e w' h' => ?_
  obtain ⟨r, he, x1, x2, x3, x4, x5, x6, hr, hgv, hB⟩ := h'
  subst hr
  exact ⟨x1, x2, x3, x4, x5, x6, _, _, _, 0, he, hB, .inr ⟨rfl, h.1, h.2, delV_len G.vs a hok.vasc ha, by dsimp only; rw [List.length_map], hgv⟩⟩
 ·rw [if_neg (by simp [ha, hb]; intro h4; simpa [h4] using h)] at hact
  refine (apply_no vG _ G (conC a b) W hg hcv ⟨by omega, by omega, by omega⟩ (by simp [conC, zC]) (by rw [if_pos ((ok_iff G).2 hok)]; simpa using hact)).mono fun e w' h' => ?_
  exact ⟨none, 0, none, 0, none, 0, 0, 0, 0, 30, h'.1, h'.2, .inl ⟨rfl, h⟩⟩
theorem depot_at {W : World} {c : Option Addr} {n q : Nat} {a b : Value} {g : Gr} (h : GV W (.agg #[a, b, .slice c n q]) g) (k : Nat) (hk : k < g.ds.length) : ∃ db d0, c = some ⟨db, d0, none⟩ ∧ W.cell? ⟨db, d0 + k, none⟩ = some (.int .i64 g.ds[k]) := by
 have h3 := h.dl
 rcases h3 with ⟨h0, _⟩ | ⟨_, b, o, c2, e1, _, _, e3⟩
 ·rw [h0] at hk; simp at hk
 ·injection e1 with e1 _ _
  exact ⟨b, o, e1, e3 k _ (List.getElem?_eq_getElem hk)⟩
set_option linter.unusedSimpArgs false in
set_option maxRecDepth 1000000 in
set_option maxHeartbeats 8000000 in
theorem Contracts_any (n : Int) (vl : Value) (l : List F5) (wide : Bool) (one two fr : Int) (w : World) (hl : L5 w vl l) (hn : i64B n) (hlen : l.length ≤ 9223372036854775807) (hr : ∀ r ∈ l, i64B r.a ∧ i64B r.b ∧ i64B r.c ∧ i64B r.d ∧ i64B r.e) (h1 : i64B one) (h2 : i64B two) (h3 : i64B fr) :
  Calls Tryz.prog 9 #[.int .i64 n, vl, .bool wide, .int .i64 one, .int .i64 two, .int .i64 fr] w fun e w' => e = .returned (.bool true) ∧ Below w.heap.size w w' := by
 have cS := Lib.hid (sane_any w)
 have cM := Lib.hid (fun W (B : Below w.heap.size w W) => Made_any n vl l wide W (hl.below B) hn hlen hr)
 obtain ⟨G, hG⟩ : ∃ G, Hid (G = madeG n l wide) := ⟨_, rfl⟩
 have hok0 : Ok G := by rw [hG.out]; exact made_ok n l wide
 have hpos : 1 ≤ G.vs.length := by rw [hG.out]; show 1 ≤ (madeV n wide).length; rw [madeV_len]; exact mkN_pos n wide
 rw [← hG.out] at cM
 have hvl := hok0.vlen
 have hel := hok0.elen
 have hdl := hok0.dlen
 obtain ⟨N1, hN1⟩ : ∃ N, Hid (N = G.vs.length) := ⟨_, rfl⟩
 obtain ⟨N2, hN2⟩ : ∃ N, Hid (N = G.es.length) := ⟨_, rfl⟩
 obtain ⟨N3, hN3⟩ : ∃ N, Hid (N = G.ds.length) := ⟨_, rfl⟩
 rw [← hN1.out] at hpos hvl
 rw [← hN2.out] at hel
 rw [← hN3.out] at hdl
 obtain ⟨p, hp, hpN⟩ : ∃ p : Nat, pk one N1 = p ∧ p < N1 := ⟨(pk one N1).toNat, by have := pk_lo one N1 (by omega); omega, pk_toNat _ N1 hpos⟩
 obtain ⟨q, hq, hqN⟩ : ∃ q : Nat, pk two N1 = q ∧ q < N1 := ⟨(pk two N1).toNat, by have := pk_lo two N1 (by omega); omega, pk_toNat _ N1 hpos⟩
 have pp := Lib.hid (fun W => pick_any one N1 W h1.1 h1.2 (by omega) (by omega))
 have pq := Lib.hid (fun W => pick_any two N1 W h2.1 h2.2 (by omega) (by omega))
 rw [hp] at pp
 rw [hq] at pq
 have hfr := Lib.hid h3
 have hok := Lib.hid hok0
 have kw := Lib.hid (Below.refl w.heap.size w)
 clear hl hn hlen hr h1 h2 h3 hG hok0 hp hq
 go_enter Tryz.func9, Tryz.ntmps9
 go_wp2_with fail
 with_reducible refine (cS.out).mono ?_
 rintro e w1 ⟨rfl, b⟩
 replace kw := Lib.hid (kw.out.trans (b.mono kw.out.size))
 clear b
 go_wp2_with fail
 with_reducible refine (cM.out _ kw.out).mono ?_
 rintro e w2 ⟨va, vb', vc, rfl, o1, o2, o3, b⟩
 obtain ⟨a1, a2, ha⟩ := o1.VL.shape
 obtain ⟨b1, b2, hb⟩ := o2.EL.shape
 obtain ⟨c1, c2, hc⟩ := o3.DL.shape
 rw [← hN1.out] at ha
 rw [← hN2.out] at hb
 rw [← hN3.out] at hc
 subst ha hb hc
 have hgv : GV w2 (.agg #[.slice a1 N1 a2, .slice b1 N2 b2, .slice c1 N3 c2]) G := ⟨_, _, _, rfl, o1.VL, o2.EL, o3.DL⟩
 clear o1 o2 o3
 replace kw := Lib.hid (kw.out.trans (b.mono kw.out.size))
 clear b
 obtain ⟨vb, vo, ha1, hV⟩ := verts_in hgv p (by rw [← hN1.out]; exact hpN)
 obtain ⟨vb2, vo2, ha2, hV2⟩ := verts_in hgv q (by rw [← hN1.out]; exact hqN)
 subst ha1
 injection ha2 with ha2
 injection ha2 with e1 e2 _
 subst e1 e2
 obtain ⟨a, haa⟩ : ∃ a, Hid (a = (G.vs[p]'(by rw [← hN1.out]; exact hpN)).id) := ⟨(G.vs[p]'(by rw [← hN1.out]; exact hpN)).id, Lib.hid rfl⟩
 obtain ⟨b, hbb⟩ : ∃ b, Hid (b = (G.vs[q]'(by rw [← hN1.out]; exact hqN)).id) := ⟨(G.vs[q]'(by rw [← hN1.out]; exact hqN)).id, Lib.hid rfl⟩
 rw [← haa.out] at hV
 rw [← hbb.out] at hV2
 have ham : Hid (a ∈ keysV G.vs) := mem_keysV.2 ⟨_, List.getElem_mem _, haa.out.symm⟩
 have hbm : Hid (b ∈ keysV G.vs) := mem_keysV.2 ⟨_, List.getElem_mem _, hbb.out.symm⟩
 have hgvh := Lib.hid hgv
 have hVh := Lib.hid hV
 have hVh2 := Lib.hid hV2
 clear hgv hV hV2 haa hbb
 go_upto_region 5 with (fail)
 obtain ⟨wa, hwa⟩ : ∃ W, W = w2.alloc (.cells #[.slice (some ⟨vb, vo, none⟩) N1 a2, .slice b1 N2 b2, .slice c1 N3 c2] 26) := ⟨_, rfl⟩
 rw [← hwa]
 obtain ⟨bb, hpwa0⟩ := box_new hwa
 have hC := Lib.hid (fun W (B : Below wa.heap.size wa W) => And.intro (box3 (hpwa0 W B)) (And.intro (hVh.out W (bb.trans (B.mono bb.size))).1 (hVh2.out W (bb.trans (B.mono bb.size))).1))
 have hH := Lib.hid (show CtH G a w2.heap.size (some ⟨vb, vo, none⟩) b1 c1 N1 a2 N2 b2 N3 c2 w wa from ⟨hok.out, ham.out, hN1.out, hN2.out, hN3.out, hgvh.out.below bb, hpwa0 wa (Below.refl _ _), kw.out.trans (bb.mono kw.out.size)⟩)
 have i0 : (0 : Int) ≤ (p : Int) := by omega
 have i1 : (p : Int) < (N1 : Int) := by omega
 have i2 : (0 : Int) ≤ (q : Int) := by omega
 have i3 : (q : Int) < (N1 : Int) := by omega
 clear hwa hpwa0 bb kw hgvh hVh hVh2
 refine q_region (fun W => Below wa.heap.size wa W) (by kernel_rfl) (by kernel_rfl) ((Below.refl _ wa).drew) ?_
 refine q_take (v := ?_) (by rfl) ?_ ?_
 rotate_left
 ·((intro w hSw; go_simp) <;> with_reducible rfl)
 try simp only [Act.put, zT, z0, zS]
 refine q_take (v := ?_) (by rfl) ?_ ?_
 rotate_left
 ·((intro w hSw; obtain ⟨⟨t0, t1, t2⟩, v0, v1⟩ := hC.out w hSw; go_simp) <;> with_reducible rfl)
 try simp only [Act.put, zT, z0, zS]
 refine q_take (v := ?_) (by rfl) ?_ ?_
 rotate_left
 ·((intro w hSw; go_simp) <;> with_reducible rfl)
 try simp only [Act.put, zT, z0, zS]
 refine q_take (v := ?_) (by rfl) ?_ ?_
 rotate_left
 ·((intro w hSw; go_simp) <;> with_reducible rfl)
 try simp only [Act.put, zT, z0, zS]
 refine q_take (v := ?_) (by rfl) ?_ ?_
 rotate_left
 ·((intro w hSw; obtain ⟨⟨t0, t1, t2⟩, v0, v1⟩ := hC.out w hSw; go_simp) <;> with_reducible rfl)
 try simp only [Act.put, zT, z0, zS]
 refine q_take (v := ?_) (by rfl) ?_ ?_
 rotate_left
 ·((intro w hSw; go_simp) <;> with_reducible rfl)
 try simp only [Act.put, zT, z0, zS]
 refine q_call (v := .int .i64 (p : Int)) Tryz.f26 (by rfl) rfl Tryz.func26 (by kernel_rfl) (by kernel_rfl) #[.int .i64 one, .int .i64 (N1 : Int)] (by simp [Act.eval]) (fun w hSw => (pp.out w).mono fun e w'' h => ⟨h.1, h.2 ▸ hSw⟩) ?_
 try simp only [Act.put, zT, z0, zS]
 refine q_take (v := ?_) (by rfl) ?_ ?_
 rotate_left
 ·((intro w hSw; go_simp) <;> with_reducible rfl)
 try simp only [Act.put, zT, z0, zS]
 refine q_take (v := ?_) (by rfl) ?_ ?_
 rotate_left
 ·((intro w hSw; go_simp) <;> with_reducible rfl)
 try simp only [Act.put, zT, z0, zS]
 refine q_take (v := ?_) (by rfl) ?_ ?_
 rotate_left
 ·((intro w hSw; obtain ⟨⟨t0, t1, t2⟩, v0, v1⟩ := hC.out w hSw; go_simp) <;> with_reducible rfl)
 try simp only [Act.put, zT, z0, zS]
 refine q_take (v := ?_) (by rfl) ?_ ?_
 rotate_left
 ·((intro w hSw; go_simp) <;> with_reducible rfl)
 try simp only [Act.put, zT, z0, zS]
 refine q_nil ?_
 intro wb kb
 have kb1 := Lib.hid kb
 clear kb
 go_upto_region 6 with (fail)
 refine q_region (fun W => Below wa.heap.size wa W) (by kernel_rfl) (by kernel_rfl) (kb1.out.drew) ?_
 refine q_take (v := ?_) (by rfl) ?_ ?_
 rotate_left
 ·((intro w hSw; go_simp) <;> with_reducible rfl)
 try simp only [Act.put, zT, z0, zS]
 refine q_take (v := ?_) (by rfl) ?_ ?_
 rotate_left
 ·((intro w hSw; obtain ⟨⟨t0, t1, t2⟩, v0, v1⟩ := hC.out w hSw; go_simp) <;> with_reducible rfl)
 try simp only [Act.put, zT, z0, zS]
 refine q_take (v := ?_) (by rfl) ?_ ?_
 rotate_left
 ·((intro w hSw; go_simp) <;> with_reducible rfl)
 try simp only [Act.put, zT, z0, zS]
 refine q_take (v := ?_) (by rfl) ?_ ?_
 rotate_left
 ·((intro w hSw; go_simp) <;> with_reducible rfl)
 try simp only [Act.put, zT, z0, zS]
 refine q_take (v := ?_) (by rfl) ?_ ?_
 rotate_left
 ·((intro w hSw; obtain ⟨⟨t0, t1, t2⟩, v0, v1⟩ := hC.out w hSw; go_simp) <;> with_reducible rfl)
 try simp only [Act.put, zT, z0, zS]
 refine q_take (v := ?_) (by rfl) ?_ ?_
 rotate_left
 ·((intro w hSw; go_simp) <;> with_reducible rfl)
 try simp only [Act.put, zT, z0, zS]
 refine q_call (v := .int .i64 (q : Int)) Tryz.f26 (by rfl) rfl Tryz.func26 (by kernel_rfl) (by kernel_rfl) #[.int .i64 two, .int .i64 (N1 : Int)] (by simp [Act.eval]) (fun w hSw => (pq.out w).mono fun e w'' h => ⟨h.1, h.2 ▸ hSw⟩) ?_
 try simp only [Act.put, zT, z0, zS]
 refine q_take (v := ?_) (by rfl) ?_ ?_
 rotate_left
 ·((intro w hSw; go_simp) <;> with_reducible rfl)
 try simp only [Act.put, zT, z0, zS]
 refine q_take (v := ?_) (by rfl) ?_ ?_
 rotate_left
 ·((intro w hSw; go_simp) <;> with_reducible rfl)
 try simp only [Act.put, zT, z0, zS]
 refine q_take (v := ?_) (by rfl) ?_ ?_
 rotate_left
 ·((intro w hSw; obtain ⟨⟨t0, t1, t2⟩, v0, v1⟩ := hC.out w hSw; go_simp) <;> with_reducible rfl)
 try simp only [Act.put, zT, z0, zS]
 refine q_take (v := ?_) (by rfl) ?_ ?_
 rotate_left
 ·((intro w hSw; go_simp) <;> with_reducible rfl)
 try simp only [Act.put, zT, z0, zS]
 refine q_nil ?_
 intro wc kc
 have H1 := Lib.hid (hH.out.to kc)
 clear kc kb1 hC hH pp pq i0 i1 i2 i3 hpN hqN
 have cA := Lib.hid (con_app G hok.out a b ham.out hbm.out _ wc H1.out.gv)
 obtain ⟨t0, t1, t2⟩ := H1.out.t
 go_wp2_with fail
 with_reducible refine cA.out.mono ?_
 rintro e w3 ⟨x1, x2, x3, x4, x5, x6, m1, m2, m3, er, rfl, bel, hcase⟩
 clear t0 t1 t2 cA
 have hcs := Lib.hid hcase
 clear hcase
 go_upto_region 9 with (fail)
 obtain ⟨wf, hwf⟩ : ∃ W, W = w3.alloc (.cells #[.slice x1 m1 x2, .slice x3 m2 x4, .slice x5 m3 x6] 26) := ⟨_, rfl⟩
 rw [← hwf]
 obtain ⟨bb, hpwf0⟩ := box_new hwf
 have hpa := Lib.hid (hpwf0 wf (Below.refl _ _))
 have H2 := Lib.hid (H1.out.to (bel.trans (bb.mono bel.size)))
 have hbh := Lib.hid bb
 clear hwf hpwf0 bb bel H1
 obtain ⟨t0, t1, t2⟩ := H2.out.t
 go_wp2_with fail
 go_loop [19, 20] (fun d i => ∃ k : Nat, k ≤ N3 ∧ i = .int .i64 k ∧ ∃ dk : Bool, d = .bool dk ∧ Hid (dk = decide (a ∈ G.ds.take k))) (fun _ i => N3 - (intOf i).toNat)
 case atStart => exact ⟨0, by omega, rfl, false, rfl, by show _ = _; simp⟩
 case round =>
 obtain ⟨k, hk, rfl, dk, rfl, hdk⟩ := hrel
 have i0 : (0 : Int) ≤ (k : Int) := by omega
 by_cases hlt : k < N3
 ·have i1 : (k : Int) < (N3 : Int) := by omega
  have hkd : k < G.ds.length := by rw [← hN3.out]; exact hlt
  obtain ⟨db, d0, hc1, hcd⟩ := depot_at H2.out.gv k hkd
  subst hc1
  have hsn : Hid (decide (a ∈ G.ds.take (k + 1)) = (dk || decide (a = G.ds[k]))) := by
   show _ = _
   rw [hdk.out, Bool.eq_iff_iff]
   simp only [Bool.or_eq_true, decide_eq_true_eq, List.take_succ_eq_append_getElem hkd, List.mem_append, List.mem_singleton]
  generalize G.ds[k] = d at *
  clear hdk
  cases dk with
  | true =>
   have hf : Hid (true = decide (a ∈ G.ds.take (k + 1))) := by show _ = _; rw [hsn.out]; rfl
   clear hsn
   go_wp2_with fail
   go_round
   case rel => exact ⟨k + 1, by omega, by go_num, true, rfl, hf.out⟩
   case measure => simp [intOf]; omega
  | false =>
   by_cases had : d = a
   ·have q1 : (d == a) = true := by simpa using had
    have hf : Hid (true = decide (a ∈ G.ds.take (k + 1))) := by show _ = _; rw [hsn.out, had]; simp
    clear hsn had
    go_wp2_with fail
    go_round
    case rel => exact ⟨k + 1, by omega, by go_num, true, rfl, hf.out⟩
    case measure => simp [intOf]; omega
   ·have q1 : (d == a) = false := by simpa using had
    have hf : Hid (false = decide (a ∈ G.ds.take (k + 1))) := by show _ = _; rw [hsn.out]; simp [Ne.symm had]
    clear hsn had
    go_wp2_with fail
    go_round
    case rel => exact ⟨k + 1, by omega, by go_num, false, rfl, hf.out⟩
    case measure => simp [intOf]; omega
 ·have hk2 : k = N3 := by omega
  subst hk2
  have i1 : ¬ ((k : Nat) : Int) < (k : Int) := by omega
  have hdep : Hid (dk = decide (a ∈ G.ds)) := by show _ = _; rw [hdk.out, List.take_of_length_le (by rw [← hN3.out]; omega)]
  clear hdk hlt
  rcases hcs.out with ⟨he, hno⟩ | ⟨he, hab, hda, hm1, hm2, hgv⟩
  ·subst he
   by_cases hab : a = b
   ·have q1 : (a != b) = false := by simpa using hab
    clear hab hno
    go_upto_region 13 with (fail)
    rename_i K0 hK0 K1 hK1
    have hK2 := Lib.hid hK0
    clear hK0
    go_wp2_with fail
    refine hK2.out _ _ ?_
    refine wp_eq (D := sfx9 10) (by kernel_rfl) ?_
    exact con1n _ _ _ _ _ _ _ _ _ _ _ _ _ _ _ _ _ _ _ _ _ _ _ _ _ _ _ _ _ _ _ _ _ _ _ _ _ _ _ _ _ _ _ _ _ _ _ _ _ _ _ _ _ _ _ _ _ _ _ _ _ _ _ _ _ _ _ _ _ _ _ _ _ _ _ _ _ _ _ _ _ _ _ _ _ _ _ _ _ _ _ _ _ _ _ _ _ _ _ _ _ _ _ _ _ _ _ _ _ _ _ _ _ _ _ _ _ _ _ _ _ _ _ _ _ _ _ _ _ _ _ _ _ _ _ _ _ _ _ _ _ _ _ _ _ _ _ _ _ _ _ _ _ _ _ _ _ _ _ _ _ _ _ _ _ _ _ _ _ _ _ _ _ _ _ _ _ _ _ _ _ _ _ _ _ _ _ _ _ _ _ _ _ _ _ _ _ _ _ _ _ _ _ _ _ _ _ _ _ _ _ _ _ _ _ _ _ _ _ _ _ _ _ _ _ _ _ _ _ _ _ _ _ _ _ _ _ _ _ _ _ _ _ _ _ _ _ _ _ _ _ _ _ _ _ _ _ _ _ _ _ _ _ _ _ _ _ _ _ _ _ _ _ _ _ _ _ _ _ _ _ _ _ _ _ _ _ _ _ _ _ _ _ _ _ _ _ _ _ w2.heap.size w3.heap.size G a b fr dk (some ⟨vb, vo, none⟩) b1 c1 N1 a2 N2 b2 k c2 w wf H2 hfr hdep
   ·have q1 : (a != b) = true := by simpa using hab
    have hdk : dk = true := by rw [hdep.out]; exact decide_eq_true (Classical.byContradiction fun h => hno ⟨hab, h⟩)
    subst hdk
    clear hab hno
    go_upto_region 13 with (fail)
    rename_i K0 hK0 K1 hK1
    have hK2 := Lib.hid hK0
    clear hK0
    go_wp2_with fail
    refine hK2.out _ _ ?_
    refine wp_eq (D := sfx9 10) (by kernel_rfl) ?_
    exact con1n _ _ _ _ _ _ _ _ _ _ _ _ _ _ _ _ _ _ _ _ _ _ _ _ _ _ _ _ _ _ _ _ _ _ _ _ _ _ _ _ _ _ _ _ _ _ _ _ _ _ _ _ _ _ _ _ _ _ _ _ _ _ _ _ _ _ _ _ _ _ _ _ _ _ _ _ _ _ _ _ _ _ _ _ _ _ _ _ _ _ _ _ _ _ _ _ _ _ _ _ _ _ _ _ _ _ _ _ _ _ _ _ _ _ _ _ _ _ _ _ _ _ _ _ _ _ _ _ _ _ _ _ _ _ _ _ _ _ _ _ _ _ _ _ _ _ _ _ _ _ _ _ _ _ _ _ _ _ _ _ _ _ _ _ _ _ _ _ _ _ _ _ _ _ _ _ _ _ _ _ _ _ _ _ _ _ _ _ _ _ _ _ _ _ _ _ _ _ _ _ _ _ _ _ _ _ _ _ _ _ _ _ _ _ _ _ _ _ _ _ _ _ _ _ _ _ _ _ _ _ _ _ _ _ _ _ _ _ _ _ _ _ _ _ _ _ _ _ _ _ _ _ _ _ _ _ _ _ _ _ _ _ _ _ _ _ _ _ _ _ _ _ _ _ _ _ _ _ _ _ _ _ _ _ _ _ _ _ _ _ _ _ _ _ _ _ _ _ _ w2.heap.size w3.heap.size G a b fr true (some ⟨vb, vo, none⟩) b1 c1 N1 a2 N2 b2 k c2 w wf H2 hfr hdep
  ·subst he
   have q1 : (a != b) = true := by simpa using hab
   have hdk : dk = false := by rw [hdep.out]; exact decide_eq_false hda
   subst hdk
   have hM : m1 + 1 = N1 := by rw [hN1.out]; exact hm1
   have hm2' : m2 = N2 := by rw [hN2.out]; exact hm2
   subst hm2'
   have habh : Hid (a ≠ b) := hab
   have hgvf := Lib.hid (hgv.below hbh.out)
   clear hab hda hm1 hm2 hgv
   go_upto_region 13 with (fail)
   rename_i K0 hK0 K1 hK1
   have hK2 := Lib.hid hK0
   clear hK0
   go_wp2_with fail
   refine hK2.out _ _ ?_
   refine wp_eq (D := sfx9 10) (by kernel_rfl) ?_
   exact con1y _ _ _ _ _ _ _ _ _ _ _ _ _ _ _ _ _ _ _ _ _ _ _ _ _ _ _ _ _ _ _ _ _ _ _ _ _ _ _ _ _ _ _ _ _ _ _ _ _ _ _ _ _ _ _ _ _ _ _ _ _ _ _ _ _ _ _ _ _ _ _ _ _ _ _ _ _ _ _ _ _ _ _ _ _ _ _ _ _ _ _ _ _ _ _ _ _ _ _ _ _ _ _ _ _ _ _ _ _ _ _ _ _ _ _ _ _ _ _ _ _ _ _ _ _ _ _ _ _ _ _ _ _ _ _ _ _ _ _ _ _ _ _ _ _ _ _ _ _ _ _ _ _ _ _ _ _ _ _ _ _ _ _ _ _ _ _ _ _ _ _ _ _ _ _ _ _ _ _ _ _ _ _ _ _ _ _ _ _ _ _ _ _ _ _ _ _ _ _ _ _ _ _ _ _ _ _ _ _ _ _ _ _ _ _ _ _ _ _ _ _ _ _ _ _ _ _ _ _ _ _ _ _ _ _ _ _ _ _ _ _ _ _ _ _ _ _ _ _ _ _ _ _ _ _ _ _ _ _ _ _ _ _ _ _ _ _ _ _ _ _ _ _ _ _ _ _ _ _ _ _ _ _ _ _ _ _ _ _ _ _ _ _ _ _ _ _ _ _ w2.heap.size w3.heap.size G a b fr false (some ⟨vb, vo, none⟩) b1 c1 x1 x3 x5 N1 a2 m2 b2 k c2 m1 x2 x4 m3 x6 w wf H2 hfr hdep habh hM hpa hgvf
end Go.Proofs.YtlaldnlgapeckaaGreat
