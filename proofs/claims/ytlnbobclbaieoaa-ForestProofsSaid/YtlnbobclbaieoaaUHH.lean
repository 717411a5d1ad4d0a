/- Contracts and facts. -/
import Derived.Deep.LoopGhost
import Derived.Handy
import Derived.WalkMore
import Derived.BigRegion
import Derived.Laws.EntriesVeiled
import Derived.Test.YtlnbobclbaieoaaUHG
set_option linter.unusedSimpArgs false
set_option maxRecDepth 100000
set_option maxHeartbeats 4000000
namespace Go.Proofs.Ytlnbobclbaieoaa
open Go.RowKit
set_option maxRecDepth 1000000 in
set_option maxHeartbeats 16000000 in
theorem Proofs_any (n : Int) (vl : Value) (l : List F5) (wide : Bool) (a b : Int) (pv : Value) (ps : List Int) (st : Int) (w : World) (hl : L5 w vl l) (hn : i64B n) (hlen : l.length ≤ 9223372036854775807) (hr : ∀ r ∈ l, i64B r.a ∧ i64B r.b ∧ i64B r.c ∧ i64B r.d ∧ i64B r.e)
    (ha : i64B a) (hb : i64B b) (hps : DL w pv ps) (hpl : ps.length ≤ 9223372036854775807) (hpi : ∀ x ∈ ps, i64B x) (hst : i64B st) :
    Calls Try.prog 4 #[.int .i64 n, vl, .bool wide, .int .i64 a, .int .i64 b, pv, .int .i64 st] w fun e w' => e = .returned (.bool true) ∧ Below w.heap.size w w' := by
  obtain ⟨p1, p2, rfl⟩ := hps.shape
  obtain ⟨X, hX⟩ : ∃ X, Hid (X = ps.length) := ⟨_, rfl⟩
  have cP := Lib.hid hps.cells
  rw [← hX.out] at hpl ⊢
  replace hps := Lib.hid hps
  rw [← hX.out] at hps
  replace hpi := Lib.hid hpi
  have hG0 := made_ok n l wide
  have hne0 := made_ne n l wide
  have cM := Lib.hid (fun W (B : Below w.heap.size w W) => Made_any n vl l wide W (hl.below B) hn hlen hr)
  obtain ⟨G, hG⟩ : ∃ G, Hid (G = madeG n l wide) := ⟨_, rfl⟩
  rw [← hG.out] at hG0 hne0 cM
  have ho := Lib.hid ((ok_iff G).2 hG0)
  obtain ⟨N1, hN1⟩ : ∃ N, Hid (N = G.vs.length) := ⟨_, rfl⟩
  obtain ⟨N2, hN2⟩ : ∃ N, Hid (N = G.es.length) := ⟨_, rfl⟩
  obtain ⟨N3, hN3⟩ : ∃ N, Hid (N = G.ds.length) := ⟨_, rfl⟩
  have n1 : N1 ≤ 24 := by rw [hN1.out]; exact (ok_facts ho.out).1.1
  have n2 : N2 ≤ 1000 := by rw [hN2.out]; exact (ok_facts ho.out).1.2
  have n0 : 0 < N1 := by rw [hN1.out]; exact List.length_pos_iff.2 hne0
  have hsm := Lib.hid (show G.small from by
    have h1 := (ok_facts ho.out).1.1
    have h2 := (ok_facts ho.out).1.2
    have h3 := hG0.dlen
    unfold Gr.small; omega)
  clear hG0 hG hl hn hr hlen
  go_enter Try.func4, Try.ntmps4
  go_wp2_with fail
  refine (sane_any w).mono ?_
  rintro e w1 ⟨rfl, b1⟩
  have B1 := Lib.hid b1
  clear b1
  go_wp2_with fail
  refine (cM.out w1 B1.out).mono ?_
  rintro e w2 ⟨x, y, z, rfl, hv, he, hd, b2⟩
  have hvl := hv.VL
  have hel := he.EL
  have hdl := hd.DL
  obtain ⟨vb, vo, a2, rfl, _, hvb, hcv⟩ := hvl.own hne0
  obtain ⟨b1, b2', rfl⟩ := hel.shape
  obtain ⟨c1, c2, rfl⟩ := hdl.shape
  rw [← hN1.out, ← hN2.out, ← hN3.out]
  have hgv : GV w2 (.agg #[.slice (some ⟨vb, vo, none⟩) G.vs.length a2, .slice b1 G.es.length b2', .slice c1 G.ds.length c2]) G := ⟨_, _, _, rfl, hvl, hel, hdl⟩
  rw [← hN1.out, ← hN2.out, ← hN3.out] at hgv
  have hcells := hvl.cells
  obtain ⟨w3, hw3⟩ : ∃ x, x = w2.alloc (.cells #[.slice (some ⟨vb, vo, none⟩) N1 a2, .slice b1 N2 b2', .slice c1 N3 c2] 28) := ⟨_, rfl⟩
  have b3 : Below w2.heap.size w2 w3 := by rw [hw3]; exact (Below.refl _ w2).alloc (Nat.le_refl _) _
  have gb : w3.heap[w2.heap.size]? = some (.cells #[.slice (some ⟨vb, vo, none⟩) N1 a2, .slice b1 N2 b2', .slice c1 N3 c2] 28 (0, 0)) := by rw [hw3]; exact heap_alloc_new w2 _
  have hs3 : w3.heap.size = w2.heap.size + 1 := by rw [hw3]; simp
  have hBB : Hid (Below w.heap.size w w3) := (B1.out.trans (b2.mono B1.out.size)).trans (b3.mono (by have := b2.size; have := B1.out.size; omega))
  have fG := Lib.hid (fun W (q : Below w3.heap.size w3 W) => (hgv.below b3).below q)
  have fb := Lib.hid (fun W (q : Below w3.heap.size w3 W) => box3g ((q.block _ (show w2.heap.size < w3.heap.size by omega)).trans gb))
  have fv := Lib.hid (fun (k : Nat) (hk : k < G.vs.length) W (q : Below w3.heap.size w3 W) => (show W.cell? ⟨vb, vo + k * 2, none⟩ = some (.int .i64 G.vs[k].id) from by
    obtain ⟨b', o', h1, h2⟩ := hcells k hk
    injection h1 with h1
    injection h1 with h1 h1'
    subst h1 h1'
    exact (h2 W (b3.trans (q.mono b3.size))).1))
  have fe := Lib.hid (hel.below b3)
  rw [← hN2.out] at fe
  replace hw3 := Lib.hid hw3
  clear hgv hvl hel hdl hv he hd b2 b3 gb hs3 hcells hvb hcv cM B1
  obtain ⟨g0, g1, g2⟩ := fb.out w3 (Below.refl _ _)
  go_upto_region 4 with (fail)
  rw [← hw3.out]
  clear g0 g1 g2 hw3
  generalize hbg : w2.heap.size = bg at *
  clear hbg
  obtain ⟨kp, hkp, hpkkp, hmp⟩ := pick_at G.vs a hne0
  have hpkp := Lib.hid (fun W => pick9_any a (G.vs.length : Int) W ha.1 ha.2 (by have := hN1.out; omega) (by have := hN1.out; omega))
  rw [hpkkp, ← hN1.out] at hpkp
  have fp := Lib.hid (fun W q => fv.out kp hkp W q)
  have ikp : (0 : Int) ≤ (kp : Int) := by omega
  have jkp : (kp : Int) < (N1 : Int) := by have := hN1.out; omega
  generalize G.vs[kp].id = p at *
  replace hmp := Lib.hid hmp
  clear hkp hpkkp
  obtain ⟨kq, hkq, hpkkq, hmq⟩ := pick_at G.vs b hne0
  have hpkq := Lib.hid (fun W => pick9_any b (G.vs.length : Int) W hb.1 hb.2 (by have := hN1.out; omega) (by have := hN1.out; omega))
  rw [hpkkq, ← hN1.out] at hpkq
  have fq := Lib.hid (fun W q => fv.out kq hkq W q)
  have ikq : (0 : Int) ≤ (kq : Int) := by omega
  have jkq : (kq : Int) < (N1 : Int) := by have := hN1.out; omega
  generalize G.vs[kq].id = q at *
  replace hmq := Lib.hid hmq
  clear hkq hpkkq
  go_upto_region 4 with (fail)
  refine q_region (fun W => Below w3.heap.size w3 W) (by kernel_rfl) (by kernel_rfl) ((Below.refl _ w3).drew) ?_
  repeat (first | (refine q_skip (by rfl) ?_; try simp only [Act.put, zT, z0, zS]) | (refine q_take (v := ?_) (by rfl) ?_ ?_; rotate_left; (first | ((intro w h; clear h; go_simp) <;> with_reducible rfl) | ((intro w h; obtain ⟨g0, g1, g2⟩ := fb.out w h; clear h; go_simp) <;> with_reducible rfl)); try simp only [Act.put, zT, z0, zS]))
  refine q_call (v := _) Try.f9 (by rfl) rfl Try.func9 (by kernel_rfl) (by kernel_rfl) #[.int .i64 a, .int .i64 N1] (by simp [Act.eval]) (fun w h => (hpkp.out w).mono fun e w' ⟨he, hb⟩ => ⟨he, hb ▸ h⟩) ?_; try simp only [Act.put, zT, z0, zS]
  repeat (first | (refine q_skip (by rfl) ?_; try simp only [Act.put, zT, z0, zS]) | (refine q_take (v := ?_) (by rfl) ?_ ?_; rotate_left; (first | ((intro w h; clear h; go_simp) <;> with_reducible rfl) | ((intro w h; have g3 := fp.out w h; obtain ⟨g0, g1, g2⟩ := fb.out w h; clear h; go_simp) <;> with_reducible rfl)); try simp only [Act.put, zT, z0, zS]))
  refine q_nil ?_
  intro w4 kw4
  replace kw4 := Lib.hid kw4
  go_upto_region 5 with (fail)
  refine q_region (fun W => Below w3.heap.size w3 W) (by kernel_rfl) (by kernel_rfl) (kw4.out.drew) ?_
  repeat (first | (refine q_skip (by rfl) ?_; try simp only [Act.put, zT, z0, zS]) | (refine q_take (v := ?_) (by rfl) ?_ ?_; rotate_left; (first | ((intro w h; clear h; go_simp) <;> with_reducible rfl) | ((intro w h; obtain ⟨g0, g1, g2⟩ := fb.out w h; clear h; go_simp) <;> with_reducible rfl)); try simp only [Act.put, zT, z0, zS]))
  refine q_call (v := _) Try.f9 (by rfl) rfl Try.func9 (by kernel_rfl) (by kernel_rfl) #[.int .i64 b, .int .i64 N1] (by simp [Act.eval]) (fun w h => (hpkq.out w).mono fun e w' ⟨he, hb⟩ => ⟨he, hb ▸ h⟩) ?_; try simp only [Act.put, zT, z0, zS]
  repeat (first | (refine q_skip (by rfl) ?_; try simp only [Act.put, zT, z0, zS]) | (refine q_take (v := ?_) (by rfl) ?_ ?_; rotate_left; (first | ((intro w h; clear h; go_simp) <;> with_reducible rfl) | ((intro w h; have g3 := fq.out w h; obtain ⟨g0, g1, g2⟩ := fb.out w h; clear h; go_simp) <;> with_reducible rfl)); try simp only [Act.put, zT, z0, zS]))
  refine q_nil ?_
  intro w5 kw5
  replace kw5 := Lib.hid kw5
  have hLB : Hid (LB w3 G bg vb vo N1 a2 N2 b2' N3 c2 b1 c1) := ⟨fG.out, fb.out, fv.out, fe.out, hN1.out, hN2.out, n1, n2, n0, ho.out, hsm.out⟩
  have hMl := Lib.hid (good_of ho.out)
  obtain ⟨S, hS⟩ : ∃ S, Hid (S = sideF (mF G) (keysV G.vs) p) := ⟨_, rfl⟩
  have hSl : Hid (S.length ≤ 1000) := by
    show _ ≤ _
    rw [hS.out]
    unfold sideF
    exact Nat.le_trans (List.length_filter_le _ _) (Nat.le_trans hMl.out.2.2.1 (by omega))
  have cSi := Lib.hid (fun W (q : Below w3.heap.size w3 W) => Side_any _ G p W (fG.out W q) hsm.out)
  rw [side_of ho.out hmp.out, ← hS.out] at cSi
  have cCo := Lib.hid (fun W (k : Below w3.heap.size w3 W) => Connected_any _ G p q W (fG.out W k) hsm.out)
  have cPa := Lib.hid (fun W (k : Below w3.heap.size w3 W) => Path_any _ G p q W (fG.out W k) hsm.out)
  have cCP := Lib.hid (fun W (k : Below w3.heap.size w3 W) v l (h : DL W v l) (hm : l.length ≤ 1000) => CheckPath_any _ G p q v l W (fG.out W k) hsm.out h (by omega) (by have := hN2.out; omega))
  have cCS := Lib.hid (fun W (k : Below w3.heap.size w3 W) v l (h : DL W v l) (hm : l.length ≤ 1000) => CheckSide_any _ G p q v l W (fG.out W k) hsm.out h (by omega) (by have := hN2.out; omega))
  rw [conn_of ho.out hmp.out hmq.out] at cCo
  by_cases hrt : (gp (mF G) p).root = (gp (mF G) q).root
  · rw [decide_eq_true hrt] at cCo
    rw [path_yes ho.out hmp.out hmq.out hrt] at cPa
    have e4 := Lib.hid (ckp_yes ho.out hmp.out hmq.out hrt)
    have e5 := cks_side ho.out hmp.out hmq.out
    rw [decide_eq_true hrt, ← hS.out] at e5
    replace e5 := Lib.hid e5
    have e6 := Lib.hid (cks_no ho.out hmp.out hmq.out hrt)
    obtain ⟨P, hP⟩ : ∃ P, Hid (P = pathF G.es (mF G) p q) := ⟨_, rfl⟩
    have hPl : Hid (P.length ≤ 1000) := by
      show _ ≤ _
      have := walk_len (path_walk hMl.out.1 hMl.out.2.1 hmp.out hmq.out hrt)
      have h2 := hMl.out.2.2.1
      rw [hP.out]; omega
    rw [← hP.out] at cPa e4
    clear hrt
    obtain ⟨g0, g1, g2⟩ := fb.out w5 kw5.out
    go_wp2_with fail
    refine (cCo.out w5 kw5.out).mono ?_
    rintro e w6 ⟨rfl, qq⟩
    have kw6 := Lib.hid (kw5.out.trans (qq.mono kw5.out.size))
    clear qq g0 g1 g2
    obtain ⟨g0, g1, g2⟩ := fb.out w6 kw6.out
    go_wp2_with fail
    refine (cPa.out w6 kw6.out).mono ?_
    rintro e w7 ⟨r, rfl, hr, qq⟩
    have kw7 := Lib.hid (kw6.out.trans (qq.mono kw6.out.size))
    clear qq g0 g1 g2
    have fr := Lib.hid (fun W (k : Below w7.heap.size w7 W) => (OwnI.DL hr).below k)
    clear hr
    have zr := Lib.hid (Below.refl w7.heap.size w7)
    obtain ⟨g0, g1, g2⟩ := fb.out w7 kw7.out
    go_wp2_with fail
    refine (cSi.out w7 kw7.out).mono ?_
    rintro e w8 ⟨s, rfl, hs, qq⟩
    have kw8 := Lib.hid (kw7.out.trans (qq.mono kw7.out.size))
    replace zr := Lib.hid (zr.out.trans (qq.mono zr.out.size))
    clear qq g0 g1 g2
    have fs := Lib.hid (fun W (k : Below w8.heap.size w8 W) => (OwnI.DL hs).below k)
    clear hs
    have zs := Lib.hid (Below.refl w8.heap.size w8)
    have k1 := cCP.out w8 kw8.out r P (fr.out w8 zr.out) hPl.out
    rw [e4.out] at k1
    replace k1 := Lib.hid k1
    obtain ⟨g0, g1, g2⟩ := fb.out w8 kw8.out
    go_wp2_with fail
    refine (k1.out).mono ?_
    rintro e w9 ⟨rfl, qq⟩
    have kw9 := Lib.hid (kw8.out.trans (qq.mono kw8.out.size))
    replace zs := Lib.hid (zs.out.trans (qq.mono zs.out.size))
    clear qq g0 g1 g2 k1
    have k2 := cCS.out w9 kw9.out s S (fs.out w9 zs.out) hSl.out
    rw [e5.out] at k2
    replace k2 := Lib.hid k2
    obtain ⟨g0, g1, g2⟩ := fb.out w9 kw9.out
    go_wp2_with fail
    refine (k2.out).mono ?_
    rintro e w10 ⟨rfl, qq⟩
    have kw10 := Lib.hid (kw9.out.trans (qq.mono kw9.out.size))
    clear qq g0 g1 g2 k2
    clear cCo cPa cSi fs zs zr fr
    rename_i Ka hKa Kb hKb Kc hKc
    have hK1 := Lib.hid hKa
    clear hKa
    go_wp2_with fail
    refine hK1.out _ _ ?_
    refine wp_eq (D := sfxP 10) (by kernel_rfl) ?_
    exact proofs_loops _ _ _ _ _ _ _ _ _ _ _ _ _ _ _ _ _ _ _ _ _ _ _ _ _ _ _ _ _ _ _ _ _ _ _ _ _ _ _ _ _ _ _ _ _ _ _ _ _ _ _ _ _ _ _ _ _ _ _ _ _ _ _ _ _ _ _ _ _ _ _ _ _ _ _ _ _ _ _ _ _ _ _ _ _ _ _ _ _ _ _ _ _ _ _ _ _ _ _ _ _ _ _ _ _ _ _ _ _ _ _ _ _ _ _ _ _ _ _ _ _ _ _ _ _ _ _ _ _ _ _ _ _ _ _ _ _ _ _ _ _ _ _ _ _ _ _ _ _ _ _ _ _ _ _ _ _ _ _ _ _ _ _ _ _ _ _ _ _ _ _ _ _ _ _ _ w w3 w10 true G p q st ps p1 X p2 bg vb vo N1 a2 N2 b2' N3 c2 b1 c1 hLB kw10 hBB hX hpl hps hpi hst (fun h => by cases h) (fun _ => e6.out)
  · rw [decide_eq_false hrt] at cCo
    rw [path_no ho.out hmp.out hmq.out hrt] at cPa
    have e5 := cks_side ho.out hmp.out hmq.out
    rw [decide_eq_false hrt, ← hS.out] at e5
    replace e5 := Lib.hid e5
    have e6 := Lib.hid (ckp_no ho.out hmp.out hmq.out hrt)
    clear hrt
    obtain ⟨g0, g1, g2⟩ := fb.out w5 kw5.out
    go_wp2_with fail
    refine (cCo.out w5 kw5.out).mono ?_
    rintro e w6 ⟨rfl, qq⟩
    have kw6 := Lib.hid (kw5.out.trans (qq.mono kw5.out.size))
    clear qq g0 g1 g2
    obtain ⟨g0, g1, g2⟩ := fb.out w6 kw6.out
    go_wp2_with fail
    refine (cPa.out w6 kw6.out).mono ?_
    rintro e w7 ⟨r, rfl, hr, qq⟩
    have kw7 := Lib.hid (kw6.out.trans (qq.mono kw6.out.size))
    clear qq g0 g1 g2
    clear hr
    have zr := Lib.hid (Below.refl w7.heap.size w7)
    obtain ⟨g0, g1, g2⟩ := fb.out w7 kw7.out
    go_wp2_with fail
    refine (cSi.out w7 kw7.out).mono ?_
    rintro e w8 ⟨s, rfl, hs, qq⟩
    have kw8 := Lib.hid (kw7.out.trans (qq.mono kw7.out.size))
    replace zr := Lib.hid (zr.out.trans (qq.mono zr.out.size))
    clear qq g0 g1 g2
    have fs := Lib.hid (fun W (k : Below w8.heap.size w8 W) => (OwnI.DL hs).below k)
    clear hs
    have zs := Lib.hid (Below.refl w8.heap.size w8)
    have k2 := cCS.out w8 kw8.out s S (fs.out w8 zs.out) hSl.out
    rw [e5.out] at k2
    replace k2 := Lib.hid k2
    obtain ⟨g0, g1, g2⟩ := fb.out w8 kw8.out
    go_wp2_with fail
    refine (k2.out).mono ?_
    rintro e w9 ⟨rfl, qq⟩
    have kw9 := Lib.hid (kw8.out.trans (qq.mono kw8.out.size))
    clear qq g0 g1 g2 k2
    clear cCo cPa cSi fs zs zr
    rename_i Ka hKa Kb hKb Kc hKc
    have hK1 := Lib.hid hKa
    clear hKa
    go_wp2_with fail
    refine hK1.out _ _ ?_
    refine wp_eq (D := sfxP 10) (by kernel_rfl) ?_
    exact proofs_loops _ _ _ _ _ _ _ _ _ _ _ _ _ _ _ _ _ _ _ _ _ _ _ _ _ _ _ _ _ _ _ _ _ _ _ _ _ _ _ _ _ _ _ _ _ _ _ _ _ _ _ _ _ _ _ _ _ _ _ _ _ _ _ _ _ _ _ _ _ _ _ _ _ _ _ _ _ _ _ _ _ _ _ _ _ _ _ _ _ _ _ _ _ _ _ _ _ _ _ _ _ _ _ _ _ _ _ _ _ _ _ _ _ _ _ _ _ _ _ _ _ _ _ _ _ _ _ _ _ _ _ _ _ _ _ _ _ _ _ _ _ _ _ _ _ _ _ _ _ _ _ _ _ _ _ _ _ _ _ _ _ _ _ _ _ _ _ _ _ _ _ _ _ _ _ _ w w3 w9 false G p q st ps p1 X p2 bg vb vo N1 a2 N2 b2' N3 c2 b1 c1 hLB kw9 hBB hX hpl hps hpi hst (fun _ => e6.out) (fun h => by cases h)

end Go.Proofs.Ytlnbobclbaieoaa
