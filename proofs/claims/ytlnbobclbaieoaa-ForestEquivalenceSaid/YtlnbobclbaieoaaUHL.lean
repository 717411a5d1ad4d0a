/- Contracts and facts. -/
import Derived.Deep.LoopGhost
import Derived.Handy
import Derived.WalkMore
import Derived.BigRegion
import Derived.Laws.EntriesVeiled
import Derived.Test.YtlnbobclbaieoaaUHK
set_option linter.unusedSimpArgs false
set_option maxRecDepth 100000
set_option maxHeartbeats 4000000
namespace Go.Proofs.Ytlnbobclbaieoaa
open Go.RowKit
theorem one_own (W : World) (a : Int) : OwnI (W.alloc (.cells #[.int .i64 a] 3)) W.heap.size (.slice (some ⟨W.heap.size, 0, none⟩) 1 1) [a] :=
  ⟨rfl, .inr ⟨W.heap.size, 1, _, rfl, Nat.le_refl _, heap_alloc_new W _, by simp, by unfold maxLen; omega, by simp, by simp [cI]⟩⟩
set_option maxRecDepth 1000000 in
set_option maxHeartbeats 16000000 in
theorem Equiv_any (n : Int) (vl : Value) (l : List F5) (wide : Bool) (a b c : Int) (w : World) (hl : L5 w vl l) (hn : i64B n) (hlen : l.length ≤ 9223372036854775807) (hr : ∀ r ∈ l, i64B r.a ∧ i64B r.b ∧ i64B r.c ∧ i64B r.d ∧ i64B r.e)
    (ha : i64B a) (hb : i64B b) (hc : i64B c) :
    Calls Try.prog 3 #[.int .i64 n, vl, .bool wide, .int .i64 a, .int .i64 b, .int .i64 c] w fun e w' => e = .returned (.bool true) ∧ Below w.heap.size w w' := by
  have hG0 := made_ok n l wide
  have hne0 := made_ne n l wide
  have cM := Lib.hid (fun W (B : Below w.heap.size w W) => Made_any n vl l wide W (hl.below B) hn hlen hr)
  obtain ⟨G, hG⟩ : ∃ G, Hid (G = madeG n l wide) := ⟨_, rfl⟩
  rw [← hG.out] at hG0 hne0 cM
  have ho := Lib.hid ((ok_iff G).2 hG0)
  obtain ⟨N1, hN1⟩ : ∃ N, Hid (N = G.vs.length) := ⟨_, rfl⟩
  obtain ⟨N2, hN2⟩ : ∃ N, Hid (N = G.es.length) := ⟨_, rfl⟩
  obtain ⟨N3, hN3⟩ : ∃ N, Hid (N = G.ds.length) := ⟨_, rfl⟩
  have n1 : N1 ≤ 24 := by rw [hN1.out]; exact (ok_facts ho.out).1.1
  have n2 : N2 ≤ 1000 := by rw [hN2.out]; exact (ok_facts ho.out).1.2
  have n0 : 0 < N1 := by rw [hN1.out]; exact List.length_pos_iff.2 hne0
  have hsm := Lib.hid (show G.small from by
    have h1 := (ok_facts ho.out).1.1
    have h2 := (ok_facts ho.out).1.2
    have h3 := hG0.dlen
    unfold Gr.small; omega)
  clear hG0 hG hl hn hr hlen
  go_enter Try.func3, Try.ntmps3
  go_wp2_with fail
  refine (sane_any w).mono ?_
  rintro e w1 ⟨rfl, b1⟩
  have B1 := Lib.hid b1
  clear b1
  go_wp2_with fail
  refine (cM.out w1 B1.out).mono ?_
  rintro e w2 ⟨x, y, z, rfl, hv, he, hd, b2⟩
  have hvl := hv.VL
  have hel := he.EL
  have hdl := hd.DL
  obtain ⟨vb, vo, a2, rfl, _, hvb, hcv⟩ := hvl.own hne0
  obtain ⟨b1, b2', rfl⟩ := hel.shape
  obtain ⟨c1, c2, rfl⟩ := hdl.shape
  rw [← hN1.out, ← hN2.out, ← hN3.out]
  have hgv : GV w2 (.agg #[.slice (some ⟨vb, vo, none⟩) G.vs.length a2, .slice b1 G.es.length b2', .slice c1 G.ds.length c2]) G := ⟨_, _, _, rfl, hvl, hel, hdl⟩
  rw [← hN1.out, ← hN2.out, ← hN3.out] at hgv
  have hcells := hvl.cells
  obtain ⟨w3, hw3⟩ : ∃ x, x = w2.alloc (.cells #[.slice (some ⟨vb, vo, none⟩) N1 a2, .slice b1 N2 b2', .slice c1 N3 c2] 28) := ⟨_, rfl⟩
  have b3 : Below w2.heap.size w2 w3 := by rw [hw3]; exact (Below.refl _ w2).alloc (Nat.le_refl _) _
  have gb : w3.heap[w2.heap.size]? = some (.cells #[.slice (some ⟨vb, vo, none⟩) N1 a2, .slice b1 N2 b2', .slice c1 N3 c2] 28 (0, 0)) := by rw [hw3]; exact heap_alloc_new w2 _
  have hs3 : w3.heap.size = w2.heap.size + 1 := by rw [hw3]; simp
  have hBB : Hid (Below w.heap.size w w3) := (B1.out.trans (b2.mono B1.out.size)).trans (b3.mono (by have := b2.size; have := B1.out.size; omega))
  have fG := Lib.hid (fun W (q : Below w3.heap.size w3 W) => (hgv.below b3).below q)
  have fb := Lib.hid (fun W (q : Below w3.heap.size w3 W) => box3g ((q.block _ (show w2.heap.size < w3.heap.size by omega)).trans gb))
  have fv := Lib.hid (fun (k : Nat) (hk : k < G.vs.length) W (q : Below w3.heap.size w3 W) => (show W.cell? ⟨vb, vo + k * 2, none⟩ = some (.int .i64 G.vs[k].id) from by
    obtain ⟨b', o', h1, h2⟩ := hcells k hk
    injection h1 with h1
    injection h1 with h1 h1'
    subst h1 h1'
    exact (h2 W (b3.trans (q.mono b3.size))).1))
  have fe := Lib.hid (hel.below b3)
  rw [← hN2.out] at fe
  replace hw3 := Lib.hid hw3
  clear hgv hvl hel hdl hv he hd b2 b3 gb hs3 hcells hvb hcv cM B1
  obtain ⟨g0, g1, g2⟩ := fb.out w3 (Below.refl _ _)
  go_upto_region 4 with (fail)
  rw [← hw3.out]
  clear g0 g1 g2 hw3
  generalize hbg : w2.heap.size = bg at *
  clear hbg
  obtain ⟨kp, hkp, hpkkp, hmp⟩ := pick_at G.vs a hne0
  have hpkp := Lib.hid (fun W => pick9_any a (G.vs.length : Int) W ha.1 ha.2 (by have := hN1.out; omega) (by have := hN1.out; omega))
  rw [hpkkp, ← hN1.out] at hpkp
  have fp := Lib.hid (fun W q => fv.out kp hkp W q)
  have ikp : (0 : Int) ≤ (kp : Int) := by omega
  have jkp : (kp : Int) < (N1 : Int) := by have := hN1.out; omega
  generalize G.vs[kp].id = p at *
  replace hmp := Lib.hid hmp
  clear hkp hpkkp
  obtain ⟨kq, hkq, hpkkq, hmq⟩ := pick_at G.vs b hne0
  have hpkq := Lib.hid (fun W => pick9_any b (G.vs.length : Int) W hb.1 hb.2 (by have := hN1.out; omega) (by have := hN1.out; omega))
  rw [hpkkq, ← hN1.out] at hpkq
  have fq := Lib.hid (fun W q => fv.out kq hkq W q)
  have ikq : (0 : Int) ≤ (kq : Int) := by omega
  have jkq : (kq : Int) < (N1 : Int) := by have := hN1.out; omega
  generalize G.vs[kq].id = q at *
  replace hmq := Lib.hid hmq
  clear hkq hpkkq
  obtain ⟨kr, hkr, hpkkr, hmr⟩ := pick_at G.vs c hne0
  have hpkr := Lib.hid (fun W => pick9_any c (G.vs.length : Int) W hc.1 hc.2 (by have := hN1.out; omega) (by have := hN1.out; omega))
  rw [hpkkr, ← hN1.out] at hpkr
  have fr := Lib.hid (fun W q => fv.out kr hkr W q)
  have ikr : (0 : Int) ≤ (kr : Int) := by omega
  have jkr : (kr : Int) < (N1 : Int) := by have := hN1.out; omega
  generalize G.vs[kr].id = r at *
  replace hmr := Lib.hid hmr
  clear hkr hpkkr
  go_upto_region 4 with (fail)
  refine q_region (fun W => Below w3.heap.size w3 W) (by kernel_rfl) (by kernel_rfl) ((Below.refl _ w3).drew) ?_
  repeat (first | (refine q_skip (by rfl) ?_; try simp only [Act.put, zT, z0, zS]) | (refine q_take (v := ?_) (by rfl) ?_ ?_; rotate_left; (first | ((intro w h; clear h; go_simp) <;> with_reducible rfl) | ((intro w h; obtain ⟨g0, g1, g2⟩ := fb.out w h; clear h; go_simp) <;> with_reducible rfl)); try simp only [Act.put, zT, z0, zS]))
  refine q_call (v := _) Try.f9 (by rfl) rfl Try.func9 (by kernel_rfl) (by kernel_rfl) #[.int .i64 a, .int .i64 N1] (by simp [Act.eval]) (fun w h => (hpkp.out w).mono fun e w' ⟨he, hb⟩ => ⟨he, hb ▸ h⟩) ?_; try simp only [Act.put, zT, z0, zS]
  repeat (first | (refine q_skip (by rfl) ?_; try simp only [Act.put, zT, z0, zS]) | (refine q_take (v := ?_) (by rfl) ?_ ?_; rotate_left; (first | ((intro w h; clear h; go_simp) <;> with_reducible rfl) | ((intro w h; have g3 := fp.out w h; obtain ⟨g0, g1, g2⟩ := fb.out w h; clear h; go_simp) <;> with_reducible rfl)); try simp only [Act.put, zT, z0, zS]))
  refine q_nil ?_
  intro w4 kw4
  replace kw4 := Lib.hid kw4
  go_upto_region 5 with (fail)
  refine q_region (fun W => Below w3.heap.size w3 W) (by kernel_rfl) (by kernel_rfl) (kw4.out.drew) ?_
  repeat (first | (refine q_skip (by rfl) ?_; try simp only [Act.put, zT, z0, zS]) | (refine q_take (v := ?_) (by rfl) ?_ ?_; rotate_left; (first | ((intro w h; clear h; go_simp) <;> with_reducible rfl) | ((intro w h; obtain ⟨g0, g1, g2⟩ := fb.out w h; clear h; go_simp) <;> with_reducible rfl)); try simp only [Act.put, zT, z0, zS]))
  refine q_call (v := _) Try.f9 (by rfl) rfl Try.func9 (by kernel_rfl) (by kernel_rfl) #[.int .i64 b, .int .i64 N1] (by simp [Act.eval]) (fun w h => (hpkq.out w).mono fun e w' ⟨he, hb⟩ => ⟨he, hb ▸ h⟩) ?_; try simp only [Act.put, zT, z0, zS]
  repeat (first | (refine q_skip (by rfl) ?_; try simp only [Act.put, zT, z0, zS]) | (refine q_take (v := ?_) (by rfl) ?_ ?_; rotate_left; (first | ((intro w h; clear h; go_simp) <;> with_reducible rfl) | ((intro w h; have g3 := fq.out w h; obtain ⟨g0, g1, g2⟩ := fb.out w h; clear h; go_simp) <;> with_reducible rfl)); try simp only [Act.put, zT, z0, zS]))
  refine q_nil ?_
  intro w5 kw5
  replace kw5 := Lib.hid kw5
  go_upto_region 6 with (fail)
  refine q_region (fun W => Below w3.heap.size w3 W) (by kernel_rfl) (by kernel_rfl) (kw5.out.drew) ?_
  repeat (first | (refine q_skip (by rfl) ?_; try simp only [Act.put, zT, z0, zS]) | (refine q_take (v := ?_) (by rfl) ?_ ?_; rotate_left; (first | ((intro w h; clear h; go_simp) <;> with_reducible rfl) | ((intro w h; obtain ⟨g0, g1, g2⟩ := fb.out w h; clear h; go_simp) <;> with_reducible rfl)); try simp only [Act.put, zT, z0, zS]))
  refine q_call (v := _) Try.f9 (by rfl) rfl Try.func9 (by kernel_rfl) (by kernel_rfl) #[.int .i64 c, .int .i64 N1] (by simp [Act.eval]) (fun w h => (hpkr.out w).mono fun e w' ⟨he, hb⟩ => ⟨he, hb ▸ h⟩) ?_; try simp only [Act.put, zT, z0, zS]
  repeat (first | (refine q_skip (by rfl) ?_; try simp only [Act.put, zT, z0, zS]) | (refine q_take (v := ?_) (by rfl) ?_ ?_; rotate_left; (first | ((intro w h; clear h; go_simp) <;> with_reducible rfl) | ((intro w h; have g3 := fr.out w h; obtain ⟨g0, g1, g2⟩ := fb.out w h; clear h; go_simp) <;> with_reducible rfl)); try simp only [Act.put, zT, z0, zS]))
  refine q_nil ?_
  intro w6 kw6
  replace kw6 := Lib.hid kw6
  have hLB : Hid (LB w3 G bg vb vo N1 a2 N2 b2' N3 c2 b1 c1) := ⟨fG.out, fb.out, fv.out, fe.out, hN1.out, hN2.out, n1, n2, n0, ho.out, hsm.out⟩
  have cC := Lib.hid (fun W (k : Below w3.heap.size w3 W) x y => Connected_any _ G x y W (fG.out W k) hsm.out)
  have cPa := Lib.hid (fun W (k : Below w3.heap.size w3 W) x y => Path_any _ G x y W (fG.out W k) hsm.out)
  have c1' := Lib.hid (fun W (k : Below w3.heap.size w3 W) => cC.out W k p p)
  have c2' := Lib.hid (fun W (k : Below w3.heap.size w3 W) => cC.out W k p q)
  have c3' := Lib.hid (fun W (k : Below w3.heap.size w3 W) => cC.out W k q p)
  have c4' := Lib.hid (fun W (k : Below w3.heap.size w3 W) => cC.out W k q r)
  have c5' := Lib.hid (fun W (k : Below w3.heap.size w3 W) => cC.out W k p r)
  rw [conn_of ho.out hmp.out hmp.out, decide_eq_true rfl] at c1'
  rw [conn_of ho.out hmp.out hmq.out] at c2'
  rw [conn_of ho.out hmq.out hmp.out] at c3'
  rw [conn_of ho.out hmq.out hmr.out] at c4'
  rw [conn_of ho.out hmp.out hmr.out] at c5'
  clear cC
  by_cases hrt : (gp (mF G) p).root = (gp (mF G) q).root
  · rw [decide_eq_true hrt] at c2'
    rw [decide_eq_true hrt.symm] at c3'
    rw [hrt] at c5'
    have p1' := Lib.hid (fun W (k : Below w3.heap.size w3 W) => cPa.out W k p q)
    have p2' := Lib.hid (fun W (k : Below w3.heap.size w3 W) => cPa.out W k q p)
    rw [path_yes ho.out hmp.out hmq.out hrt] at p1'
    rw [path_yes ho.out hmq.out hmp.out hrt.symm, path_back] at p2'
    have hE := Lib.hid (ew_of ho.out hmp.out hmq.out hrt)
    have hPl : Hid ((pathF G.es (mF G) p q).length ≤ 1000) := by
      show _ ≤ _
      have hMl := good_of ho.out
      have := walk_len (path_walk hMl.1 hMl.2.1 hmp.out hmq.out hrt)
      have h2 := hMl.2.2.1
      omega
    generalize pathF G.es (mF G) p q = P at *
    generalize pvF G.es (mF G) p q = pv at *
    clear hrt cPa
    obtain ⟨M, hM⟩ : ∃ M, Hid (M = P.length) := ⟨_, rfl⟩
    have hM9 : M ≤ 1000 := by rw [hM.out]; exact hPl.out
    cases hB : decide ((gp (mF G) q).root = (gp (mF G) r).root) with
    | true =>
      rw [hB] at c4' c5'
      clear hB
      obtain ⟨g0, g1, g2⟩ := fb.out w6 kw6.out
      go_wp2_with fail
      refine (c1'.out w6 kw6.out).mono ?_
      rintro e w7 ⟨rfl, qq⟩
      have kw7 := Lib.hid (kw6.out.trans (qq.mono kw6.out.size))
      clear qq g0 g1 g2
      obtain ⟨g0, g1, g2⟩ := fb.out w7 kw7.out
      go_wp2_with fail
      refine (c2'.out w7 kw7.out).mono ?_
      rintro e w8 ⟨rfl, qq⟩
      have kw8 := Lib.hid (kw7.out.trans (qq.mono kw7.out.size))
      clear qq g0 g1 g2
      obtain ⟨g0, g1, g2⟩ := fb.out w8 kw8.out
      go_wp2_with fail
      refine (c3'.out w8 kw8.out).mono ?_
      rintro e w9 ⟨rfl, qq⟩
      have kw9 := Lib.hid (kw8.out.trans (qq.mono kw8.out.size))
      clear qq g0 g1 g2
      obtain ⟨g0, g1, g2⟩ := fb.out w9 kw9.out
      go_wp2_with fail
      refine (c4'.out w9 kw9.out).mono ?_
      rintro e w10 ⟨rfl, qq⟩
      have kw10 := Lib.hid (kw9.out.trans (qq.mono kw9.out.size))
      clear qq g0 g1 g2
      obtain ⟨g0, g1, g2⟩ := fb.out w10 kw10.out
      go_wp2_with fail
      refine (c5'.out w10 kw10.out).mono ?_
      rintro e w11 ⟨rfl, qq⟩
      have kw11 := Lib.hid (kw10.out.trans (qq.mono kw10.out.size))
      clear qq g0 g1 g2
      clear c1' c2' c3' c4' c5'
      obtain ⟨g0, g1, g2⟩ := fb.out w11 kw11.out
      go_wp2_with fail
      refine (p1'.out w11 kw11.out).mono ?_
      rintro e w12 ⟨r1, rfl, ho1, qq⟩
      have kw12 := Lib.hid (kw11.out.trans (qq.mono kw11.out.size))
      obtain ⟨fa, fc, rfl, _, _⟩ := OwnI.form ho1
      have hd1 := Lib.hid (OwnI.DL ho1)
      rw [← hM.out]
      rw [← hM.out] at hd1
      clear ho1
      clear qq g0 g1 g2
      have zw12 := Lib.hid (Below.refl w12.heap.size w12)
      obtain ⟨g0, g1, g2⟩ := fb.out w12 kw12.out
      go_wp2_with fail
      refine (p2'.out w12 kw12.out).mono ?_
      rintro e w13 ⟨r2, rfl, ho2, qq⟩
      have kw13 := Lib.hid (kw12.out.trans (qq.mono kw12.out.size))
      obtain ⟨ta, tc, rfl, _, _⟩ := OwnI.form ho2
      have hd2 := Lib.hid (OwnI.DL ho2)
      rw [List.length_reverse, ← hM.out] at hd2
      rw [List.length_reverse, ← hM.out]
      have hd3 := Lib.hid (hd1.out.below qq)
      clear qq g0 g1 g2 ho2 hd1
      go_upto_region 21 with (fail)
      rename_i K0 hK0
      have hK1 := Lib.hid hK0
      clear hK0
      go_wp2_with fail
      refine hK1.out _ _ ?_
      refine wp_eq (D := sfxE 18) (by kernel_rfl) ?_
      exact equiv_loop _ _ _ _ _ _ _ _ _ _ _ _ _ _ _ _ _ _ _ _ _ _ _ _ _ _ _ _ _ _ _ _ _ _ _ _ _ _ _ _ _ _ _ _ _ _ _ _ _ _ _ _ _ _ _ _ _ _ _ _ _ _ _ _ _ _ _ _ _ _ _ _ _ _ _ _ _ _ _ _ _ _ _ _ _ _ _ _ _ _ _ _ _ _ _ _ _ _ _ _ _ _ _ _ _ _ _ _ _ _ _ _ _ _ _ _ _ _ _ _ _ _ _ _ _ _ _ _ _ _ _ _ _ _ _ _ _ _ _ _ _ _ _ _ _ _ _ _ _ _ _ _ _ _ _ _ _ _ _ _ _ _ _ _ _ _ _ _ _ _ _ _ _ _ _ _ _ _ _ _ _ _ _ _ _ _ _ _ _ _ _ _ _ _ _ _ _ _ _ _ _ _ _ _ _ _ _ _ _ _ _ _ _ _ _ _ _ _ _ _ _ _ _ _ _ _ _ _ _ _ _ _ _ _ _ _ _ _ _ w w3 w13 _ G p q P pv M fc tc fa ta (.slice (some ⟨w13.heap.size, 0, none⟩) 1 1) bg vb vo N1 a2 N2 b2' N3 c2 b1 c1 hLB kw13 (Lib.hid ((Below.refl _ _).alloc (Nat.le_refl _) _)) hBB hM hM9 hd3 hd2 (Lib.hid (one_own w13 p)) hE
    | false =>
      rw [hB] at c4' c5'
      clear hB
      obtain ⟨g0, g1, g2⟩ := fb.out w6 kw6.out
      go_wp2_with fail
      refine (c1'.out w6 kw6.out).mono ?_
      rintro e w7 ⟨rfl, qq⟩
      have kw7 := Lib.hid (kw6.out.trans (qq.mono kw6.out.size))
      clear qq g0 g1 g2
      obtain ⟨g0, g1, g2⟩ := fb.out w7 kw7.out
      go_wp2_with fail
      refine (c2'.out w7 kw7.out).mono ?_
      rintro e w8 ⟨rfl, qq⟩
      have kw8 := Lib.hid (kw7.out.trans (qq.mono kw7.out.size))
      clear qq g0 g1 g2
      obtain ⟨g0, g1, g2⟩ := fb.out w8 kw8.out
      go_wp2_with fail
      refine (c3'.out w8 kw8.out).mono ?_
      rintro e w9 ⟨rfl, qq⟩
      have kw9 := Lib.hid (kw8.out.trans (qq.mono kw8.out.size))
      clear qq g0 g1 g2
      obtain ⟨g0, g1, g2⟩ := fb.out w9 kw9.out
      go_wp2_with fail
      refine (c4'.out w9 kw9.out).mono ?_
      rintro e w10 ⟨rfl, qq⟩
      have kw10 := Lib.hid (kw9.out.trans (qq.mono kw9.out.size))
      clear qq g0 g1 g2
      obtain ⟨g0, g1, g2⟩ := fb.out w10 kw10.out
      go_wp2_with fail
      refine (c5'.out w10 kw10.out).mono ?_
      rintro e w11 ⟨rfl, qq⟩
      have kw11 := Lib.hid (kw10.out.trans (qq.mono kw10.out.size))
      clear qq g0 g1 g2
      clear c1' c2' c3' c4' c5'
      obtain ⟨g0, g1, g2⟩ := fb.out w11 kw11.out
      go_wp2_with fail
      refine (p1'.out w11 kw11.out).mono ?_
      rintro e w12 ⟨r1, rfl, ho1, qq⟩
      have kw12 := Lib.hid (kw11.out.trans (qq.mono kw11.out.size))
      obtain ⟨fa, fc, rfl, _, _⟩ := OwnI.form ho1
      have hd1 := Lib.hid (OwnI.DL ho1)
      rw [← hM.out]
      rw [← hM.out] at hd1
      clear ho1
      clear qq g0 g1 g2
      have zw12 := Lib.hid (Below.refl w12.heap.size w12)
      obtain ⟨g0, g1, g2⟩ := fb.out w12 kw12.out
      go_wp2_with fail
      refine (p2'.out w12 kw12.out).mono ?_
      rintro e w13 ⟨r2, rfl, ho2, qq⟩
      have kw13 := Lib.hid (kw12.out.trans (qq.mono kw12.out.size))
      obtain ⟨ta, tc, rfl, _, _⟩ := OwnI.form ho2
      have hd2 := Lib.hid (OwnI.DL ho2)
      rw [List.length_reverse, ← hM.out] at hd2
      rw [List.length_reverse, ← hM.out]
      have hd3 := Lib.hid (hd1.out.below qq)
      clear qq g0 g1 g2 ho2 hd1
      go_upto_region 21 with (fail)
      rename_i K0 hK0
      have hK1 := Lib.hid hK0
      clear hK0
      go_wp2_with fail
      refine hK1.out _ _ ?_
      refine wp_eq (D := sfxE 18) (by kernel_rfl) ?_
      exact equiv_loop _ _ _ _ _ _ _ _ _ _ _ _ _ _ _ _ _ _ _ _ _ _ _ _ _ _ _ _ _ _ _ _ _ _ _ _ _ _ _ _ _ _ _ _ _ _ _ _ _ _ _ _ _ _ _ _ _ _ _ _ _ _ _ _ _ _ _ _ _ _ _ _ _ _ _ _ _ _ _ _ _ _ _ _ _ _ _ _ _ _ _ _ _ _ _ _ _ _ _ _ _ _ _ _ _ _ _ _ _ _ _ _ _ _ _ _ _ _ _ _ _ _ _ _ _ _ _ _ _ _ _ _ _ _ _ _ _ _ _ _ _ _ _ _ _ _ _ _ _ _ _ _ _ _ _ _ _ _ _ _ _ _ _ _ _ _ _ _ _ _ _ _ _ _ _ _ _ _ _ _ _ _ _ _ _ _ _ _ _ _ _ _ _ _ _ _ _ _ _ _ _ _ _ _ _ _ _ _ _ _ _ _ _ _ _ _ _ _ _ _ _ _ _ _ _ _ _ _ _ _ _ _ _ _ _ _ _ _ _ w w3 w13 _ G p q P pv M fc tc fa ta (.slice (some ⟨w13.heap.size, 0, none⟩) 1 1) bg vb vo N1 a2 N2 b2' N3 c2 b1 c1 hLB kw13 (Lib.hid ((Below.refl _ _).alloc (Nat.le_refl _) _)) hBB hM hM9 hd3 hd2 (Lib.hid (one_own w13 p)) hE
  · rw [decide_eq_false hrt] at c2'
    rw [decide_eq_false (fun h => hrt h.symm)] at c3'
    generalize decide ((gp (mF G) q).root = (gp (mF G) r).root) = B1 at *
    generalize decide ((gp (mF G) p).root = (gp (mF G) r).root) = B2 at *
    clear hrt
    obtain ⟨g0, g1, g2⟩ := fb.out w6 kw6.out
    go_wp2_with fail
    refine (c1'.out w6 kw6.out).mono ?_
    rintro e w7 ⟨rfl, qq⟩
    have kw7 := Lib.hid (kw6.out.trans (qq.mono kw6.out.size))
    clear qq g0 g1 g2
    obtain ⟨g0, g1, g2⟩ := fb.out w7 kw7.out
    go_wp2_with fail
    refine (c2'.out w7 kw7.out).mono ?_
    rintro e w8 ⟨rfl, qq⟩
    have kw8 := Lib.hid (kw7.out.trans (qq.mono kw7.out.size))
    clear qq g0 g1 g2
    obtain ⟨g0, g1, g2⟩ := fb.out w8 kw8.out
    go_wp2_with fail
    refine (c3'.out w8 kw8.out).mono ?_
    rintro e w9 ⟨rfl, qq⟩
    have kw9 := Lib.hid (kw8.out.trans (qq.mono kw8.out.size))
    clear qq g0 g1 g2
    obtain ⟨g0, g1, g2⟩ := fb.out w9 kw9.out
    go_wp2_with fail
    refine (c4'.out w9 kw9.out).mono ?_
    rintro e w10 ⟨rfl, qq⟩
    have kw10 := Lib.hid (kw9.out.trans (qq.mono kw9.out.size))
    clear qq g0 g1 g2
    obtain ⟨g0, g1, g2⟩ := fb.out w10 kw10.out
    go_wp2_with fail
    refine (c5'.out w10 kw10.out).mono ?_
    rintro e w11 ⟨rfl, qq⟩
    have kw11 := Lib.hid (kw10.out.trans (qq.mono kw10.out.size))
    clear qq g0 g1 g2
    go_wp2_with fail
    go_ret
    exact ⟨rfl, hBB.out.trans (kw11.out.mono hBB.out.size)⟩

end Go.Proofs.Ytlnbobclbaieoaa
