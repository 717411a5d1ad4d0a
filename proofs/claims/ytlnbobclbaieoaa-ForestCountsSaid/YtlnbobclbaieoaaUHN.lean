/- Contracts and facts. -/
import Derived.Deep.LoopGhost
import Derived.Handy
import Derived.WalkMore
import Derived.BigRegion
import Derived.Laws.EntriesVeiled
import Derived.Test.YtlnbobclbaieoaaUHM
set_option linter.unusedSimpArgs false
set_option maxRecDepth 100000
set_option maxHeartbeats 4000000
namespace Go.Proofs.Ytlnbobclbaieoaa
open Go.RowKit

theorem vx_id {g : Gr} {v : Int} (h : v ∈ keysV g.vs) : (vxAt g v).id = v := by
  unfold vxAt
  cases hf : g.vs.find? (fun u => u.id == v) with
  | none =>
    rw [List.find?_eq_none] at hf
    obtain ⟨u, hu, hv⟩ := mem_keysV.1 h
    exact absurd (hf u hu) (by simp [hv])
  | some u => simpa using List.find?_some hf
noncomputable def sfxC (n : Nat) : Code := dropC n (Try.f5.body.getD .skip)
set_option maxRecDepth 1000000 in
set_option maxHeartbeats 16000000 in
theorem counts_loop (q0 q1 q2 q3 q4 q5 q6 q9 q13 q14 q15 q16 q17 q18 q19 q20 q21 q22 q23 q24 q25 q26 q27 q28 q29 q30 q31 q32 q33 q34 q35 q36 q37 q38 q39 q40 q41 q42 q43 q44 q45 q46 q47 q48 q49 q50 q51 q52 q53 q54 q55 q56 q57 q58 q59 q60 q61 q62 q63 q64 q65 q66 q67 q68 q69 q70 q71 q72 q73 q74 q75 q76 q77 q78 q79 q80 q81 q82 q83 q84 q85 q86 q87 q88 q89 q90 q91 q92 q93 q94 q95 q96 q97 q98 q99 q100 q101 q102 q103 q104 q105 q106 q107 q108 q109 q110 q111 q112 q113 q114 q115 q116 q117 q118 q119 q120 q121 q122 q123 q124 q125 q126 q127 q128 q129 q130 q131 q132 q133 q134 q135 q136 q137 q138 q139 q140 q141 q142 q143 q144 q145 q146 q147 : Value) (w w3 w4 : World) (G : Gr) (la : Option Addr) (lc : Nat) (bg vb vo N1 a2 N2 b2 N3 c2 : Nat) (b1 c1 : Option Addr)
    (hL : Hid (LB w3 G bg vb vo N1 a2 N2 b2 N3 c2 b1 c1)) (hB : Hid (Below w3.heap.size w3 w4)) (hBB : Hid (Below w.heap.size w w3)) (hNl : Hid (NL w4 (.slice la (labF (mF G) (keysV G.vs)).length lc) (labF (mF G) (keysV G.vs)))) (hds : Hid (G.ds.length ≤ 3)) :
    Code.wp Try.prog (sfxC 8) (bodyPost Try.prog Try.f5 fun e w' => e = .returned (.bool true) ∧ Below w.heap.size w w') ⟨(q0 :: q1 :: q2 :: q3 :: q4 :: q5 :: q6 :: .pointer (some ⟨bg, 0, none⟩) :: .slice la N1 lc :: q9 :: .int .i64 0 :: .int .i64 0 :: .int .i64 0 :: q13 :: q14 :: q15 :: q16 :: q17 :: q18 :: q19 :: q20 :: q21 :: q22 :: q23 :: q24 :: q25 :: q26 :: q27 :: q28 :: q29 :: q30 :: q31 :: q32 :: q33 :: q34 :: q35 :: q36 :: q37 :: q38 :: q39 :: q40 :: q41 :: q42 :: q43 :: q44 :: q45 :: q46 :: q47 :: q48 :: q49 :: q50 :: q51 :: q52 :: q53 :: q54 :: q55 :: q56 :: q57 :: q58 :: q59 :: q60 :: q61 :: q62 :: q63 :: q64 :: q65 :: q66 :: q67 :: q68 :: q69 :: q70 :: q71 :: q72 :: q73 :: q74 :: q75 :: q76 :: q77 :: q78 :: q79 :: q80 :: q81 :: q82 :: q83 :: q84 :: q85 :: q86 :: q87 :: q88 :: q89 :: q90 :: q91 :: q92 :: q93 :: q94 :: q95 :: q96 :: q97 :: q98 :: q99 :: q100 :: q101 :: q102 :: q103 :: q104 :: q105 :: q106 :: q107 :: q108 :: q109 :: q110 :: q111 :: q112 :: q113 :: q114 :: q115 :: q116 :: q117 :: q118 :: q119 :: q120 :: q121 :: q122 :: q123 :: q124 :: q125 :: q126 :: q127 :: q128 :: q129 :: q130 :: q131 :: q132 :: q133 :: q134 :: q135 :: q136 :: q137 :: q138 :: q139 :: q140 :: q141 :: q142 :: q143 :: q144 :: q145 :: q146 :: q147 :: []).toArray, []⟩ w4 := by
  conv => arg 2; whnf
  have n1 : N1 ≤ 24 := hL.out.n1'
  have hVl : Hid ((keysV G.vs).length = N1) := by show _ = _; rw [hL.out.n1]; simp [keysV]
  have hll : Hid ((labF (mF G) (keysV G.vs)).length = N1) := by show _ = _; unfold labF; rw [List.length_map]; exact hVl.out
  go_wp2_with fail
  go_loopg [10, 11, 12, 13] N1 (fun gq sv ev rv iv wr => ∃ i s ee : Nat, i + gq = N1 ∧ iv = .int .i64 i ∧ sv = .int .i64 s ∧ ev = .int .i64 ee ∧ rv = .int .i64 s ∧ rootsN (mF G) ((keysV G.vs).take i) = s ∧ s + ee = i ∧ Below w4.heap.size w4 wr)
  case atStart => exact ⟨0, 0, 0, by omega, rfl, rfl, rfl, rfl, rfl, rfl, Below.refl _ _⟩
  case round =>
  obtain ⟨i, s, ee, hi, rfl, rfl, rfl, rfl, hs, hse0, hBk⟩ := hrel
  obtain ⟨wo, rfl⟩ : ∃ x, x = wr := ⟨_, rfl⟩
  have hBo := Lib.hid hBk
  have hBo3 := Lib.hid (hB.out.trans (hBk.mono hB.out.size))
  have hse : Hid (s + ee = i) := hse0
  obtain ⟨g0, g1, g2⟩ := hL.out.fb wo hBo3.out
  cases gk with
  | zero =>
    have hi2 : i = N1 := by omega
    have i1 : ¬ (i : Int) < (N1 : Int) := by omega
    have m1 : IntKind.i64.wrap ((N1 : Int) - (s : Int)) = (ee : Int) := by rw [IntWalk.i64_in _ (by omega)]; omega
    have hF := Lib.hid (hBB.out.trans (hBo3.out.mono hBB.out.size))
    have hee : ((ee : Int) == (ee : Int)) = true := by simp
    clear hi hi2 hs hse0 hBk
    go_wp2_with fail
    go_ret
    exact ⟨rfl, hF.out⟩
  | succ ga =>
    have hiN : i < N1 := by omega
    have hiV : i < (keysV G.vs).length := by rw [hVl.out]; exact hiN
    have hiG : i < G.vs.length := by rw [← hL.out.n1]; exact hiN
    have i0 : (0 : Int) ≤ (i : Int) := by omega
    have i1 : (i : Int) < (N1 : Int) := by omega
    have hle : Hid (i + 1 + ga = N1) := by show _ = _; omega
    have gv := hL.out.fv i hiG wo hBo3.out
    have hvv : (keysV G.vs)[i] = G.vs[i].id := by simp [keysV]
    obtain ⟨bl, bo, l1b, l1o, l1c, rfl, hlc⟩ := lab_cells hNl.out i hiV
    have hvm : (keysV G.vs)[i] ∈ keysV G.vs := List.getElem_mem hiV
    have hsn0 := rootsN_snoc (mF G) ((keysV G.vs).take i) (keysV G.vs)[i]
    rw [← List.take_succ_eq_append_getElem hiV, hs] at hsn0
    rw [hvv] at hlc hvm hsn0
    generalize G.vs[i].id = v at *
    have hcv := cv_of hL.out.ok hvm
    have hvid : Hid ((vxAt G v).id = v) := vx_id hvm
    have hs24 : s ≤ 24 := by omega
    have he24 : ee ≤ 24 := by omega
    have hvne : (v != v) = false := by simp
    have hBl := Lib.hid hBk
    have hlab : Hid ((labF (mF G) (keysV G.vs)).length ≤ 1000000) := by show _ ≤ _; rw [hll.out]; omega
    have cV := Lib.hid (fun W (qq : Below wo.heap.size wo W) => View_any _ _ G (labF (mF G) (keysV G.vs)) v W (hL.out.fG W (hBo3.out.trans (qq.mono hBo3.out.size))) (hNl.out.below (hBk.trans (qq.mono hBk.size))) hL.out.sm (by have := hL.out.n2'; have := hL.out.n2; omega) (by have := hds.out; omega) hlab.out (fun x hx => by
      unfold labF at hx
      obtain ⟨z, _, rfl⟩ := List.mem_map.1 hx
      simp))
    rw [hll.out] at cV
    have cA := Lib.hid (fun W (qq : Below wo.heap.size wo W) => At_any _ G v W (hL.out.fG W (hBo3.out.trans (qq.mono hBo3.out.size))) (by have := hL.out.n2'; have := hL.out.n2; omega))
    have fL := Lib.hid (fun W (qq : Below wo.heap.size wo W) => hlc W (hBk.trans (qq.mono hBk.size)))
    have fB := Lib.hid (fun W (qq : Below wo.heap.size wo W) => hL.out.fb W (hBo3.out.trans (qq.mono hBo3.out.size)))
    clear hi hiN hiV hiG hs hse0 hBk hlc hvv
    by_cases h0 : (gp (mF G) v).depth = 0
    · have hcnt : Hid (countF v (readF ((labF (mF G) (keysV G.vs)).filter (keepV v (atF G.es v)))) = 1) := by show _ = _; rw [count_lab G (mF G) v hvm, if_pos h0]
      have hroot : ((gp (mF G) v).root == v) = true := by rw [hcv.root]; simpa using h0
      have hhits : Hid (hitsN (gp (mF G) v).edge (atF G.es v) = 0) := by show _ = _; rw [hcv.hits, if_pos h0]
      have hsn : Hid (rootsN (mF G) ((keysV G.vs).take (i + 1)) = s + 1) := by show _ = _; rw [hsn0, if_pos h0]
      have hpar := Lib.hid hcv.par
      clear h0 hsn0 hcv
      generalize (gp (mF G) v).root = dr at *
      generalize hdd : (gp (mF G) v).depth = dd at *
      generalize hde : (gp (mF G) v).edge = x at *
      clear hdd hde
      go_upto_region 14 with (fail)
      go_wp2_with fail
      refine (cV.out wo (Below.refl _ _)).mono ?_
      rintro e w5 ⟨dv, ev, lb, rfl, _, _, hN5, q5⟩
      rw [hvid.out]
      have cc := Count_any v (vxAt G v).side dv ev lb _ w5 hN5.NL (Nat.le_trans (List.length_filter_le _ _) hlab.out)
      rw [hcnt.out] at cc
      replace cc := Lib.hid cc
      have K5 := Lib.hid q5
      clear q5 hN5 g0 g1 g2
      go_wp2_with fail
      refine cc.out.mono ?_
      rintro e w6 ⟨rfl, q6⟩
      have K6 := Lib.hid (K5.out.trans (q6.mono K5.out.size))
      clear q6 cc
      obtain ⟨y0, y1, y2, y3, y4⟩ := fL.out w6 K6.out
      obtain ⟨g0, g1, g2⟩ := fB.out w6 K6.out
      go_upto_region 19 with (fail)
      go_wp2_with fail
      refine (cA.out w6 K6.out).mono ?_
      rintro e w7 ⟨av, rfl, hav, q7⟩
      have K7 := Lib.hid (K6.out.trans (q7.mono K6.out.size))
      obtain ⟨e1, e2, rfl⟩ := hav.shape
      obtain ⟨K, hK⟩ : ∃ K, Hid (K = (atF G.es v).length) := ⟨_, rfl⟩
      have cE := Lib.hid hav.cells
      rw [← hK.out]
      have hKl : K ≤ 1000 := by
        rw [hK.out]
        unfold atF
        exact Nat.le_trans (List.length_filter_le _ _) (by have := hL.out.n2'; have := hL.out.n2; omega)
      have hmem := Lib.hid (fun (k : Nat) (hk : k < (atF G.es v).length) => hpar.out (atF G.es v)[k] (List.getElem_mem hk))
      clear y0 y1 y2 y3 y4 g0 g1 g2 q7 hav hpar
      generalize hes : atF G.es v = es at *
      clear hes
      go_wp2_with fail
      go_loopg [11, 16] K (fun gq ev kv wr => ∃ k : Nat, k + gq = K ∧ kv = .int .i64 k ∧ ev = .int .i64 ((ee + hitsN x (es.take k) : Nat) : Int) ∧ Below w7.heap.size w7 wr)
      case atStart => exact ⟨0, by omega, rfl, rfl, Below.refl _ _⟩
      case round =>
      obtain ⟨k, hk, rfl, rfl, hBt⟩ := hrel
      obtain ⟨wi, rfl⟩ : ∃ x, x = wr := ⟨_, rfl⟩
      have KI := Lib.hid (K7.out.trans (hBt.mono K7.out.size))
      cases gk with
      | zero =>
        have ht2 : K = k := by omega
        have l1 : ¬ (k : Int) < (K : Int) := by omega
        rw [List.take_of_length_le (by rw [← ht2, hK.out]; exact Nat.le_refl _), hhits.out]
        clear ht2 hk hBt
        go_wp2_with fail
        go_roundg ga
        case measure => omega
        case rel => exact ⟨i + 1, s + 1, ee + 0, hle.out, by go_num, by go_num, rfl, by go_num, hsn.out, by have := hse.out; omega, hBo.out.trans (KI.out.mono hBo.out.size)⟩
      | succ gb =>
        have htK : k < K := by omega
        have htl : k < es.length := by rw [← hK.out]; exact htK
        have l0 : (0 : Int) ≤ (k : Int) := by omega
        have l1 : (k : Int) < (K : Int) := by omega
        have hle2 : Hid (k + 1 + gb = K) := by show _ = _; omega
        obtain ⟨eb, eo, rfl, ce⟩ := cE.out k htl
        have hst := hitsN_snoc x (es.take k) es[k]
        rw [← List.take_succ_eq_append_getElem htl] at hst
        have hmk := hmem.out k htl
        have hhl : hitsN x (es.take k) ≤ 1000 := by
          have := hitsN_le x (es.take k)
          rw [List.length_take] at this; omega
        generalize es[k] = u at *
        generalize hitsN x (es.take k) = hh at *
        have hOu := Lib.hid (Other_any u v)
        unfold Ed.val at hOu
        have fU := Lib.hid (fun W (qq : Below wi.heap.size wi W) => (show EdAt W eb (eo + k * 6) u ∧ (W.cell? ⟨bl, bo + i * 2 + 1, none⟩ = some (.slice (some ⟨l1b, l1o, none⟩) 3 l1c) ∧ W.cell? ⟨l1b, l1o + 1, none⟩ = some (.int .i64 dd) ∧ W.cell? ⟨l1b, l1o + 2, none⟩ = some (.int .i64 x)) from ⟨ce W (hBt.trans (qq.mono hBt.size)), (fL.out W (KI.out.trans (qq.mono KI.out.size))).2.1, (fL.out W (KI.out.trans (qq.mono KI.out.size))).2.2.2.1, (fL.out W (KI.out.trans (qq.mono KI.out.size))).2.2.2.2⟩))
        unfold EdAt at fU
        have hBt2 := Lib.hid hBt
        clear ce hk htK htl hBt cE hmem
        go_upto_region 23 with (fail)
        refine q_region (fun W => Below wi.heap.size wi W) (by kernel_rfl) (by kernel_rfl) ((Below.refl _ wi).drew) ?_
        repeat (first | (refine q_skip (by rfl) ?_; try simp only [Act.put, zT, z0, zS]) | (refine q_take (v := ?_) (by rfl) ?_ ?_; rotate_left; (first | ((intro w h; clear h; go_simp) <;> with_reducible rfl) | ((intro w h; obtain ⟨⟨y0, y1, y2, y3, y4, y5⟩, y6, y7, y8⟩ := fU.out w h; clear h; go_simp) <;> with_reducible rfl)); try simp only [Act.put, zT, z0, zS]))
        refine q_nil ?_
        intro w8 k8
        have K8 := Lib.hid k8
        clear k8
        by_cases hux : u.id = x
        · have hst2 : Hid (hitsN x (es.take (k + 1)) = hh + 1) := by show _ = _; rw [hst, if_pos (by simpa using hux)]
          have hb1 : (u.id != x) = false := by simpa using hux
          obtain ⟨jn, hjl, hj1, hj2, hj3⟩ := hmk hux
          have hjN : Hid (jn < N1) := by
            show _ < _
            rw [hL.out.n1]; simpa [keysV] using hjl
          obtain ⟨pbl, pbo, plb, plo, plc, hpe, hpc⟩ := lab_cells hNl.out jn hjl
          injection hpe with hpe
          injection hpe with hpe1 hpe2
          subst hpe1 hpe2
          rw [hj2] at hpc
          have hge : decide (dd ≤ (gp (mF G) (otherI u v)).depth) = false := by rw [decide_eq_false_iff_not]; omega
          have hPl := Lib.hid (fun W (qq : Below wi.heap.size wi W) => PlaceR_any _ G (otherI u v) W (hL.out.fG W (hBo3.out.trans ((KI.out.trans (qq.mono KI.out.size)).mono hBo3.out.size))) (by have := hL.out.n1'; have := hL.out.n1; omega))
          rw [hj1] at hPl
          have fP := Lib.hid (fun W (qq : Below wi.heap.size wi W) => (show W.cell? ⟨bl, bo + jn * 2 + 1, none⟩ = some (.slice (some ⟨plb, plo, none⟩) 3 plc) ∧ W.cell? ⟨plb, plo + 1, none⟩ = some (.int .i64 (gp (mF G) (otherI u v)).depth) from ⟨(hpc W (hBl.out.trans ((KI.out.trans (qq.mono KI.out.size)).mono hBl.out.size))).2.1, (hpc W (hBl.out.trans ((KI.out.trans (qq.mono KI.out.size)).mono hBl.out.size))).2.2.2.1⟩))
          have fB2 := Lib.hid (fun W (qq : Below wi.heap.size wi W) => fB.out W (KI.out.trans (qq.mono KI.out.size)))
          have r0 : (0 : Int) ≤ (jn : Int) := by omega
          have r1 : (jn : Int) < (N1 : Int) := by have := hjN.out; omega
          have r2 : ¬ (jn : Int) < 0 := by omega
          generalize (gp (mF G) (otherI u v)).depth = pd at *
          generalize otherI u v = ov at *
          clear hst hux hmk hjl hj1 hj2 hj3 hpc
          go_upto_region 25 with (fail)
          refine q_region (fun W => Below wi.heap.size wi W) (by kernel_rfl) (by kernel_rfl) (K8.out.drew) ?_
          repeat (first | (refine q_skip (by rfl) ?_; try simp only [Act.put, zT, z0, zS]) | (refine q_take (v := ?_) (by rfl) ?_ ?_; rotate_left; (first | ((intro w h; clear h; go_simp) <;> with_reducible rfl) | ((intro w h; obtain ⟨⟨y0, y1, y2, y3, y4, y5⟩, y6, y7, y8⟩ := fU.out w h; obtain ⟨g0, g1, g2⟩ := fB2.out w h; clear h; go_simp) <;> with_reducible rfl)); try simp only [Act.put, zT, z0, zS]))
          refine q_call (v := _) Try.f13 (by rfl) rfl Try.func13 (by kernel_rfl) (by kernel_rfl) #[.agg #[.int .i64 u.id, .int .i64 u.src, .int .i64 u.dst, .bool u.dir, .int .i64 u.wt, .int .i64 u.cap], .int .i64 v] (by simp [Act.eval]) (fun w h => (hOu.out w).mono fun e w' ⟨he, hb⟩ => ⟨he, h.trans (hb.mono h.size)⟩) ?_; try simp only [Act.put, zT, z0, zS]
          refine q_call (v := _) Try.f20 (by rfl) rfl Try.func20 (by kernel_rfl) (by kernel_rfl) #[.agg #[.slice (some ⟨vb, vo, none⟩) N1 a2, .slice b1 N2 b2, .slice c1 N3 c2], .int .i64 ov] (by simp [Act.eval]) (fun w h => (hPl.out w h).mono fun e w' ⟨he, hb⟩ => ⟨he, h.trans (hb.mono h.size)⟩) ?_; try simp only [Act.put, zT, z0, zS]
          repeat (first | (refine q_skip (by rfl) ?_; try simp only [Act.put, zT, z0, zS]) | (refine q_take (v := ?_) (by rfl) ?_ ?_; rotate_left; (first | ((intro w h; clear h; go_simp) <;> with_reducible rfl) | ((intro w h; obtain ⟨⟨y0, y1, y2, y3, y4, y5⟩, y6, y7, y8⟩ := fU.out w h; obtain ⟨g0, g1, g2⟩ := fB2.out w h; clear h; go_simp) <;> with_reducible rfl)); try simp only [Act.put, zT, z0, zS]))
          refine q_nil ?_
          intro w9 k9
          have K9 := Lib.hid k9
          clear k9
          go_upto_region 26 with (fail)
          refine q_region (fun W => Below wi.heap.size wi W) (by kernel_rfl) (by kernel_rfl) (K9.out.drew) ?_
          repeat (first | (refine q_skip (by rfl) ?_; try simp only [Act.put, zT, z0, zS]) | (refine q_take (v := ?_) (by rfl) ?_ ?_; rotate_left; (first | ((intro w h; clear h; go_simp) <;> with_reducible rfl) | ((intro w h; obtain ⟨⟨y0, y1, y2, y3, y4, y5⟩, y6, y7, y8⟩ := fU.out w h; obtain ⟨z0, z1⟩ := fP.out w h; clear h; go_simp) <;> with_reducible rfl)); try simp only [Act.put, zT, z0, zS]))
          refine q_nil ?_
          intro w10 k10
          have KA := Lib.hid (hBt2.out.trans (k10.mono hBt2.out.size))
          clear k10
          go_wp2_with fail
          go_roundg gb
          case measure => omega
          case rel => exact ⟨k + 1, hle2.out, by go_num, by rw [hst2.out]; go_num, KA.out⟩
        · have hst2 : Hid (hitsN x (es.take (k + 1)) = hh) := by show _ = _; rw [hst, if_neg (by simpa using hux)]; rfl
          have hb1 : (u.id != x) = true := by simpa using hux
          have KA := Lib.hid (hBt2.out.trans (K8.out.mono hBt2.out.size))
          clear hst hux hmk
          go_wp2_with fail
          go_roundg gb
          case measure => omega
          case rel => exact ⟨k + 1, hle2.out, by go_num, by rw [hst2.out], KA.out⟩
    · have hcnt : Hid (countF v (readF ((labF (mF G) (keysV G.vs)).filter (keepV v (atF G.es v)))) = 0) := by show _ = _; rw [count_lab G (mF G) v hvm, if_neg h0]
      have hroot : ((gp (mF G) v).root == v) = false := by rw [hcv.root]; simpa using h0
      have hhits : Hid (hitsN (gp (mF G) v).edge (atF G.es v) = 1) := by show _ = _; rw [hcv.hits, if_neg h0]
      have hsn : Hid (rootsN (mF G) ((keysV G.vs).take (i + 1)) = s + 0) := by show _ = _; rw [hsn0, if_neg h0]
      have hpar := Lib.hid hcv.par
      clear h0 hsn0 hcv
      generalize (gp (mF G) v).root = dr at *
      generalize hdd : (gp (mF G) v).depth = dd at *
      generalize hde : (gp (mF G) v).edge = x at *
      clear hdd hde
      go_upto_region 14 with (fail)
      go_wp2_with fail
      refine (cV.out wo (Below.refl _ _)).mono ?_
      rintro e w5 ⟨dv, ev, lb, rfl, _, _, hN5, q5⟩
      rw [hvid.out]
      have cc := Count_any v (vxAt G v).side dv ev lb _ w5 hN5.NL (Nat.le_trans (List.length_filter_le _ _) hlab.out)
      rw [hcnt.out] at cc
      replace cc := Lib.hid cc
      have K5 := Lib.hid q5
      clear q5 hN5 g0 g1 g2
      go_wp2_with fail
      refine cc.out.mono ?_
      rintro e w6 ⟨rfl, q6⟩
      have K6 := Lib.hid (K5.out.trans (q6.mono K5.out.size))
      clear q6 cc
      obtain ⟨y0, y1, y2, y3, y4⟩ := fL.out w6 K6.out
      obtain ⟨g0, g1, g2⟩ := fB.out w6 K6.out
      go_upto_region 19 with (fail)
      go_wp2_with fail
      refine (cA.out w6 K6.out).mono ?_
      rintro e w7 ⟨av, rfl, hav, q7⟩
      have K7 := Lib.hid (K6.out.trans (q7.mono K6.out.size))
      obtain ⟨e1, e2, rfl⟩ := hav.shape
      obtain ⟨K, hK⟩ : ∃ K, Hid (K = (atF G.es v).length) := ⟨_, rfl⟩
      have cE := Lib.hid hav.cells
      rw [← hK.out]
      have hKl : K ≤ 1000 := by
        rw [hK.out]
        unfold atF
        exact Nat.le_trans (List.length_filter_le _ _) (by have := hL.out.n2'; have := hL.out.n2; omega)
      have hmem := Lib.hid (fun (k : Nat) (hk : k < (atF G.es v).length) => hpar.out (atF G.es v)[k] (List.getElem_mem hk))
      clear y0 y1 y2 y3 y4 g0 g1 g2 q7 hav hpar
      generalize hes : atF G.es v = es at *
      clear hes
      go_wp2_with fail
      go_loopg [11, 16] K (fun gq ev kv wr => ∃ k : Nat, k + gq = K ∧ kv = .int .i64 k ∧ ev = .int .i64 ((ee + hitsN x (es.take k) : Nat) : Int) ∧ Below w7.heap.size w7 wr)
      case atStart => exact ⟨0, by omega, rfl, rfl, Below.refl _ _⟩
      case round =>
      obtain ⟨k, hk, rfl, rfl, hBt⟩ := hrel
      obtain ⟨wi, rfl⟩ : ∃ x, x = wr := ⟨_, rfl⟩
      have KI := Lib.hid (K7.out.trans (hBt.mono K7.out.size))
      cases gk with
      | zero =>
        have ht2 : K = k := by omega
        have l1 : ¬ (k : Int) < (K : Int) := by omega
        rw [List.take_of_length_le (by rw [← ht2, hK.out]; exact Nat.le_refl _), hhits.out]
        clear ht2 hk hBt
        go_wp2_with fail
        go_roundg ga
        case measure => omega
        case rel => exact ⟨i + 1, s + 0, ee + 1, hle.out, by go_num, rfl, by go_num, rfl, hsn.out, by have := hse.out; omega, hBo.out.trans (KI.out.mono hBo.out.size)⟩
      | succ gb =>
        have htK : k < K := by omega
        have htl : k < es.length := by rw [← hK.out]; exact htK
        have l0 : (0 : Int) ≤ (k : Int) := by omega
        have l1 : (k : Int) < (K : Int) := by omega
        have hle2 : Hid (k + 1 + gb = K) := by show _ = _; omega
        obtain ⟨eb, eo, rfl, ce⟩ := cE.out k htl
        have hst := hitsN_snoc x (es.take k) es[k]
        rw [← List.take_succ_eq_append_getElem htl] at hst
        have hmk := hmem.out k htl
        have hhl : hitsN x (es.take k) ≤ 1000 := by
          have := hitsN_le x (es.take k)
          rw [List.length_take] at this; omega
        generalize es[k] = u at *
        generalize hitsN x (es.take k) = hh at *
        have hOu := Lib.hid (Other_any u v)
        unfold Ed.val at hOu
        have fU := Lib.hid (fun W (qq : Below wi.heap.size wi W) => (show EdAt W eb (eo + k * 6) u ∧ (W.cell? ⟨bl, bo + i * 2 + 1, none⟩ = some (.slice (some ⟨l1b, l1o, none⟩) 3 l1c) ∧ W.cell? ⟨l1b, l1o + 1, none⟩ = some (.int .i64 dd) ∧ W.cell? ⟨l1b, l1o + 2, none⟩ = some (.int .i64 x)) from ⟨ce W (hBt.trans (qq.mono hBt.size)), (fL.out W (KI.out.trans (qq.mono KI.out.size))).2.1, (fL.out W (KI.out.trans (qq.mono KI.out.size))).2.2.2.1, (fL.out W (KI.out.trans (qq.mono KI.out.size))).2.2.2.2⟩))
        unfold EdAt at fU
        have hBt2 := Lib.hid hBt
        clear ce hk htK htl hBt cE hmem
        go_upto_region 23 with (fail)
        refine q_region (fun W => Below wi.heap.size wi W) (by kernel_rfl) (by kernel_rfl) ((Below.refl _ wi).drew) ?_
        repeat (first | (refine q_skip (by rfl) ?_; try simp only [Act.put, zT, z0, zS]) | (refine q_take (v := ?_) (by rfl) ?_ ?_; rotate_left; (first | ((intro w h; clear h; go_simp) <;> with_reducible rfl) | ((intro w h; obtain ⟨⟨y0, y1, y2, y3, y4, y5⟩, y6, y7, y8⟩ := fU.out w h; clear h; go_simp) <;> with_reducible rfl)); try simp only [Act.put, zT, z0, zS]))
        refine q_nil ?_
        intro w8 k8
        have K8 := Lib.hid k8
        clear k8
        by_cases hux : u.id = x
        · have hst2 : Hid (hitsN x (es.take (k + 1)) = hh + 1) := by show _ = _; rw [hst, if_pos (by simpa using hux)]
          have hb1 : (u.id != x) = false := by simpa using hux
          obtain ⟨jn, hjl, hj1, hj2, hj3⟩ := hmk hux
          have hjN : Hid (jn < N1) := by
            show _ < _
            rw [hL.out.n1]; simpa [keysV] using hjl
          obtain ⟨pbl, pbo, plb, plo, plc, hpe, hpc⟩ := lab_cells hNl.out jn hjl
          injection hpe with hpe
          injection hpe with hpe1 hpe2
          subst hpe1 hpe2
          rw [hj2] at hpc
          have hge : decide (dd ≤ (gp (mF G) (otherI u v)).depth) = false := by rw [decide_eq_false_iff_not]; omega
          have hPl := Lib.hid (fun W (qq : Below wi.heap.size wi W) => PlaceR_any _ G (otherI u v) W (hL.out.fG W (hBo3.out.trans ((KI.out.trans (qq.mono KI.out.size)).mono hBo3.out.size))) (by have := hL.out.n1'; have := hL.out.n1; omega))
          rw [hj1] at hPl
          have fP := Lib.hid (fun W (qq : Below wi.heap.size wi W) => (show W.cell? ⟨bl, bo + jn * 2 + 1, none⟩ = some (.slice (some ⟨plb, plo, none⟩) 3 plc) ∧ W.cell? ⟨plb, plo + 1, none⟩ = some (.int .i64 (gp (mF G) (otherI u v)).depth) from ⟨(hpc W (hBl.out.trans ((KI.out.trans (qq.mono KI.out.size)).mono hBl.out.size))).2.1, (hpc W (hBl.out.trans ((KI.out.trans (qq.mono KI.out.size)).mono hBl.out.size))).2.2.2.1⟩))
          have fB2 := Lib.hid (fun W (qq : Below wi.heap.size wi W) => fB.out W (KI.out.trans (qq.mono KI.out.size)))
          have r0 : (0 : Int) ≤ (jn : Int) := by omega
          have r1 : (jn : Int) < (N1 : Int) := by have := hjN.out; omega
          have r2 : ¬ (jn : Int) < 0 := by omega
          generalize (gp (mF G) (otherI u v)).depth = pd at *
          generalize otherI u v = ov at *
          clear hst hux hmk hjl hj1 hj2 hj3 hpc
          go_upto_region 25 with (fail)
          refine q_region (fun W => Below wi.heap.size wi W) (by kernel_rfl) (by kernel_rfl) (K8.out.drew) ?_
          repeat (first | (refine q_skip (by rfl) ?_; try simp only [Act.put, zT, z0, zS]) | (refine q_take (v := ?_) (by rfl) ?_ ?_; rotate_left; (first | ((intro w h; clear h; go_simp) <;> with_reducible rfl) | ((intro w h; obtain ⟨⟨y0, y1, y2, y3, y4, y5⟩, y6, y7, y8⟩ := fU.out w h; obtain ⟨g0, g1, g2⟩ := fB2.out w h; clear h; go_simp) <;> with_reducible rfl)); try simp only [Act.put, zT, z0, zS]))
          refine q_call (v := _) Try.f13 (by rfl) rfl Try.func13 (by kernel_rfl) (by kernel_rfl) #[.agg #[.int .i64 u.id, .int .i64 u.src, .int .i64 u.dst, .bool u.dir, .int .i64 u.wt, .int .i64 u.cap], .int .i64 v] (by simp [Act.eval]) (fun w h => (hOu.out w).mono fun e w' ⟨he, hb⟩ => ⟨he, h.trans (hb.mono h.size)⟩) ?_; try simp only [Act.put, zT, z0, zS]
          refine q_call (v := _) Try.f20 (by rfl) rfl Try.func20 (by kernel_rfl) (by kernel_rfl) #[.agg #[.slice (some ⟨vb, vo, none⟩) N1 a2, .slice b1 N2 b2, .slice c1 N3 c2], .int .i64 ov] (by simp [Act.eval]) (fun w h => (hPl.out w h).mono fun e w' ⟨he, hb⟩ => ⟨he, h.trans (hb.mono h.size)⟩) ?_; try simp only [Act.put, zT, z0, zS]
          repeat (first | (refine q_skip (by rfl) ?_; try simp only [Act.put, zT, z0, zS]) | (refine q_take (v := ?_) (by rfl) ?_ ?_; rotate_left; (first | ((intro w h; clear h; go_simp) <;> with_reducible rfl) | ((intro w h; obtain ⟨⟨y0, y1, y2, y3, y4, y5⟩, y6, y7, y8⟩ := fU.out w h; obtain ⟨g0, g1, g2⟩ := fB2.out w h; clear h; go_simp) <;> with_reducible rfl)); try simp only [Act.put, zT, z0, zS]))
          refine q_nil ?_
          intro w9 k9
          have K9 := Lib.hid k9
          clear k9
          go_upto_region 26 with (fail)
          refine q_region (fun W => Below wi.heap.size wi W) (by kernel_rfl) (by kernel_rfl) (K9.out.drew) ?_
          repeat (first | (refine q_skip (by rfl) ?_; try simp only [Act.put, zT, z0, zS]) | (refine q_take (v := ?_) (by rfl) ?_ ?_; rotate_left; (first | ((intro w h; clear h; go_simp) <;> with_reducible rfl) | ((intro w h; obtain ⟨⟨y0, y1, y2, y3, y4, y5⟩, y6, y7, y8⟩ := fU.out w h; obtain ⟨z0, z1⟩ := fP.out w h; clear h; go_simp) <;> with_reducible rfl)); try simp only [Act.put, zT, z0, zS]))
          refine q_nil ?_
          intro w10 k10
          have KA := Lib.hid (hBt2.out.trans (k10.mono hBt2.out.size))
          clear k10
          go_wp2_with fail
          go_roundg gb
          case measure => omega
          case rel => exact ⟨k + 1, hle2.out, by go_num, by rw [hst2.out]; go_num, KA.out⟩
        · have hst2 : Hid (hitsN x (es.take (k + 1)) = hh) := by show _ = _; rw [hst, if_neg (by simpa using hux)]; rfl
          have hb1 : (u.id != x) = true := by simpa using hux
          have KA := Lib.hid (hBt2.out.trans (K8.out.mono hBt2.out.size))
          clear hst hux hmk
          go_wp2_with fail
          go_roundg gb
          case measure => omega
          case rel => exact ⟨k + 1, hle2.out, by go_num, by rw [hst2.out], KA.out⟩

end Go.Proofs.Ytlnbobclbaieoaa
