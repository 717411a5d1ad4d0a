/- Contracts and facts. -/
import Derived.Deep.LoopGhost
import Derived.Handy
import Derived.WalkMore
import Derived.BigRegion
import Derived.Laws.EntriesVeiled
import Derived.Test.YtlnbobclbaieoaaVJI
import Derived.Test.YtlnbobclbaieoaaVJF
set_option linter.unusedSimpArgs false
set_option maxRecDepth 100000
set_option maxHeartbeats 4000000
namespace Go.Proofs.Ytlnbobclbaieoaa
open Go.RowKit
theorem dl3 {w : World} {v : Value} {a b c : Int} (h : DL w v [a, b, c]) : ∃ ob oo oc, v = .slice (some ⟨ob, oo, none⟩) 3 oc ∧ ∀ W, Below w.heap.size w W → W.cell? ⟨ob, oo, none⟩ = some (.int .i64 a) ∧ W.cell? ⟨ob, oo + 1, none⟩ = some (.int .i64 b) ∧ W.cell? ⟨ob, oo + 2, none⟩ = some (.int .i64 c) := by
  obtain ⟨v1, v2, rfl⟩ := h.shape
  obtain ⟨ob, oo, rfl, h0⟩ := h.cells 0 (by simp)
  obtain ⟨b1, o1, e1, h1⟩ := h.cells 1 (by simp)
  obtain ⟨b2, o2, e2, h2⟩ := h.cells 2 (by simp)
  injection e1 with e1; injection e1 with e1 e1'; subst e1 e1'
  injection e2 with e2; injection e2 with e2 e2'; subst e2 e2'
  exact ⟨ob, oo, v2, rfl, fun W q => ⟨h0 W q, h1 W q, h2 W q⟩⟩
theorem dl0 {w : World} {v : Value} (h : DL w v []) : ∃ f c, v = .slice f 0 c := by
  obtain ⟨v1, v2, rfl⟩ := h.shape
  exact ⟨v1, v2, rfl⟩
theorem nb_none {m : PM} {n : Int} {e : Ed} (h : m (otherI e n) = none) : nbF m n e = false := by unfold nbF; rw [h]; rfl
theorem all_snd {es : List Ed} {f : Ed → Bool} {k : Nat} (hk : k < es.length) (h : f es[k] = false) : es.all f = false := by
  rw [List.all_eq_false]; exact ⟨es[k], List.getElem_mem hk, by rw [h]; simp⟩
set_option maxRecDepth 100000 in
set_option maxHeartbeats 8000000 in
theorem GoodR_any (n sd : Int) (dv ev lv : Value) (es : List Ed) (L : List Nm) (w : World) (he : EL w ev es) (hL : NL w lv L) (hn : es.length ≤ 1000000000) (hLn : L.length ≤ 1000000) (hLx : ∀ x ∈ L, x.2.length ≤ 9223372036854775807) (hd : (gp (readF L) n).depth ≤ 9223372036854775807) :
    Calls Try.prog 33 #[.agg #[.int .i64 n, .int .i64 sd, dv, ev, lv]] w fun e w' => e = .returned (.bool (goodF n es (readF L))) ∧ Below w.heap.size w w' := by
  obtain ⟨R, hR⟩ : ∃ R, Hid (goodF n es (readF L) = R) := ⟨_, rfl⟩
  rw [hR.out]
  obtain ⟨e1, e2, rfl⟩ := he.shape
  obtain ⟨l1, l2, rfl⟩ := hL.shape
  obtain ⟨N, hN⟩ : ∃ N, Hid (N = es.length) := ⟨_, rfl⟩
  obtain ⟨w1, hw1⟩ : ∃ w1, w1 = w.alloc (.cells #[.int .i64 n, .int .i64 sd, dv, .slice e1 es.length e2, .slice l1 L.length l2] 51) := ⟨_, rfl⟩
  have gb : w1.heap[w.heap.size]? = some (.cells #[.int .i64 n, .int .i64 sd, dv, .slice e1 es.length e2, .slice l1 L.length l2] 51 (0, 0)) := by rw [hw1]; exact heap_alloc_new w _
  have B0 : Below w.heap.size w w1 := by rw [hw1]; exact (Below.refl _ w).alloc (Nat.le_refl _) _
  have hs1 : w1.heap.size = w.heap.size + 1 := by rw [hw1]; simp
  have hbox := Lib.hid (fun W (q : Below w1.heap.size w1 W) => (q.block _ (show w.heap.size < w1.heap.size by omega)).trans gb)
  have box5 : ∀ {W : World}, W.heap[w.heap.size]? = some (.cells #[.int .i64 n, .int .i64 sd, dv, .slice e1 es.length e2, .slice l1 L.length l2] 51 (0, 0)) → W.cell? ⟨w.heap.size, 0, none⟩ = some (.int .i64 n) ∧ W.cell? ⟨w.heap.size, 1, none⟩ = some (.int .i64 sd) ∧ W.cell? ⟨w.heap.size, 2, none⟩ = some dv ∧ W.cell? ⟨w.heap.size, 3, none⟩ = some (.slice e1 es.length e2) ∧ W.cell? ⟨w.heap.size, 4, none⟩ = some (.slice l1 L.length l2) := fun h => ⟨by rw [cell_of_row _ _ _ _ _ _ h]; rfl, by rw [cell_of_row _ _ _ _ _ _ h]; rfl, by rw [cell_of_row _ _ _ _ _ _ h]; rfl, by rw [cell_of_row _ _ _ _ _ _ h]; rfl, by rw [cell_of_row _ _ _ _ _ _ h]; rfl⟩
  have hG := Lib.hid (fun W (q : Below w1.heap.size w1 W) => box5 (hbox.out W q))
  have cellE := Lib.hid (he.below B0).cells
  have hNr := Lib.hid (fun W (q : Below w1.heap.size w1 W) => near_any n sd dv _ (.slice l1 L.length l2) es W ((he.below B0).below q) hn)
  have hFd := Lib.hid (fun x W (q : Below w1.heap.size w1 W) => FindN_any _ L x 3 W ((hL.below B0).below q) hLn hLx)
  have hFe := Lib.hid (fun x => findF_read L x)
  obtain ⟨m, hm⟩ : ∃ m, Hid (m = readF L) := ⟨_, rfl⟩
  rw [← hm.out] at hR hd hFe
  generalize findF L = FF at *
  obtain ⟨Ln, hLnn⟩ : ∃ N, Hid (N = L.length) := ⟨_, rfl⟩
  rw [← hLnn.out] at hw1 hG hNr hFd ⊢
  rw [← hN.out] at hw1 hG hNr hn
  rw [← hN.out]
  replace hw1 := Lib.hid hw1
  replace B0 := Lib.hid B0
  clear box5 hbox hs1 gb he hL hLx hLn
  obtain ⟨mf, hm0, hms⟩ := mf_ex
  replace hm0 := Lib.hid hm0
  replace hms := Lib.hid hms
  obtain ⟨g0, g1, g2, g3, g4⟩ := hG.out w1 (Below.refl _ _)
  have hF1 := hFd.out n w1 (Below.refl _ _)
  rw [hFe.out n] at hF1
  replace hF1 := Lib.hid hF1
  go_enter Try.func33, Try.ntmps33
  go_upto_region 1 with (fail)
  rw [← hw1.out]
  go_wp2_with fail
  refine hF1.out.mono ?_
  rintro e w2 ⟨r, rfl, hr, rfl⟩
  have hN1 := Lib.hid (hNr.out w1 (Below.refl _ _))
  cases hva : vaF n (-1) es with
  | false =>
    have hfin : Hid (R = false) := by show _ = _; rw [← hR.out]; exact good_no1 (.inr (.inl hva))
    rw [hva] at hN1
    obtain ⟨v1, v2, rfl⟩ := hr.shape
    clear hva hr
    go_wp2_with fail
    refine hN1.out.mono ?_
    rintro e w3 ⟨rfl, b3⟩
    have hB3 := Lib.hid (B0.out.trans (b3.mono B0.out.size))
    clear b3 g0 g1 g2 g3 g4
    go_wp2_with fail
    go_ret
    exact ⟨ret_bool hfin.out.symm, hB3.out⟩
  | true =>
  rw [hva] at hN1
  cases hmn : m n with
  | none =>
    have hfin : Hid (R = false) := by show _ = _; rw [← hR.out]; exact good_no1 (.inl hmn)
    rw [hmn] at hr
    obtain ⟨f, c, rfl⟩ := dl0 hr
    clear hva hr hmn
    go_wp2_with fail
    refine hN1.out.mono ?_
    rintro e w3 ⟨rfl, b3⟩
    have hB3 := Lib.hid (B0.out.trans (b3.mono B0.out.size))
    clear b3 g0 g1 g2 g3 g4
    go_wp2_with fail
    go_ret
    exact ⟨ret_bool hfin.out.symm, hB3.out⟩
  | some p =>
  have hgp : gp m n = p := gp_some hmn
  rw [hmn] at hr
  obtain ⟨ob, oo, oc, rfl, cO⟩ := dl3 (show DL w1 r [p.root, p.depth, p.edge] from hr)
  replace cO := Lib.hid cO
  rw [hgp] at hd
  have his : (m n).isSome = true := by rw [hmn]; rfl
  clear hr
  go_wp2_with fail
  refine hN1.out.mono ?_
  rintro e w3 ⟨rfl, b3⟩
  have hB3 := Lib.hid b3
  obtain ⟨c0, c1, c2⟩ := cO.out w3 b3
  clear b3 g0 g1 g2 g3 g4 hN1 hF1
  have hno1 := Lib.hid (fun (h : p.root < 0 ∨ n < p.root ∨ p.depth < 0) => (show R = false from by rw [← hR.out]; exact good_no1 (.inr (.inr (by rw [hgp]; exact h)))))
  have hno2 := Lib.hid (fun (h : (p.depth = 0 ∧ p.root ≠ n) ∨ (p.depth ≠ 0 ∧ p.root = n) ∨ (p.depth = 0 ∧ p.edge ≠ -1)) => (show R = false from by rw [← hR.out]; exact good_no2 (by rw [hgp]; exact h)))
  have hyes := Lib.hid (fun (h3 : ¬ p.root < 0) (h4 : ¬ n < p.root) (h5 : ¬ p.depth < 0) (h6 : p.depth = 0 ↔ p.root = n) (h7 : p.depth = 0 → p.edge = -1) => (show R = (es.all (nbF m n) && (decide (p.depth = 0) || (decide (0 ≤ upF m n es) && decide (p.edge = upF m n es)))) from by
    rw [← hR.out, good_yes his hva (by rw [hgp]; exact h3) (by rw [hgp]; exact h4) (by rw [hgp]; exact h5) (by rw [hgp]; exact h6) (by rw [hgp]; exact h7), hgp]))
  have hnb := Lib.hid (fun (u : Ed) => (show nbF m n u = ((m (otherI u n)).isSome && (gp m (otherI u n)).root == p.root && !decide ((gp m (otherI u n)).depth < p.depth - 1)) from by unfold nbF; rw [hgp]))
  have hup := Lib.hid (fun (u : Ed) l => (show upF m n (u :: l) = if (gp m (otherI u n)).depth = p.depth - 1 then u.id else upF m n l from by rw [upF_cons, hgp]))
  clear hva hmn hgp his hR
  obtain ⟨rt, dp, ed⟩ := p
  simp only at *
  by_cases c1r : n < rt
  · have hfin := Lib.hid (hno1.out (.inr (.inl c1r)))
    have d1 : decide (n < rt) = true := decide_eq_true c1r
    clear hno1 hno2 hyes hnb hup
    go_wp2_with fail
    go_ret
    exact ⟨ret_bool hfin.out.symm, B0.out.trans (hB3.out.mono B0.out.size)⟩
  have d1 : decide (n < rt) = false := decide_eq_false c1r
  by_cases c2r : rt < 0
  · have hfin := Lib.hid (hno1.out (.inl c2r))
    have d2 : decide (rt < 0) = true := decide_eq_true c2r
    clear hno1 hno2 hyes hnb hup
    go_wp2_with fail
    go_ret
    exact ⟨ret_bool hfin.out.symm, B0.out.trans (hB3.out.mono B0.out.size)⟩
  have d2 : decide (rt < 0) = false := decide_eq_false c2r
  by_cases c3r : dp < 0
  · have hfin := Lib.hid (hno1.out (.inr (.inr c3r)))
    have d3 : decide (dp < 0) = true := decide_eq_true c3r
    clear hno1 hno2 hyes hnb hup
    go_wp2_with fail
    go_ret
    exact ⟨ret_bool hfin.out.symm, B0.out.trans (hB3.out.mono B0.out.size)⟩
  have d3 : decide (dp < 0) = false := decide_eq_false c3r
  go_upto_region 5 with (fail)
  clear c0 c1 c2
  by_cases hz : dp = 0
  · have z1 : (dp == 0) = true := by simpa using hz
    by_cases hrn : rt = n
    · have z2 : (rt == n) = true := by simpa using hrn
      by_cases hed : ed = -1
      · have z3 : (ed != -1) = false := by simpa using hed
        have hy := Lib.hid (hyes.out c2r c1r c3r ⟨fun _ => hrn, fun _ => hz⟩ (fun _ => hed))
        replace hz := Lib.hid hz
        replace hrn := Lib.hid hrn
        replace hed := Lib.hid hed
        refine q_region (fun W => Below w1.heap.size w1 W) (by kernel_rfl) (by kernel_rfl) (hB3.out.drew) ?_
        repeat (first | (refine q_skip (by rfl) ?_; try simp only [Act.put, zT, z0, zS]) | (refine q_take (v := ?_) (by rfl) ?_ ?_; rotate_left; (first | ((intro w h; clear h; go_simp) <;> with_reducible rfl) | ((intro w h; obtain ⟨x0, x1, x2⟩ := cO.out w h; clear h; go_simp) <;> with_reducible rfl)); try simp only [Act.put, zT, z0, zS]))
        refine q_nil ?_
        intro w5 k5
        replace k5 := Lib.hid k5
        have m1 : IntKind.i64.wrap ((N : Int) - 1) = mf N := by
          cases N with
          | zero => rw [hm0.out]; decide
          | succ N => rw [hms.out, show (((N + 1 : Nat) : Int) - 1) = (N : Int) by omega]; exact IntWalk.i64_in _ (by omega)
        have m2 : IntKind.i64.wrap (dp - 1) = dp - 1 := IntWalk.i64_in _ (by omega)
        clear hno1 hno2 hyes
        obtain ⟨g0, g1, g2, g3, g4⟩ := hG.out w5 k5.out
        go_wp2_with fail
        go_loopg [5, 6] N (fun q fv iv wr => q ≤ N ∧ iv = .int .i64 (mf q) ∧ fv = .int .i64 (upF m n (es.drop q)) ∧ Hid ((es.drop q).all (nbF m n) = true) ∧ Below w1.heap.size w1 wr)
        case atStart => exact ⟨Nat.le_refl _, rfl, by rw [List.drop_of_length_le (by rw [hN.out]; exact Nat.le_refl _)]; rfl, by show _ = _; rw [List.drop_of_length_le (by rw [hN.out]; exact Nat.le_refl _)]; rfl, k5.out⟩
        case round =>
          obtain ⟨hq, rfl, rfl, hall, B⟩ := hrel
          obtain ⟨wo, rfl⟩ : ∃ x, x = wr := ⟨_, rfl⟩
          have hBo := Lib.hid B
          clear g0 g1 g2 g3 g4
          obtain ⟨g0, g1, g2, g3, g4⟩ := hG.out wo B
          obtain ⟨o0, o1, o2⟩ := cO.out wo B
          cases gk with
          | zero =>
            rw [hm0.out]
            rw [List.drop_zero] at hall ⊢
            have hR9 : Hid (R = (decide (dp = 0) || (decide (0 ≤ upF m n es) && decide (ed = upF m n es)))) := by show _ = _; rw [hy.out, hall.out, Bool.true_and]
            generalize upF m n es = U at *
            clear hy hall B hq hnb hup m1 m2
            have hfin : Hid (R = true) := by show _ = _; rw [hR9.out, decide_eq_true (by simpa using z1)]; rfl
            go_wp2_with fail
            go_ret
            exact ⟨ret_bool hfin.out.symm, B0.out.trans (hBo.out.mono B0.out.size)⟩
          | succ gq =>
            rw [hms.out]
            have i0 : (0 : Int) ≤ (gq : Int) := by omega
            have i1 : (gq : Int) < (N : Int) := by omega
            have hql : gq < es.length := by rw [← hN.out]; omega
            have hq1 : Hid (gq ≤ N) := by show _ ≤ _; omega
            have m3 : IntKind.i64.wrap ((gq : Int) - 1) = mf gq := by
              cases gq with
              | zero => rw [hm0.out]; decide
              | succ gq => rw [hms.out, show (((gq + 1 : Nat) : Int) - 1) = (gq : Int) by omega]; exact IntWalk.i64_in _ (by omega)
            obtain ⟨eb, eo, rfl, ce⟩ := cellE.out gq hql
            have hdr := List.drop_eq_getElem_cons hql
            have hupq := hup.out es[gq] (es.drop (gq + 1))
            rw [← hdr] at hupq
            have hnq := hnb.out es[gq]
            have hRf := Lib.hid (fun (h : nbF m n es[gq] = false) => (show R = false from by rw [hy.out, all_snd hql h]; rfl))
            have hAl := Lib.hid (fun (h : nbF m n es[gq] = true) => (show (es.drop gq).all (nbF m n) = true from by rw [hdr, List.all_cons, h, hall.out]; rfl))
            have fE := Lib.hid (fun W (q : Below w1.heap.size w1 W) => ce W q)
            generalize es[gq] = u at *
            unfold EdAt at fE
            have hOu := Lib.hid (OtherR_any u n)
            unfold Ed.val at hOu
            have hFy := Lib.hid (fun W q => hFd.out (otherI u n) W q)
            rw [hFe.out (otherI u n)] at hFy
            generalize otherI u n = y at *
            generalize upF m n (es.drop (gq + 1)) = U1 at *
            replace hupq := Lib.hid hupq
            obtain ⟨d0, d1e, d2e, d3e, d4e, d5e⟩ := fE.out wo B
            clear ce hdr hall B hq hy hql
            go_wp2_with fail
            refine (hOu.out _).mono ?_
            rintro e w6 ⟨rfl, b6⟩
            have hB6 := Lib.hid (hBo.out.trans (b6.mono hBo.out.size))
            clear b6 g0 g1 g2 g3 g4 o0 o1 o2 d0 d1e d2e d3e d4e d5e
            obtain ⟨g0, g1, g2, g3, g4⟩ := hG.out w6 hB6.out
            go_wp2_with fail
            refine (hFy.out w6 hB6.out).mono ?_
            rintro e w7 ⟨r, rfl, hr, rfl⟩
            clear g0 g1 g2 g3 g4
            cases hmy : m y with
            | none =>
              rw [hmy] at hr hnq
              have hfin := Lib.hid (hRf.out (by rw [hnq]; rfl))
              obtain ⟨f, c, rfl⟩ := dl0 hr
              clear hr hnq hupq hRf hAl hmy
              go_upto_region 13 with (fail)
              refine q_region (fun W => Below w1.heap.size w1 W) (by kernel_rfl) (by kernel_rfl) (hB6.out.drew) ?_
              repeat (first | (refine q_skip (by rfl) ?_; try simp only [Act.put, zT, z0, zS]) | (refine q_take (v := ?_) (by rfl) ?_ ?_; rotate_left; (first | ((intro w h; clear h; go_simp) <;> with_reducible rfl)); try simp only [Act.put, zT, z0, zS]))
              refine q_nil ?_
              intro w8 k8
              replace k8 := Lib.hid k8
              go_wp2_with fail
              go_ret
              exact ⟨ret_bool hfin.out.symm, B0.out.trans (k8.out.mono B0.out.size)⟩
            | some py =>
              have hgy : gp m y = py := gp_some hmy
              rw [hmy] at hr hnq
              rw [hgy] at hnq hupq
              obtain ⟨yb, yo, yc, rfl, cY⟩ := dl3 (show DL w6 r [py.root, py.depth, py.edge] from hr)
              obtain ⟨yr, yd, ye⟩ := py
              simp only [Option.isSome_some, Bool.true_and] at cY hnq hupq
              have fC := Lib.hid (fun W (q : Below w6.heap.size w6 W) => (show (W.cell? ⟨ob, oo, none⟩ = _ ∧ W.cell? ⟨ob, oo + 1, none⟩ = _ ∧ W.cell? ⟨ob, oo + 2, none⟩ = _) ∧ (W.cell? ⟨yb, yo, none⟩ = _ ∧ W.cell? ⟨yb, yo + 1, none⟩ = _ ∧ W.cell? ⟨yb, yo + 2, none⟩ = _) from ⟨cO.out W (hB6.out.trans (q.mono hB6.out.size)), cY W q⟩))
              clear hr hmy hgy cY
              cases h1 : (yr == rt) with
              | false =>
                have h2 : (yr != rt) = true := by rw [bne, h1]; rfl
                have hfin := Lib.hid (hRf.out (by rw [hnq, h1]; rfl))
                clear hnq hupq hRf hAl
                go_upto_region 13 with (fail)
                refine q_region (fun W => Below w6.heap.size w6 W) (by kernel_rfl) (by kernel_rfl) ((Below.refl _ w6).drew) ?_
                repeat (first | (refine q_skip (by rfl) ?_; try simp only [Act.put, zT, z0, zS]) | (refine q_take (v := ?_) (by rfl) ?_ ?_; rotate_left; (first | ((intro w h; clear h; go_simp) <;> with_reducible rfl) | ((intro w h; obtain ⟨⟨x0, x1, x2⟩, x3, x4, x5⟩ := fC.out w h; clear h; go_simp) <;> with_reducible rfl)); try simp only [Act.put, zT, z0, zS]))
                refine q_nil ?_
                intro w8 k8
                have hB8 := Lib.hid (hB6.out.trans (k8.mono hB6.out.size))
                clear k8
                go_wp2_with fail
                go_ret
                exact ⟨ret_bool hfin.out.symm, B0.out.trans (hB8.out.mono B0.out.size)⟩
              | true =>
                have h2 : (yr != rt) = false := by rw [bne, h1]; rfl
                by_cases h3 : yd < dp - 1
                · have h4 : decide (yd < dp - 1) = true := decide_eq_true h3
                  have hfin := Lib.hid (hRf.out (by rw [hnq, h1, h4]; rfl))
                  clear hnq hupq hRf hAl
                  go_upto_region 13 with (fail)
                  refine q_region (fun W => Below w6.heap.size w6 W) (by kernel_rfl) (by kernel_rfl) ((Below.refl _ w6).drew) ?_
                  repeat (first | (refine q_skip (by rfl) ?_; try simp only [Act.put, zT, z0, zS]) | (refine q_take (v := ?_) (by rfl) ?_ ?_; rotate_left; (first | ((intro w h; clear h; go_simp) <;> with_reducible rfl) | ((intro w h; obtain ⟨⟨x0, x1, x2⟩, x3, x4, x5⟩ := fC.out w h; clear h; go_simp) <;> with_reducible rfl)); try simp only [Act.put, zT, z0, zS]))
                  refine q_nil ?_
                  intro w8 k8
                  have hB8 := Lib.hid (hB6.out.trans (k8.mono hB6.out.size))
                  clear k8
                  go_wp2_with fail
                  go_ret
                  exact ⟨ret_bool hfin.out.symm, B0.out.trans (hB8.out.mono B0.out.size)⟩
                · have h4 : decide (yd < dp - 1) = false := decide_eq_false h3
                  have hnx := Lib.hid (hAl.out (by rw [hnq, h1, h4]; rfl))
                  clear hnq hRf hAl
                  by_cases h5 : yd = dp - 1
                  · have h6 : (yd == dp - 1) = true := by simpa using h5
                    rw [if_pos h5] at hupq
                    replace h5 := Lib.hid h5
                    go_upto_region 13 with (fail)
                    refine q_region (fun W => Below w6.heap.size w6 W) (by kernel_rfl) (by kernel_rfl) ((Below.refl _ w6).drew) ?_
                    repeat (first | (refine q_skip (by rfl) ?_; try simp only [Act.put, zT, z0, zS]) | (refine q_take (v := ?_) (by rfl) ?_ ?_; rotate_left; (first | ((intro w h; clear h; go_simp) <;> with_reducible rfl) | ((intro w h; obtain ⟨⟨x0, x1, x2⟩, x3, x4, x5⟩ := fC.out w h; clear h; go_simp) <;> with_reducible rfl)); try simp only [Act.put, zT, z0, zS]))
                    refine q_nil ?_
                    intro w8 k8
                    replace k8 := Lib.hid k8
                    go_upto_region 15 with (fail)
                    refine q_region (fun W => Below w6.heap.size w6 W) (by kernel_rfl) (by kernel_rfl) (k8.out.drew) ?_
                    repeat (first | (refine q_skip (by rfl) ?_; try simp only [Act.put, zT, z0, zS]) | (refine q_take (v := ?_) (by rfl) ?_ ?_; rotate_left; (first | ((intro w h; clear h; go_simp) <;> with_reducible rfl) | ((intro w h; obtain ⟨⟨x0, x1, x2⟩, x3, x4, x5⟩ := fC.out w h; clear h; go_simp) <;> with_reducible rfl)); try simp only [Act.put, zT, z0, zS]))
                    refine q_nil ?_
                    intro w9 k9
                    have hB9 := Lib.hid (hB6.out.trans (k9.mono hB6.out.size))
                    clear k9
                    obtain ⟨g0, g1, g2, g3, g4⟩ := hG.out w9 hB9.out
                    obtain ⟨d0, _⟩ := fE.out w9 hB9.out
                    go_wp2_with fail
                    go_roundg gq
                    case measure => omega
                    case rel => exact ⟨hq1.out, rfl, by rw [hupq.out], hnx, hB9.out⟩
                  · have h6 : (yd == dp - 1) = false := by simpa using h5
                    rw [if_neg h5] at hupq
                    replace h5 := Lib.hid h5
                    go_upto_region 13 with (fail)
                    refine q_region (fun W => Below w6.heap.size w6 W) (by kernel_rfl) (by kernel_rfl) ((Below.refl _ w6).drew) ?_
                    repeat (first | (refine q_skip (by rfl) ?_; try simp only [Act.put, zT, z0, zS]) | (refine q_take (v := ?_) (by rfl) ?_ ?_; rotate_left; (first | ((intro w h; clear h; go_simp) <;> with_reducible rfl) | ((intro w h; obtain ⟨⟨x0, x1, x2⟩, x3, x4, x5⟩ := fC.out w h; clear h; go_simp) <;> with_reducible rfl)); try simp only [Act.put, zT, z0, zS]))
                    refine q_nil ?_
                    intro w8 k8
                    replace k8 := Lib.hid k8
                    go_upto_region 15 with (fail)
                    refine q_region (fun W => Below w6.heap.size w6 W) (by kernel_rfl) (by kernel_rfl) (k8.out.drew) ?_
                    repeat (first | (refine q_skip (by rfl) ?_; try simp only [Act.put, zT, z0, zS]) | (refine q_take (v := ?_) (by rfl) ?_ ?_; rotate_left; (first | ((intro w h; clear h; go_simp) <;> with_reducible rfl) | ((intro w h; obtain ⟨⟨x0, x1, x2⟩, x3, x4, x5⟩ := fC.out w h; clear h; go_simp) <;> with_reducible rfl)); try simp only [Act.put, zT, z0, zS]))
                    refine q_nil ?_
                    intro w9 k9
                    have hB9 := Lib.hid (hB6.out.trans (k9.mono hB6.out.size))
                    clear k9
                    go_wp2_with fail
                    go_roundg gq
                    case measure => omega
                    case rel => exact ⟨hq1.out, rfl, by rw [hupq.out], hnx, hB9.out⟩
      · have z3 : (ed != -1) = true := by simpa using hed
        have hfin := Lib.hid (hno2.out (.inr (.inr ⟨hz, hed⟩)))
        replace hz := Lib.hid hz
        replace hrn := Lib.hid hrn
        replace hed := Lib.hid hed
        refine q_region (fun W => Below w1.heap.size w1 W) (by kernel_rfl) (by kernel_rfl) (hB3.out.drew) ?_
        repeat (first | (refine q_skip (by rfl) ?_; try simp only [Act.put, zT, z0, zS]) | (refine q_take (v := ?_) (by rfl) ?_ ?_; rotate_left; (first | ((intro w h; clear h; go_simp) <;> with_reducible rfl) | ((intro w h; obtain ⟨x0, x1, x2⟩ := cO.out w h; clear h; go_simp) <;> with_reducible rfl)); try simp only [Act.put, zT, z0, zS]))
        refine q_nil ?_
        intro w5 k5
        replace k5 := Lib.hid k5
        clear hno1 hno2 hyes hnb hup
        go_wp2_with fail
        go_ret
        exact ⟨ret_bool hfin.out.symm, B0.out.trans (k5.out.mono B0.out.size)⟩
    · have z2 : (rt == n) = false := by simpa using hrn
      have hfin := Lib.hid (hno2.out (.inl ⟨hz, hrn⟩))
      replace hz := Lib.hid hz
      replace hrn := Lib.hid hrn
      refine q_region (fun W => Below w1.heap.size w1 W) (by kernel_rfl) (by kernel_rfl) (hB3.out.drew) ?_
      repeat (first | (refine q_skip (by rfl) ?_; try simp only [Act.put, zT, z0, zS]) | (refine q_take (v := ?_) (by rfl) ?_ ?_; rotate_left; (first | ((intro w h; clear h; go_simp) <;> with_reducible rfl) | ((intro w h; obtain ⟨x0, x1, x2⟩ := cO.out w h; clear h; go_simp) <;> with_reducible rfl)); try simp only [Act.put, zT, z0, zS]))
      refine q_nil ?_
      intro w5 k5
      replace k5 := Lib.hid k5
      clear hno1 hno2 hyes hnb hup
      go_wp2_with fail
      go_ret
      exact ⟨ret_bool hfin.out.symm, B0.out.trans (k5.out.mono B0.out.size)⟩
  · have z1 : (dp == 0) = false := by simpa using hz
    by_cases hrn : rt = n
    · have z2 : (rt == n) = true := by simpa using hrn
      have hfin := Lib.hid (hno2.out (.inr (.inl ⟨hz, hrn⟩)))
      replace hz := Lib.hid hz
      replace hrn := Lib.hid hrn
      refine q_region (fun W => Below w1.heap.size w1 W) (by kernel_rfl) (by kernel_rfl) (hB3.out.drew) ?_
      repeat (first | (refine q_skip (by rfl) ?_; try simp only [Act.put, zT, z0, zS]) | (refine q_take (v := ?_) (by rfl) ?_ ?_; rotate_left; (first | ((intro w h; clear h; go_simp) <;> with_reducible rfl) | ((intro w h; obtain ⟨x0, x1, x2⟩ := cO.out w h; clear h; go_simp) <;> with_reducible rfl)); try simp only [Act.put, zT, z0, zS]))
      refine q_nil ?_
      intro w5 k5
      replace k5 := Lib.hid k5
      clear hno1 hno2 hyes hnb hup
      go_wp2_with fail
      go_ret
      exact ⟨ret_bool hfin.out.symm, B0.out.trans (k5.out.mono B0.out.size)⟩
    · have z2 : (rt == n) = false := by simpa using hrn
      have hy := Lib.hid (hyes.out c2r c1r c3r ⟨fun h => absurd h hz, fun h => absurd h hrn⟩ (fun h => absurd h hz))
      replace hz := Lib.hid hz
      replace hrn := Lib.hid hrn
      refine q_region (fun W => Below w1.heap.size w1 W) (by kernel_rfl) (by kernel_rfl) (hB3.out.drew) ?_
      repeat (first | (refine q_skip (by rfl) ?_; try simp only [Act.put, zT, z0, zS]) | (refine q_take (v := ?_) (by rfl) ?_ ?_; rotate_left; (first | ((intro w h; clear h; go_simp) <;> with_reducible rfl) | ((intro w h; obtain ⟨x0, x1, x2⟩ := cO.out w h; clear h; go_simp) <;> with_reducible rfl)); try simp only [Act.put, zT, z0, zS]))
      refine q_nil ?_
      intro w5 k5
      replace k5 := Lib.hid k5
      have m1 : IntKind.i64.wrap ((N : Int) - 1) = mf N := by
        cases N with
        | zero => rw [hm0.out]; decide
        | succ N => rw [hms.out, show (((N + 1 : Nat) : Int) - 1) = (N : Int) by omega]; exact IntWalk.i64_in _ (by omega)
      have m2 : IntKind.i64.wrap (dp - 1) = dp - 1 := IntWalk.i64_in _ (by omega)
      clear hno1 hno2 hyes
      obtain ⟨g0, g1, g2, g3, g4⟩ := hG.out w5 k5.out
      go_wp2_with fail
      go_loopg [5, 6] N (fun q fv iv wr => q ≤ N ∧ iv = .int .i64 (mf q) ∧ fv = .int .i64 (upF m n (es.drop q)) ∧ Hid ((es.drop q).all (nbF m n) = true) ∧ Below w1.heap.size w1 wr)
      case atStart => exact ⟨Nat.le_refl _, rfl, by rw [List.drop_of_length_le (by rw [hN.out]; exact Nat.le_refl _)]; rfl, by show _ = _; rw [List.drop_of_length_le (by rw [hN.out]; exact Nat.le_refl _)]; rfl, k5.out⟩
      case round =>
        obtain ⟨hq, rfl, rfl, hall, B⟩ := hrel
        obtain ⟨wo, rfl⟩ : ∃ x, x = wr := ⟨_, rfl⟩
        have hBo := Lib.hid B
        clear g0 g1 g2 g3 g4
        obtain ⟨g0, g1, g2, g3, g4⟩ := hG.out wo B
        obtain ⟨o0, o1, o2⟩ := cO.out wo B
        cases gk with
        | zero =>
          rw [hm0.out]
          rw [List.drop_zero] at hall ⊢
          have hR9 : Hid (R = (decide (dp = 0) || (decide (0 ≤ upF m n es) && decide (ed = upF m n es)))) := by show _ = _; rw [hy.out, hall.out, Bool.true_and]
          generalize upF m n es = U at *
          clear hy hall B hq hnb hup m1 m2
          have hR8 : Hid (R = (decide (0 ≤ U) && decide (ed = U))) := by show _ = _; rw [hR9.out, decide_eq_false (by simpa using z1)]; rfl
          by_cases hU : 0 ≤ U
          · have u1 : decide (0 ≤ U) = true := decide_eq_true hU
            cases hE : (ed == U) with
            | true =>
              have hfin : Hid (R = true) := by show _ = _; rw [hR8.out, u1, decide_eq_true (by simpa using hE)]; rfl
              go_wp2_with fail
              go_ret
              exact ⟨ret_bool hfin.out.symm, B0.out.trans (hBo.out.mono B0.out.size)⟩
            | false =>
              have hfin : Hid (R = false) := by show _ = _; rw [hR8.out, u1, decide_eq_false (by simpa using hE)]; rfl
              go_wp2_with fail
              go_ret
              exact ⟨ret_bool hfin.out.symm, B0.out.trans (hBo.out.mono B0.out.size)⟩
          · have u1 : decide (0 ≤ U) = false := decide_eq_false hU
            have hfin : Hid (R = false) := by show _ = _; rw [hR8.out, u1]; rfl
            go_wp2_with fail
            go_ret
            exact ⟨ret_bool hfin.out.symm, B0.out.trans (hBo.out.mono B0.out.size)⟩
        | succ gq =>
          rw [hms.out]
          have i0 : (0 : Int) ≤ (gq : Int) := by omega
          have i1 : (gq : Int) < (N : Int) := by omega
          have hql : gq < es.length := by rw [← hN.out]; omega
          have hq1 : Hid (gq ≤ N) := by show _ ≤ _; omega
          have m3 : IntKind.i64.wrap ((gq : Int) - 1) = mf gq := by
            cases gq with
            | zero => rw [hm0.out]; decide
            | succ gq => rw [hms.out, show (((gq + 1 : Nat) : Int) - 1) = (gq : Int) by omega]; exact IntWalk.i64_in _ (by omega)
          obtain ⟨eb, eo, rfl, ce⟩ := cellE.out gq hql
          have hdr := List.drop_eq_getElem_cons hql
          have hupq := hup.out es[gq] (es.drop (gq + 1))
          rw [← hdr] at hupq
          have hnq := hnb.out es[gq]
          have hRf := Lib.hid (fun (h : nbF m n es[gq] = false) => (show R = false from by rw [hy.out, all_snd hql h]; rfl))
          have hAl := Lib.hid (fun (h : nbF m n es[gq] = true) => (show (es.drop gq).all (nbF m n) = true from by rw [hdr, List.all_cons, h, hall.out]; rfl))
          have fE := Lib.hid (fun W (q : Below w1.heap.size w1 W) => ce W q)
          generalize es[gq] = u at *
          unfold EdAt at fE
          have hOu := Lib.hid (OtherR_any u n)
          unfold Ed.val at hOu
          have hFy := Lib.hid (fun W q => hFd.out (otherI u n) W q)
          rw [hFe.out (otherI u n)] at hFy
          generalize otherI u n = y at *
          generalize upF m n (es.drop (gq + 1)) = U1 at *
          replace hupq := Lib.hid hupq
          obtain ⟨d0, d1e, d2e, d3e, d4e, d5e⟩ := fE.out wo B
          clear ce hdr hall B hq hy hql
          go_wp2_with fail
          refine (hOu.out _).mono ?_
          rintro e w6 ⟨rfl, b6⟩
          have hB6 := Lib.hid (hBo.out.trans (b6.mono hBo.out.size))
          clear b6 g0 g1 g2 g3 g4 o0 o1 o2 d0 d1e d2e d3e d4e d5e
          obtain ⟨g0, g1, g2, g3, g4⟩ := hG.out w6 hB6.out
          go_wp2_with fail
          refine (hFy.out w6 hB6.out).mono ?_
          rintro e w7 ⟨r, rfl, hr, rfl⟩
          clear g0 g1 g2 g3 g4
          cases hmy : m y with
          | none =>
            rw [hmy] at hr hnq
            have hfin := Lib.hid (hRf.out (by rw [hnq]; rfl))
            obtain ⟨f, c, rfl⟩ := dl0 hr
            clear hr hnq hupq hRf hAl hmy
            go_upto_region 13 with (fail)
            refine q_region (fun W => Below w1.heap.size w1 W) (by kernel_rfl) (by kernel_rfl) (hB6.out.drew) ?_
            repeat (first | (refine q_skip (by rfl) ?_; try simp only [Act.put, zT, z0, zS]) | (refine q_take (v := ?_) (by rfl) ?_ ?_; rotate_left; (first | ((intro w h; clear h; go_simp) <;> with_reducible rfl)); try simp only [Act.put, zT, z0, zS]))
            refine q_nil ?_
            intro w8 k8
            replace k8 := Lib.hid k8
            go_wp2_with fail
            go_ret
            exact ⟨ret_bool hfin.out.symm, B0.out.trans (k8.out.mono B0.out.size)⟩
          | some py =>
            have hgy : gp m y = py := gp_some hmy
            rw [hmy] at hr hnq
            rw [hgy] at hnq hupq
            obtain ⟨yb, yo, yc, rfl, cY⟩ := dl3 (show DL w6 r [py.root, py.depth, py.edge] from hr)
            obtain ⟨yr, yd, ye⟩ := py
            simp only [Option.isSome_some, Bool.true_and] at cY hnq hupq
            have fC := Lib.hid (fun W (q : Below w6.heap.size w6 W) => (show (W.cell? ⟨ob, oo, none⟩ = _ ∧ W.cell? ⟨ob, oo + 1, none⟩ = _ ∧ W.cell? ⟨ob, oo + 2, none⟩ = _) ∧ (W.cell? ⟨yb, yo, none⟩ = _ ∧ W.cell? ⟨yb, yo + 1, none⟩ = _ ∧ W.cell? ⟨yb, yo + 2, none⟩ = _) from ⟨cO.out W (hB6.out.trans (q.mono hB6.out.size)), cY W q⟩))
            clear hr hmy hgy cY
            cases h1 : (yr == rt) with
            | false =>
              have h2 : (yr != rt) = true := by rw [bne, h1]; rfl
              have hfin := Lib.hid (hRf.out (by rw [hnq, h1]; rfl))
              clear hnq hupq hRf hAl
              go_upto_region 13 with (fail)
              refine q_region (fun W => Below w6.heap.size w6 W) (by kernel_rfl) (by kernel_rfl) ((Below.refl _ w6).drew) ?_
              repeat (first | (refine q_skip (by rfl) ?_; try simp only [Act.put, zT, z0, zS]) | (refine q_take (v := ?_) (by rfl) ?_ ?_; rotate_left; (first | ((intro w h; clear h; go_simp) <;> with_reducible rfl) | ((intro w h; obtain ⟨⟨x0, x1, x2⟩, x3, x4, x5⟩ := fC.out w h; clear h; go_simp) <;> with_reducible rfl)); try simp only [Act.put, zT, z0, zS]))
              refine q_nil ?_
              intro w8 k8
              have hB8 := Lib.hid (hB6.out.trans (k8.mono hB6.out.size))
              clear k8
              go_wp2_with fail
              go_ret
              exact ⟨ret_bool hfin.out.symm, B0.out.trans (hB8.out.mono B0.out.size)⟩
            | true =>
              have h2 : (yr != rt) = false := by rw [bne, h1]; rfl
              by_cases h3 : yd < dp - 1
              · have h4 : decide (yd < dp - 1) = true := decide_eq_true h3
                have hfin := Lib.hid (hRf.out (by rw [hnq, h1, h4]; rfl))
                clear hnq hupq hRf hAl
                go_upto_region 13 with (fail)
                refine q_region (fun W => Below w6.heap.size w6 W) (by kernel_rfl) (by kernel_rfl) ((Below.refl _ w6).drew) ?_
                repeat (first | (refine q_skip (by rfl) ?_; try simp only [Act.put, zT, z0, zS]) | (refine q_take (v := ?_) (by rfl) ?_ ?_; rotate_left; (first | ((intro w h; clear h; go_simp) <;> with_reducible rfl) | ((intro w h; obtain ⟨⟨x0, x1, x2⟩, x3, x4, x5⟩ := fC.out w h; clear h; go_simp) <;> with_reducible rfl)); try simp only [Act.put, zT, z0, zS]))
                refine q_nil ?_
                intro w8 k8
                have hB8 := Lib.hid (hB6.out.trans (k8.mono hB6.out.size))
                clear k8
                go_wp2_with fail
                go_ret
                exact ⟨ret_bool hfin.out.symm, B0.out.trans (hB8.out.mono B0.out.size)⟩
              · have h4 : decide (yd < dp - 1) = false := decide_eq_false h3
                have hnx := Lib.hid (hAl.out (by rw [hnq, h1, h4]; rfl))
                clear hnq hRf hAl
                by_cases h5 : yd = dp - 1
                · have h6 : (yd == dp - 1) = true := by simpa using h5
                  rw [if_pos h5] at hupq
                  replace h5 := Lib.hid h5
                  go_upto_region 13 with (fail)
                  refine q_region (fun W => Below w6.heap.size w6 W) (by kernel_rfl) (by kernel_rfl) ((Below.refl _ w6).drew) ?_
                  repeat (first | (refine q_skip (by rfl) ?_; try simp only [Act.put, zT, z0, zS]) | (refine q_take (v := ?_) (by rfl) ?_ ?_; rotate_left; (first | ((intro w h; clear h; go_simp) <;> with_reducible rfl) | ((intro w h; obtain ⟨⟨x0, x1, x2⟩, x3, x4, x5⟩ := fC.out w h; clear h; go_simp) <;> with_reducible rfl)); try simp only [Act.put, zT, z0, zS]))
                  refine q_nil ?_
                  intro w8 k8
                  replace k8 := Lib.hid k8
                  go_upto_region 15 with (fail)
                  refine q_region (fun W => Below w6.heap.size w6 W) (by kernel_rfl) (by kernel_rfl) (k8.out.drew) ?_
                  repeat (first | (refine q_skip (by rfl) ?_; try simp only [Act.put, zT, z0, zS]) | (refine q_take (v := ?_) (by rfl) ?_ ?_; rotate_left; (first | ((intro w h; clear h; go_simp) <;> with_reducible rfl) | ((intro w h; obtain ⟨⟨x0, x1, x2⟩, x3, x4, x5⟩ := fC.out w h; clear h; go_simp) <;> with_reducible rfl)); try simp only [Act.put, zT, z0, zS]))
                  refine q_nil ?_
                  intro w9 k9
                  have hB9 := Lib.hid (hB6.out.trans (k9.mono hB6.out.size))
                  clear k9
                  obtain ⟨g0, g1, g2, g3, g4⟩ := hG.out w9 hB9.out
                  obtain ⟨d0, _⟩ := fE.out w9 hB9.out
                  go_wp2_with fail
                  go_roundg gq
                  case measure => omega
                  case rel => exact ⟨hq1.out, rfl, by rw [hupq.out], hnx, hB9.out⟩
                · have h6 : (yd == dp - 1) = false := by simpa using h5
                  rw [if_neg h5] at hupq
                  replace h5 := Lib.hid h5
                  go_upto_region 13 with (fail)
                  refine q_region (fun W => Below w6.heap.size w6 W) (by kernel_rfl) (by kernel_rfl) ((Below.refl _ w6).drew) ?_
                  repeat (first | (refine q_skip (by rfl) ?_; try simp only [Act.put, zT, z0, zS]) | (refine q_take (v := ?_) (by rfl) ?_ ?_; rotate_left; (first | ((intro w h; clear h; go_simp) <;> with_reducible rfl) | ((intro w h; obtain ⟨⟨x0, x1, x2⟩, x3, x4, x5⟩ := fC.out w h; clear h; go_simp) <;> with_reducible rfl)); try simp only [Act.put, zT, z0, zS]))
                  refine q_nil ?_
                  intro w8 k8
                  replace k8 := Lib.hid k8
                  go_upto_region 15 with (fail)
                  refine q_region (fun W => Below w6.heap.size w6 W) (by kernel_rfl) (by kernel_rfl) (k8.out.drew) ?_
                  repeat (first | (refine q_skip (by rfl) ?_; try simp only [Act.put, zT, z0, zS]) | (refine q_take (v := ?_) (by rfl) ?_ ?_; rotate_left; (first | ((intro w h; clear h; go_simp) <;> with_reducible rfl) | ((intro w h; obtain ⟨⟨x0, x1, x2⟩, x3, x4, x5⟩ := fC.out w h; clear h; go_simp) <;> with_reducible rfl)); try simp only [Act.put, zT, z0, zS]))
                  refine q_nil ?_
                  intro w9 k9
                  have hB9 := Lib.hid (hB6.out.trans (k9.mono hB6.out.size))
                  clear k9
                  go_wp2_with fail
                  go_roundg gq
                  case measure => omega
                  case rel => exact ⟨hq1.out, rfl, by rw [hupq.out], hnx, hB9.out⟩

end Go.Proofs.Ytlnbobclbaieoaa
/- Contracts and facts. -/
set_option linter.unusedSimpArgs false
set_option maxRecDepth 100000
set_option maxHeartbeats 4000000
namespace Go.Proofs.Ytlnbobclbaieoaa
open Go.RowKit
theorem dl3c {w : World} {v : Value} {a b c : Int} (h : DL w v [a, b, c]) : ∃ ob oo oc, v = .slice (some ⟨ob, oo, none⟩) 3 oc ∧ w.cell? ⟨ob, oo + 1, none⟩ = some (.int .i64 b) := by
  obtain ⟨v1, v2, rfl⟩ := h.shape
  obtain ⟨b1, o1, rfl, h1⟩ := h.cells 1 (by simp)
  exact ⟨b1, o1, v2, rfl, h1 w (Below.refl _ _)⟩
set_option maxRecDepth 100000 in
theorem CountR_any (n sd : Int) (dv ev lv : Value) (L : List Nm) (w : World) (hL : NL w lv L) (hLn : L.length ≤ 1000000) (hLx : ∀ x ∈ L, x.2.length ≤ 9223372036854775807) :
    Calls Try.prog 34 #[.agg #[.int .i64 n, .int .i64 sd, dv, ev, lv]] w fun e w' => e = .returned (.int .i64 (countF n (readF L))) ∧ Below w.heap.size w w' := by
  obtain ⟨R, hR⟩ : ∃ R, Hid (countF n (readF L) = R) := ⟨_, rfl⟩
  rw [hR.out]
  obtain ⟨w1, hw1⟩ : ∃ w1, w1 = w.alloc (.cells #[.int .i64 n, .int .i64 sd, dv, ev, lv] 51) := ⟨_, rfl⟩
  have gb : w1.heap[w.heap.size]? = some (.cells #[.int .i64 n, .int .i64 sd, dv, ev, lv] 51 (0, 0)) := by rw [hw1]; exact heap_alloc_new w _
  have B0 : Below w.heap.size w w1 := by rw [hw1]; exact (Below.refl _ w).alloc (Nat.le_refl _) _
  have g0 : w1.cell? ⟨w.heap.size, 0, none⟩ = some (.int .i64 n) := by rw [cell_of_row _ _ _ _ _ _ gb]; rfl
  have g4 : w1.cell? ⟨w.heap.size, 4, none⟩ = some lv := by rw [cell_of_row _ _ _ _ _ _ gb]; rfl
  have hF := FindN_any lv L n 3 w1 (hL.below B0) hLn hLx
  rw [findF_read] at hF
  replace hF := Lib.hid hF
  obtain ⟨m, hm⟩ : ∃ m, Hid (m = readF L) := ⟨_, rfl⟩
  rw [← hm.out] at hR hF
  replace hw1 := Lib.hid hw1
  replace B0 := Lib.hid B0
  clear gb hL
  cases hmn : m n with
  | none =>
    have hfin : Hid (R = 0) := by show _ = _; rw [← hR.out]; unfold countF; rw [hmn]; rfl
    rw [hmn] at hF
    go_enter Try.func34, Try.ntmps34
    go_upto_region 1 with (fail)
    rw [← hw1.out]
    go_wp2_with fail
    refine hF.out.mono ?_
    rintro e w2 ⟨r, rfl, hr, rfl⟩
    obtain ⟨f, c, rfl⟩ : ∃ f c, r = .slice f 0 c := by
      obtain ⟨v1, v2, rfl⟩ := DL.shape (l := []) hr
      exact ⟨v1, v2, rfl⟩
    clear hr hmn
    go_wp2_with fail
    go_ret
    exact ⟨by rw [hfin.out]; rfl, B0.out⟩
  | some p =>
    have hgp : gp m n = p := gp_some hmn
    rw [hmn] at hF
    by_cases hd : p.depth = 0
    · have t1 : (p.depth == 0) = true := by simpa using hd
      have hfin : Hid (R = 1) := by show _ = _; rw [← hR.out]; unfold countF; rw [hmn, hgp, if_pos ⟨rfl, hd⟩]
      replace hd := Lib.hid hd
      go_enter Try.func34, Try.ntmps34
      go_upto_region 1 with (fail)
      rw [← hw1.out]
      go_wp2_with fail
      refine hF.out.mono ?_
      rintro e w2 ⟨r, rfl, hr, rfl⟩
      obtain ⟨ob, oo, oc, rfl, c1⟩ := dl3c (show DL w1 r [p.root, p.depth, p.edge] from hr)
      clear hr hmn
      go_wp2_with fail
      go_ret
      exact ⟨by rw [hfin.out]; rfl, B0.out⟩
    · have t1 : (p.depth == 0) = false := by simpa using hd
      have hfin : Hid (R = 0) := by show _ = _; rw [← hR.out]; unfold countF; rw [hmn, hgp, if_neg (fun h => hd h.2)]
      replace hd := Lib.hid hd
      go_enter Try.func34, Try.ntmps34
      go_upto_region 1 with (fail)
      rw [← hw1.out]
      go_wp2_with fail
      refine hF.out.mono ?_
      rintro e w2 ⟨r, rfl, hr, rfl⟩
      obtain ⟨ob, oo, oc, rfl, c1⟩ := dl3c (show DL w1 r [p.root, p.depth, p.edge] from hr)
      clear hr hmn
      go_wp2_with fail
      go_ret
      exact ⟨by rw [hfin.out]; rfl, B0.out⟩

end Go.Proofs.Ytlnbobclbaieoaa
