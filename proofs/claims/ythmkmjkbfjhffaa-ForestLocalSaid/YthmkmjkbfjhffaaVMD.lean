/- Contracts and facts. -/
import Derived.Deep.LoopGhost
import Derived.Handy
import Derived.WalkMore
import Derived.BigRegion
import Derived.Laws.EntriesVeiled
import Derived.Test.YthmkmjkbfjhffaaVMA
set_option linter.unusedSimpArgs false
set_option maxRecDepth 100000
set_option maxHeartbeats 4000000
namespace Go.Proofs.Ythmkmjkbfjhffaa
open Go.RowKit

def kpS (n : Int) (S : List Int) (x : Nm) : Bool := x.1 == n || decide (x.1 ∈ S)
structure VN (w : World) (r p : Nat) (c0 c1 dv ev lb nv : Value) (ds : List Int) (es : List Ed) (S : List Int) (L : List Nm) (W : World) : Prop where
  s : VS w r p c0 c1 dv ev lb ds es L W
  n : OwnI W w.heap.size nv S
theorem VN.below {w W W' : World} {r p : Nat} {c0 c1 dv ev lb nv : Value} {ds : List Int} {es : List Ed} {S : List Int} {L : List Nm} (h : VN w r p c0 c1 dv ev lb nv ds es S L W) (B : Below W.heap.size W W') : VN w r p c0 c1 dv ev lb nv ds es S L W' := ⟨h.s.below B, own_below h.n B⟩
theorem near_put {w W : World} {r p : Nat} {c0 c1 dv ev lb nv : Value} {ds : List Int} {es : List Ed} {S : List Int} (h : VT w r p c0 c1 dv ev lb ds es W) (hn : OwnI W w.heap.size nv S) (u : Value) : OwnI (W.setCell ⟨p, 4, none⟩ u) w.heap.size nv S :=
  own_apart hn (show W.grownBy (W.setCell ⟨p, 4, none⟩ u) (some p) from ⟨rfl, rfl, rfl, by simp, fun j _ hne => by
    rw [heap_setCell_other _ _ _ _ (by intro e; exact hne (congrArg some e))]⟩) (fun b hb e => by
    obtain ⟨_, cur, k1⟩ := own_row hn b hb
    cases e
    exact absurd (two_types k1 h.box) (by decide))
noncomputable def sfxW (n : Nat) : Code := dropC n (Try.f43.body.getD .skip)
def VW (w : World) (c0 c1 : Value) (ds : List Int) (es : List Ed) (L : List Nm) (e : Ending) (w' : World) : Prop :=
  ∃ dv ev lb, e = .returned (.tuple #[.agg #[c0, c1, dv, ev, lb], .int .i64 0]) ∧ DO w' w.heap.size dv ds ∧ OwnEd w' w.heap.size ev es ∧ OwnN w' w.heap.size lb L ∧ Below w.heap.size w w'
set_option maxRecDepth 1000000 in
set_option maxHeartbeats 8000000 in
theorem vw_loop (q0 q3 q4 q5 q8 q9 q12 q13 q14 q15 q16 q17 q18 q19 q20 q21 q22 q23 q24 q25 q26 q27 q28 q29 q30 q31 q32 q33 q34 q35 q36 q37 q38 q39 q40 q41 q42 q43 q44 q45 q46 q47 q48 q49 q50 q51 q52 q53 q54 q55 q56 q57 q58 q59 q60 q61 q62 q63 q64 q65 q66 q67 q68 q69 q70 q71 q72 q73 : Value) (w wA : World) (r p : Nat) (i0 s0 : Int) (d1 : Option Addr) (d2 d3 : Nat) (e1 : Option Addr) (M e2 : Nat) (n : Int) (la : Option Addr) (N lc : Nat) (L : List Nm) (nv : Value) (S : List Int) (ds : List Int) (es : List Ed)
    (F : Nm → Bool) (hF : Hid (F = kpS n S)) (Post : Ending → World → Prop) (hPost : Hid (∀ e w', VW w (.int .i64 i0) (.int .i64 s0) ds es (L.filter F) e w' → Post e w')) (hN : Hid (N = L.length)) (hL : Hid (NL w (.slice la L.length lc) L)) (hSl : Hid (S.length ≤ 1000000000000)) (hNl : N ≤ 1000000) (hx : Hid (∀ x ∈ L, x.2.length ≤ 1000000))
    (H : Hid (VN w r p (.int .i64 i0) (.int .i64 s0) (.slice d1 d2 d3) (.slice e1 M e2) (.slice none 0 0) nv ds es S [] wA)) :
    Code.wp Try.prog (sfxW 5) (bodyPost Try.prog Try.f43 Post) ⟨(q0 :: .slice la N lc :: .int .i64 n :: q3 :: q4 :: q5 :: .pointer (some ⟨r, 0, none⟩) :: .int .i64 0 :: q8 :: q9 :: .pointer (some ⟨p, 0, none⟩) :: nv :: q12 :: q13 :: q14 :: q15 :: q16 :: q17 :: q18 :: q19 :: q20 :: q21 :: q22 :: q23 :: q24 :: q25 :: q26 :: q27 :: q28 :: q29 :: q30 :: q31 :: q32 :: q33 :: q34 :: q35 :: q36 :: q37 :: q38 :: q39 :: q40 :: q41 :: q42 :: q43 :: q44 :: q45 :: q46 :: q47 :: q48 :: q49 :: q50 :: q51 :: q52 :: q53 :: q54 :: q55 :: q56 :: q57 :: q58 :: q59 :: q60 :: q61 :: q62 :: q63 :: q64 :: q65 :: q66 :: q67 :: q68 :: q69 :: q70 :: q71 :: q72 :: q73 :: []).toArray, []⟩ wA := by
  obtain rfl : F = kpS n S := hF.out
  obtain ⟨R, hR⟩ : ∃ R, Hid (R = L.filter (kpS n S)) := ⟨_, rfl⟩
  rw [← hR.out] at hPost
  conv => arg 2; whnf
  obtain ⟨A, hA⟩ : ∃ A : Nat → List Nm, ∀ k, A k = (L.take k).filter (kpS n S) := ⟨_, fun _ => rfl⟩
  have hA0 : Hid (A 0 = []) := by show _ = _; rw [hA]; rfl
  have hAs := Lib.hid (fun (k : Nat) (hk : k < L.length) => (show A (k + 1) = A k ++ (if kpS n S L[k] = true then [L[k]] else []) by
    rw [hA, hA, List.take_succ_eq_append_getElem hk, List.filter_append]
    congr 1
    by_cases h : kpS n S L[k] = true <;> simp [h]))
  have hAe : Hid (A N = R) := by show _ = _; rw [hA, hR.out, hN.out, List.take_of_length_le (Nat.le_refl _)]
  have hAl := Lib.hid (fun k (hk : k ≤ N) => (show (A k).length ≤ N by
    rw [hA]
    refine Nat.le_trans (List.length_filter_le _ _) ?_
    rw [List.length_take]; omega))
  have cellL := Lib.hid (hL.out.cells)
  clear hA
  go_wp2_with fail
  go_loopg [47] N (fun q kv wr => ∃ (k : Nat) (lb : Value), k + q = N ∧ kv = .int .i64 k ∧ VN w r p (.int .i64 i0) (.int .i64 s0) (.slice d1 d2 d3) (.slice e1 M e2) lb nv ds es S (A k) wr)
  case atStart => exact ⟨0, _, by omega, rfl, by rw [hA0.out]; exact H.out⟩
  case round =>
  obtain ⟨k, lb, hk, rfl, hS⟩ := hrel
  obtain ⟨wo, rfl⟩ : ∃ x, x = wr := ⟨_, rfl⟩
  clear H hA0
  obtain ⟨lb1, lb2, rfl⟩ := hS.s.l.NL.shape
  cases gk with
  | zero =>
    have hk2 : k = N := by omega
    have i1 : ¬ (k : Int) < (N : Int) := by omega
    subst hk2
    rw [hAe.out] at hS
    have hS2 := Lib.hid hS.s
    obtain ⟨x0, x1, x2, x3, x4⟩ := hS.s.cells
    have rb := Lib.hid hS.s.res
    clear hS hk hAs hAe hAl cellL
    go_wp2_with (refine wpList_store_row rfl 51 (.tmp 6) (.tmp 73) rfl r #[.int .i64 i0, .int .i64 s0, .slice d1 d2 d3, .slice e1 M e2, .slice lb1 R.length lb2] rfl rfl 51 _ rb.out (info51 _ _ _ _ _) rfl (by simp [Value.oneCell']) ?_)
    refine bodyPost_ret (results_cell_tmp1_row (fn := Try.f43) rfl _ _ r 51 #[.int .i64 i0, .int .i64 s0, .slice d1 d2 d3, .slice e1 M e2, .slice lb1 R.length lb2] (0, 0) _ _ rfl rfl (setRow_heap _ _ _ _ _ _ rb.out) Try.underlying51 rfl (info51 _ _ _ _ _)) rfl ?_
    obtain ⟨f1, f2, f3, f4⟩ := hS2.out.fin #[.int .i64 i0, .int .i64 s0, .slice d1 d2 d3, .slice e1 M e2, .slice lb1 R.length lb2]
    exact hPost.out _ _ ⟨_, _, _, rfl, f1, f2, f3, f4⟩
  | succ ga =>
    have hlt : k < N := by omega
    have hkl : k < L.length := by rw [← hN.out]; exact hlt
    obtain ⟨bv, ov, lvk, rfl, cv⟩ := cellL.out k hkl
    have j0 : (0 : Int) ≤ (k : Int) := by omega
    have j1 : (k : Int) < (N : Int) := by omega
    have hle : Hid (k + 1 + ga = N) := by show _ = _; omega
    have hst := Lib.hid (hAs.out k hkl)
    have hln := Lib.hid (hAl.out k (by omega))
    have hxk : Hid (L[k].2.length ≤ 1000000) := hx.out _ (List.getElem_mem _)
    generalize hLk : L[k] = x at *
    clear hLk
    obtain ⟨c0, c1, c2⟩ := cv wo hS.s.bel
    obtain ⟨la1, la2, rfl⟩ := c2.shape
    obtain ⟨wi, hwi⟩ : ∃ wi, wi = wo.alloc (.cells #[.int .i64 x.1, .slice la1 x.2.length la2] 54) := ⟨_, rfl⟩
    have b1 : Below wo.heap.size wo wi := by rw [hwi]; exact (Below.refl _ wo).alloc (Nat.le_refl _) _
    have vb : wi.heap[wo.heap.size]? = some (.cells #[.int .i64 x.1, .slice la1 x.2.length la2] 54 (0, 0)) := by rw [hwi]; exact heap_alloc_new wo _
    have v0 : wi.cell? ⟨wo.heap.size, 0, none⟩ = some (.int .i64 x.1) := by rw [cell_of_row _ _ _ _ _ _ vb]; rfl
    have v1 : wi.cell? ⟨wo.heap.size, 1, none⟩ = some (.slice la1 x.2.length la2) := by rw [cell_of_row _ _ _ _ _ _ vb]; rfl
    have hV2 := Lib.hid (hS.below b1)
    have cvW := Lib.hid (fun W (q : Below wi.heap.size wi W) => (cv W (hS.s.bel.trans ((b1.trans (q.mono b1.size)).mono hS.s.bel.size))).2.2)
    have hC := Contains_any nv S x.1 wi (OwnI.DL hV2.out.n) hSl.out
    have hxq : Hid _ := Lib.hid vb
    replace hwi := Lib.hid hwi
    clear cv c2 hS hk hlt hAs hAe hAl cellL hkl b1 vb
    go_upto_region 9 with (fail)
    rw [← hwi.out]
    clear c0 c1
    generalize hxo : wo.heap.size = xq at *
    clear hwi
    by_cases c1 : x.1 = n
    · have t1 : (x.1 == n) = true := by simpa using c1
      have hAk : Hid (A (k + 1) = A k ++ [x]) := by show _ = _; rw [hst.out]; simp [kpS, c1]
      clear c1 hC
      go_upto_region 10 with (fail)
      clear hst
      obtain ⟨vs, hvs⟩ := hV2.out.s.l
      have hcW := Lib.hid (fun W (q : Below wi.heap.size wi W) => (show W.cell? ⟨p, 4, none⟩ = some (.slice lb1 (A k).length lb2) ∧ W.cell? ⟨xq, 0, none⟩ = some (.int .i64 x.1) ∧ W.cell? ⟨xq, 1, none⟩ = some (.slice la1 x.2.length la2) ∧ DL W (.slice la1 x.2.length la2) x.2 from ⟨(hV2.out.s.below q).cells.2.2.2.2, by rw [cell_of_row _ _ _ _ _ _ ((q.block _ (Array.getElem?_eq_some_iff.1 hxq.out).1).trans hxq.out)]; rfl, by rw [cell_of_row _ _ _ _ _ _ ((q.block _ (Array.getElem?_eq_some_iff.1 hxq.out).1).trans hxq.out)]; rfl, cvW.out W q⟩))
      have hsW := Lib.hid (fun W (q : Below wi.heap.size wi W) => hvs.below q)
      have hlt2 := Lib.hid (fun (j : Nat) (u : Value) (hu : vs[j]? = some u) (b : Nat) (hb : u.ownBlock = some b) => hvs.lt j u hu b hb)
      have hVW := Lib.hid (fun W (q : Below wi.heap.size wi W) => hV2.out.s.below q)
      have hNW := Lib.hid (fun W (q : Below wi.heap.size wi W) => own_below hV2.out.n q)
      have hbase : Hid (w.heap.size ≤ wi.heap.size) := hV2.out.s.bel.size
      clear hvs cvW hV2 hxq hR
      generalize A k = Lk at *
      refine Rel.c_region (fun _ => false) wi [some (.pointer (some ⟨p, 4, none⟩)), some (.slice lb1 Lk.length lb2), some (.pointer (some ⟨xq, 0, none⟩)), some (.int .i64 x.1), some (.pointer (some ⟨xq, 1, none⟩)), some (.slice la1 x.2.length la2), none, none, none, none, none, none]
        (fun i v W => match i with
          | 6 => ∃ f c, v = .slice f x.2.length c ∧ OwnI W w.heap.size v x.2 ∧ ∀ bb, v.ownBlock = some bb → wi.heap.size ≤ bb
          | 7 => ∃ f c, v = .agg #[.int .i64 x.1, .slice f x.2.length c] ∧ OwnI W w.heap.size (.slice f x.2.length c) x.2 ∧ ∀ bb, (Value.slice f x.2.length c).ownBlock = some bb → wi.heap.size ≤ bb
          | 8 => ∃ q f c, v = .slice (some ⟨q, 0, none⟩) 1 1 ∧ W.heap[q]? = some (.cells #[.int .i64 x.1, .slice f x.2.length c] 54 (0, 0)) ∧ OwnI W w.heap.size (.slice f x.2.length c) x.2 ∧ ∀ bb, (Value.slice f x.2.length c).ownBlock = some bb → wi.heap.size ≤ bb
          | _ => True)
        (fun i vals W => (i = 10 → vals 10 = .pointer (some ⟨p, 4, none⟩)) ∧ ∃ f m c, (i ≤ 10 → vals 9 = .slice f m c ∧ VT w r p (.int .i64 i0) (.int .i64 s0) (.slice d1 d2 d3) (.slice e1 M e2) (.slice lb1 Lk.length lb2) ds es W ∧ OwnI W w.heap.size nv S ∧ OwnN W w.heap.size (.slice f m c) (Lk ++ [x])) ∧ (i = 11 → VN w r p (.int .i64 i0) (.int .i64 s0) (.slice d1 d2 d3) (.slice e1 M e2) (.slice f m c) nv ds es S (Lk ++ [x]) W)) 9 (by kernel_rfl) (by kernel_rfl) (fun i hi => by cases hi)
        (fun j hj => by simp only [List.getD_eq_getElem?_getD]; rcases Nat.lt_or_ge j 12 with h | h; (obtain rfl | rfl | rfl : j = 9 ∨ j = 10 ∨ j = 11 := by omega); rfl; rfl; rfl; rw [List.getElem?_eq_none (by simp; omega)]; rfl) (by decide) (fun i v W W' h Bl => by
          split at h
          · obtain ⟨f, c, h1, h2, h3⟩ := h; exact ⟨f, c, h1, own_below h2 Bl, h3⟩
          · obtain ⟨f, c, h1, h2, h3⟩ := h; exact ⟨f, c, h1, own_below h2 Bl, h3⟩
          · obtain ⟨q, f, c, h1, h2, h3, h4⟩ := h; exact ⟨q, f, c, h1, (Bl.block _ (Array.getElem?_eq_some_iff.1 h2).1).trans h2, own_below h3 Bl, h4⟩
          · exact trivial) ((Below.refl _ wi).drew) (fun vals hO => ?_)
      refine Rel.c_pure rfl (.pointer (some ⟨p, 4, none⟩)) rfl (by decide) (hO 0 _ rfl) (by rfl) (fun w hC hd => ?_) ?_
      · clear hd hO; go_simp
      try simp only [Act.put, zT, z0, zS]
      refine Rel.c_pure rfl (.slice lb1 Lk.length lb2) rfl (by decide) (hO 1 _ rfl) (by rfl) (fun w hC hd => ?_) ?_
      · obtain ⟨y0, y1, y2, _⟩ := hcW.out w hC; clear hd hO; go_simp
      try simp only [Act.put, zT, z0, zS]
      refine Rel.c_pure rfl (.pointer (some ⟨xq, 0, none⟩)) rfl (by decide) (hO 2 _ rfl) (by rfl) (fun w hC hd => ?_) ?_
      · clear hd hO; go_simp
      try simp only [Act.put, zT, z0, zS]
      refine Rel.c_pure rfl (.int .i64 x.1) rfl (by decide) (hO 3 _ rfl) (by rfl) (fun w hC hd => ?_) ?_
      · obtain ⟨y0, y1, y2, _⟩ := hcW.out w hC; clear hd hO; go_simp
      try simp only [Act.put, zT, z0, zS]
      refine Rel.c_pure rfl (.pointer (some ⟨xq, 1, none⟩)) rfl (by decide) (hO 4 _ rfl) (by rfl) (fun w hC hd => ?_) ?_
      · clear hd hO; go_simp
      try simp only [Act.put, zT, z0, zS]
      refine Rel.c_pure rfl (.slice la1 x.2.length la2) rfl (by decide) (hO 5 _ rfl) (by rfl) (fun w hC hd => ?_) ?_
      · obtain ⟨y0, y1, y2, _⟩ := hcW.out w hC; clear hd hO; go_simp
      try simp only [Act.put, zT, z0, zS]
      refine Rel.c_rel rfl rfl (by decide) (by rfl) (fun wz hC hd => ?_) ?_
      · refine post_call Try.f60 rfl Try.func60 (by kernel_rfl) (by kernel_rfl) #[.slice la1 x.2.length la2] (by simp [Act.eval]) ((clone_any _ x.2 wz (hcW.out wz hC).2.2.2 hxk.out).mono ?_)
        rintro e w3 ⟨v, rfl, k2, k3⟩
        obtain ⟨f, c, rfl, _, _⟩ := OwnI.form k2
        exact ⟨_, rfl, k3, f, c, rfl, own_low k2 (Nat.le_trans hbase.out hC.size), fun bb hbb => Nat.le_trans hC.size (OwnI.base k2 bb hbb).1⟩
      try simp only [Act.put, zT, z0, zS]
      refine Rel.c_rel rfl rfl (by decide) (by rfl) (fun wz hC hd => ?_) ?_
      · obtain ⟨f, c, h1, h2, h3⟩ : ∃ f c, vals 6 = .slice f x.2.length c ∧ OwnI wz w.heap.size (vals 6) x.2 ∧ ∀ bb, (vals 6).ownBlock = some bb → wi.heap.size ≤ bb := hd 6 (by decide)
        rw [h1] at h2 h3
        refine post_value (.agg #[.int .i64 x.1, .slice f x.2.length c]) wz ?_ ⟨Below.refl _ _, _, _, rfl, h2, h3⟩
        rw [h1]
        clear hd hO h1 h2 h3; go_simp
      try simp only [Act.put, zT, z0, zS]
      refine Rel.c_rel rfl rfl (by decide) (by rfl) (fun wz hC hd => ?_) ?_
      · obtain ⟨f, c, h1, h2, h3⟩ : ∃ f c, vals 7 = .agg #[.int .i64 x.1, .slice f x.2.length c] ∧ OwnI wz w.heap.size (.slice f x.2.length c) x.2 ∧ ∀ bb, (Value.slice f x.2.length c).ownBlock = some bb → wi.heap.size ≤ bb := hd 7 (by decide)
        refine post_value (.slice (some ⟨wz.heap.size, 0, none⟩) 1 1) (wz.alloc (.cells #[.int .i64 x.1, .slice f x.2.length c] 54)) ?_ ⟨(Below.refl _ wz).alloc (Nat.le_refl _) _, _, _, _, rfl, heap_alloc_new wz _, own_below h2 ((Below.refl _ wz).alloc (Nat.le_refl _) _), h3⟩
        rw [h1]
        clear hd hO h1 h2 h3; go_simp
      try simp only [Act.put, zT, z0, zS]
      refine Rel.c_tail0 rfl rfl (by rfl) (fun wz hC hd => ?_) ?_
      · obtain ⟨q, f, c, h1, h2, h3, h4⟩ : ∃ q f c, vals 8 = .slice (some ⟨q, 0, none⟩) 1 1 ∧ wz.heap[q]? = some (.cells #[.int .i64 x.1, .slice f x.2.length c] 54 (0, 0)) ∧ OwnI wz w.heap.size (.slice f x.2.length c) x.2 ∧ ∀ bb, (Value.slice f x.2.length c).ownBlock = some bb → wi.heap.size ≤ bb := hd 8 (by decide)
        have hs := hsW.out wz hC
        obtain ⟨v', w', k1, k2, k3⟩ := snocNG wz w.heap.size q _ Lk x f c vs h2 hs h3 (fun b hb j u hu e => by
          have := hlt2.out j u hu b e
          have := h4 b hb
          omega) (by have := hln.out; omega) (Nat.le_trans hbase.out hC.size)
        obtain ⟨f2, c2, rfl⟩ := k2.NL.shape
        exact post_append (.tmp 62) (.tmp 69) 46 rfl (.slice lb1 Lk.length lb2) (.slice (some ⟨q, 0, none⟩) 1 1) rfl h1 _ w' k1 ⟨fun h => absurd h (by decide), f2, _, c2, fun _ => ⟨by simp [Rel.upd], (hVW.out wz hC).t.grown k3 (fun y hy => by
          obtain ⟨y1, cur, y2⟩ := own_row hs.row y hy
          exact ⟨y1, cur, y2⟩), own_apart (hNW.out wz hC) k3 (fun b hb e => by
          obtain ⟨_, cur, y1⟩ := own_row (hNW.out wz hC) b hb
          obtain ⟨_, cur2, y2⟩ := own_row hs.row b e
          exact absurd (two_types y1 y2) (by decide)), k2⟩, fun h => absurd h (by decide)⟩
      try simp only [Act.put, zT, z0, zS]
      refine Rel.c_tail rfl 9 rfl (by decide) (by rfl) (fun w hF => ?_) ?_
      · obtain ⟨_, f, m, c, h1, _⟩ := hF
        obtain ⟨h1, h2, h3, h4⟩ := h1 (by decide)
        refine post_value (.pointer (some ⟨p, 4, none⟩)) w ?_ ⟨fun _ => by simp [Rel.upd], f, m, c, fun _ => ⟨by simpa [Rel.upd] using h1, h2, h3, h4⟩, fun h => absurd h (by decide)⟩
        clear hO h1; go_simp
      try simp only [Act.put, zT, z0, zS]
      refine Rel.c_tail rfl 10 rfl (by decide) (by rfl) (fun w hF => ?_) ?_
      · obtain ⟨h0, f, m, c, h1, _⟩ := hF
        obtain ⟨h1, h2, h3, h4⟩ := h1 (by decide)
        have h0 := h0 rfl
        refine post_skip' (w.setCell ⟨p, 4, none⟩ (.slice f m c)) ?_ ⟨fun h => absurd h (by decide), f, m, c, fun h => absurd h (by decide), fun _ => ⟨h2.put _ h4, near_put h2 h3 _⟩⟩
        have f0 := frozen_of_row w p 4 _ _ h2.box
        have y0 : w.cell? ⟨p, 4, none⟩ = some (.slice lb1 Lk.length lb2) := by rw [cell_of_row _ _ _ _ _ _ h2.box]; rfl
        rw [h0, h1]
        clear hO h1 h2 h3 h4; go_simp
      try simp only [Act.put, zT, z0, zS]
      refine Rel.c_end ?_
      intro w3 hF
      obtain ⟨_, f, m, c, _, hF⟩ := hF
      have hV3 := Lib.hid (hF rfl)
      clear hF hO
      go_wp2_with fail
      go_roundg ga
      case measure => omega
      case rel => exact ⟨k + 1, _, hle.out, by go_num, by rw [hAk.out]; exact hV3.out⟩
    · have t1 : (x.1 == n) = false := by simpa using c1
      by_cases c2 : x.1 ∈ S
      · have hAk : Hid (A (k + 1) = A k ++ [x]) := by show _ = _; rw [hst.out]; simp [kpS, c2]
        rw [decide_eq_true c2] at hC
        clear c1 c2
        go_upto_region 10 with (go_at_call 36; refine hC.mono ?_; clear hC; rintro e w' ⟨rfl, rfl⟩)
        clear hst
        obtain ⟨vs, hvs⟩ := hV2.out.s.l
        have hcW := Lib.hid (fun W (q : Below wi.heap.size wi W) => (show W.cell? ⟨p, 4, none⟩ = some (.slice lb1 (A k).length lb2) ∧ W.cell? ⟨xq, 0, none⟩ = some (.int .i64 x.1) ∧ W.cell? ⟨xq, 1, none⟩ = some (.slice la1 x.2.length la2) ∧ DL W (.slice la1 x.2.length la2) x.2 from ⟨(hV2.out.s.below q).cells.2.2.2.2, by rw [cell_of_row _ _ _ _ _ _ ((q.block _ (Array.getElem?_eq_some_iff.1 hxq.out).1).trans hxq.out)]; rfl, by rw [cell_of_row _ _ _ _ _ _ ((q.block _ (Array.getElem?_eq_some_iff.1 hxq.out).1).trans hxq.out)]; rfl, cvW.out W q⟩))
        have hsW := Lib.hid (fun W (q : Below wi.heap.size wi W) => hvs.below q)
        have hlt2 := Lib.hid (fun (j : Nat) (u : Value) (hu : vs[j]? = some u) (b : Nat) (hb : u.ownBlock = some b) => hvs.lt j u hu b hb)
        have hVW := Lib.hid (fun W (q : Below wi.heap.size wi W) => hV2.out.s.below q)
        have hNW := Lib.hid (fun W (q : Below wi.heap.size wi W) => own_below hV2.out.n q)
        have hbase : Hid (w.heap.size ≤ wi.heap.size) := hV2.out.s.bel.size
        clear hvs cvW hV2 hxq hR
        generalize A k = Lk at *
        refine Rel.c_region (fun _ => false) wi [some (.pointer (some ⟨p, 4, none⟩)), some (.slice lb1 Lk.length lb2), some (.pointer (some ⟨xq, 0, none⟩)), some (.int .i64 x.1), some (.pointer (some ⟨xq, 1, none⟩)), some (.slice la1 x.2.length la2), none, none, none, none, none, none]
          (fun i v W => match i with
            | 6 => ∃ f c, v = .slice f x.2.length c ∧ OwnI W w.heap.size v x.2 ∧ ∀ bb, v.ownBlock = some bb → wi.heap.size ≤ bb
            | 7 => ∃ f c, v = .agg #[.int .i64 x.1, .slice f x.2.length c] ∧ OwnI W w.heap.size (.slice f x.2.length c) x.2 ∧ ∀ bb, (Value.slice f x.2.length c).ownBlock = some bb → wi.heap.size ≤ bb
            | 8 => ∃ q f c, v = .slice (some ⟨q, 0, none⟩) 1 1 ∧ W.heap[q]? = some (.cells #[.int .i64 x.1, .slice f x.2.length c] 54 (0, 0)) ∧ OwnI W w.heap.size (.slice f x.2.length c) x.2 ∧ ∀ bb, (Value.slice f x.2.length c).ownBlock = some bb → wi.heap.size ≤ bb
            | _ => True)
          (fun i vals W => (i = 10 → vals 10 = .pointer (some ⟨p, 4, none⟩)) ∧ ∃ f m c, (i ≤ 10 → vals 9 = .slice f m c ∧ VT w r p (.int .i64 i0) (.int .i64 s0) (.slice d1 d2 d3) (.slice e1 M e2) (.slice lb1 Lk.length lb2) ds es W ∧ OwnI W w.heap.size nv S ∧ OwnN W w.heap.size (.slice f m c) (Lk ++ [x])) ∧ (i = 11 → VN w r p (.int .i64 i0) (.int .i64 s0) (.slice d1 d2 d3) (.slice e1 M e2) (.slice f m c) nv ds es S (Lk ++ [x]) W)) 9 (by kernel_rfl) (by kernel_rfl) (fun i hi => by cases hi)
          (fun j hj => by simp only [List.getD_eq_getElem?_getD]; rcases Nat.lt_or_ge j 12 with h | h; (obtain rfl | rfl | rfl : j = 9 ∨ j = 10 ∨ j = 11 := by omega); rfl; rfl; rfl; rw [List.getElem?_eq_none (by simp; omega)]; rfl) (by decide) (fun i v W W' h Bl => by
            split at h
            · obtain ⟨f, c, h1, h2, h3⟩ := h; exact ⟨f, c, h1, own_below h2 Bl, h3⟩
            · obtain ⟨f, c, h1, h2, h3⟩ := h; exact ⟨f, c, h1, own_below h2 Bl, h3⟩
            · obtain ⟨q, f, c, h1, h2, h3, h4⟩ := h; exact ⟨q, f, c, h1, (Bl.block _ (Array.getElem?_eq_some_iff.1 h2).1).trans h2, own_below h3 Bl, h4⟩
            · exact trivial) ((Below.refl _ wi).drew) (fun vals hO => ?_)
        refine Rel.c_pure rfl (.pointer (some ⟨p, 4, none⟩)) rfl (by decide) (hO 0 _ rfl) (by rfl) (fun w hC hd => ?_) ?_
        · clear hd hO; go_simp
        try simp only [Act.put, zT, z0, zS]
        refine Rel.c_pure rfl (.slice lb1 Lk.length lb2) rfl (by decide) (hO 1 _ rfl) (by rfl) (fun w hC hd => ?_) ?_
        · obtain ⟨y0, y1, y2, _⟩ := hcW.out w hC; clear hd hO; go_simp
        try simp only [Act.put, zT, z0, zS]
        refine Rel.c_pure rfl (.pointer (some ⟨xq, 0, none⟩)) rfl (by decide) (hO 2 _ rfl) (by rfl) (fun w hC hd => ?_) ?_
        · clear hd hO; go_simp
        try simp only [Act.put, zT, z0, zS]
        refine Rel.c_pure rfl (.int .i64 x.1) rfl (by decide) (hO 3 _ rfl) (by rfl) (fun w hC hd => ?_) ?_
        · obtain ⟨y0, y1, y2, _⟩ := hcW.out w hC; clear hd hO; go_simp
        try simp only [Act.put, zT, z0, zS]
        refine Rel.c_pure rfl (.pointer (some ⟨xq, 1, none⟩)) rfl (by decide) (hO 4 _ rfl) (by rfl) (fun w hC hd => ?_) ?_
        · clear hd hO; go_simp
        try simp only [Act.put, zT, z0, zS]
        refine Rel.c_pure rfl (.slice la1 x.2.length la2) rfl (by decide) (hO 5 _ rfl) (by rfl) (fun w hC hd => ?_) ?_
        · obtain ⟨y0, y1, y2, _⟩ := hcW.out w hC; clear hd hO; go_simp
        try simp only [Act.put, zT, z0, zS]
        refine Rel.c_rel rfl rfl (by decide) (by rfl) (fun wz hC hd => ?_) ?_
        · refine post_call Try.f60 rfl Try.func60 (by kernel_rfl) (by kernel_rfl) #[.slice la1 x.2.length la2] (by simp [Act.eval]) ((clone_any _ x.2 wz (hcW.out wz hC).2.2.2 hxk.out).mono ?_)
          rintro e w3 ⟨v, rfl, k2, k3⟩
          obtain ⟨f, c, rfl, _, _⟩ := OwnI.form k2
          exact ⟨_, rfl, k3, f, c, rfl, own_low k2 (Nat.le_trans hbase.out hC.size), fun bb hbb => Nat.le_trans hC.size (OwnI.base k2 bb hbb).1⟩
        try simp only [Act.put, zT, z0, zS]
        refine Rel.c_rel rfl rfl (by decide) (by rfl) (fun wz hC hd => ?_) ?_
        · obtain ⟨f, c, h1, h2, h3⟩ : ∃ f c, vals 6 = .slice f x.2.length c ∧ OwnI wz w.heap.size (vals 6) x.2 ∧ ∀ bb, (vals 6).ownBlock = some bb → wi.heap.size ≤ bb := hd 6 (by decide)
          rw [h1] at h2 h3
          refine post_value (.agg #[.int .i64 x.1, .slice f x.2.length c]) wz ?_ ⟨Below.refl _ _, _, _, rfl, h2, h3⟩
          rw [h1]
          clear hd hO h1 h2 h3; go_simp
        try simp only [Act.put, zT, z0, zS]
        refine Rel.c_rel rfl rfl (by decide) (by rfl) (fun wz hC hd => ?_) ?_
        · obtain ⟨f, c, h1, h2, h3⟩ : ∃ f c, vals 7 = .agg #[.int .i64 x.1, .slice f x.2.length c] ∧ OwnI wz w.heap.size (.slice f x.2.length c) x.2 ∧ ∀ bb, (Value.slice f x.2.length c).ownBlock = some bb → wi.heap.size ≤ bb := hd 7 (by decide)
          refine post_value (.slice (some ⟨wz.heap.size, 0, none⟩) 1 1) (wz.alloc (.cells #[.int .i64 x.1, .slice f x.2.length c] 54)) ?_ ⟨(Below.refl _ wz).alloc (Nat.le_refl _) _, _, _, _, rfl, heap_alloc_new wz _, own_below h2 ((Below.refl _ wz).alloc (Nat.le_refl _) _), h3⟩
          rw [h1]
          clear hd hO h1 h2 h3; go_simp
        try simp only [Act.put, zT, z0, zS]
        refine Rel.c_tail0 rfl rfl (by rfl) (fun wz hC hd => ?_) ?_
        · obtain ⟨q, f, c, h1, h2, h3, h4⟩ : ∃ q f c, vals 8 = .slice (some ⟨q, 0, none⟩) 1 1 ∧ wz.heap[q]? = some (.cells #[.int .i64 x.1, .slice f x.2.length c] 54 (0, 0)) ∧ OwnI wz w.heap.size (.slice f x.2.length c) x.2 ∧ ∀ bb, (Value.slice f x.2.length c).ownBlock = some bb → wi.heap.size ≤ bb := hd 8 (by decide)
          have hs := hsW.out wz hC
          obtain ⟨v', w', k1, k2, k3⟩ := snocNG wz w.heap.size q _ Lk x f c vs h2 hs h3 (fun b hb j u hu e => by
            have := hlt2.out j u hu b e
            have := h4 b hb
            omega) (by have := hln.out; omega) (Nat.le_trans hbase.out hC.size)
          obtain ⟨f2, c2, rfl⟩ := k2.NL.shape
          exact post_append (.tmp 62) (.tmp 69) 46 rfl (.slice lb1 Lk.length lb2) (.slice (some ⟨q, 0, none⟩) 1 1) rfl h1 _ w' k1 ⟨fun h => absurd h (by decide), f2, _, c2, fun _ => ⟨by simp [Rel.upd], (hVW.out wz hC).t.grown k3 (fun y hy => by
            obtain ⟨y1, cur, y2⟩ := own_row hs.row y hy
            exact ⟨y1, cur, y2⟩), own_apart (hNW.out wz hC) k3 (fun b hb e => by
            obtain ⟨_, cur, y1⟩ := own_row (hNW.out wz hC) b hb
            obtain ⟨_, cur2, y2⟩ := own_row hs.row b e
            exact absurd (two_types y1 y2) (by decide)), k2⟩, fun h => absurd h (by decide)⟩
        try simp only [Act.put, zT, z0, zS]
        refine Rel.c_tail rfl 9 rfl (by decide) (by rfl) (fun w hF => ?_) ?_
        · obtain ⟨_, f, m, c, h1, _⟩ := hF
          obtain ⟨h1, h2, h3, h4⟩ := h1 (by decide)
          refine post_value (.pointer (some ⟨p, 4, none⟩)) w ?_ ⟨fun _ => by simp [Rel.upd], f, m, c, fun _ => ⟨by simpa [Rel.upd] using h1, h2, h3, h4⟩, fun h => absurd h (by decide)⟩
          clear hO h1; go_simp
        try simp only [Act.put, zT, z0, zS]
        refine Rel.c_tail rfl 10 rfl (by decide) (by rfl) (fun w hF => ?_) ?_
        · obtain ⟨h0, f, m, c, h1, _⟩ := hF
          obtain ⟨h1, h2, h3, h4⟩ := h1 (by decide)
          have h0 := h0 rfl
          refine post_skip' (w.setCell ⟨p, 4, none⟩ (.slice f m c)) ?_ ⟨fun h => absurd h (by decide), f, m, c, fun h => absurd h (by decide), fun _ => ⟨h2.put _ h4, near_put h2 h3 _⟩⟩
          have f0 := frozen_of_row w p 4 _ _ h2.box
          have y0 : w.cell? ⟨p, 4, none⟩ = some (.slice lb1 Lk.length lb2) := by rw [cell_of_row _ _ _ _ _ _ h2.box]; rfl
          rw [h0, h1]
          clear hO h1 h2 h3 h4; go_simp
        try simp only [Act.put, zT, z0, zS]
        refine Rel.c_end ?_
        intro w3 hF
        obtain ⟨_, f, m, c, _, hF⟩ := hF
        have hV3 := Lib.hid (hF rfl)
        clear hF hO
        go_wp2_with fail
        go_roundg ga
        case measure => omega
        case rel => exact ⟨k + 1, _, hle.out, by go_num, by rw [hAk.out]; exact hV3.out⟩
      · have hAk : Hid (A (k + 1) = A k) := by show _ = _; rw [hst.out]; simp [kpS, c1, c2]
        rw [decide_eq_false c2] at hC
        clear c1 c2 hst
        go_wp2_with (go_at_call 36; refine hC.mono ?_; clear hC; rintro e w' ⟨rfl, rfl⟩)
        go_roundg ga
        case measure => omega
        case rel => exact ⟨k + 1, _, hle.out, by go_num, by rw [hAk.out]; exact hV2.out⟩

end Go.Proofs.Ythmkmjkbfjhffaa
/- Contracts and facts. -/
set_option linter.unusedSimpArgs false
set_option maxRecDepth 100000
set_option maxHeartbeats 4000000
namespace Go.Proofs.Ythmkmjkbfjhffaa
open Go.RowKit

def vwOk (g : Gr) (L : List Nm) (id : Int) : Bool := decide (id ∈ keysV g.vs) && (g.ok && vlabF (-1) L)
def VwR (w : World) (g : Gr) (L : List Nm) (id : Int) (e : Ending) (w' : World) : Prop :=
  if vwOk g L id = true then VW w (.int .i64 (vtxF g.vs id).id) (.int .i64 (vtxF g.vs id).side) g.ds (atF g.es id) (L.filter (keepV id (atF g.es id))) e w'
  else e = .returned (.tuple #[.agg #[.int .i64 0, .int .i64 0, .slice none 0 0, .slice none 0 0, .slice none 0 0], .int .i64 60]) ∧ Below w.heap.size w w'
theorem atF_atF (es : List Ed) (id : Int) : atF (atF es id) id = atF es id := by
  unfold atF; rw [List.filter_filter]; congr 1; funext e; simp
theorem keep_kp (es : List Ed) (id : Int) (S : List Int) (h : ∀ x, x ∈ S ↔ x ≠ id ∧ x ∈ nearL (atF es id) id) : kpS id S = keepV id (atF es id) := by
  funext x
  unfold kpS keepV
  rw [Bool.eq_iff_iff, Bool.or_eq_true, Bool.or_eq_true, decide_eq_true_iff, h, List.any_eq_true]
  unfold nearL
  rw [atF_atF, List.mem_map]
  constructor
  · rintro (h | ⟨_, e, he, h2⟩)
    · exact .inl h
    · exact .inr ⟨e, he, by simpa using h2⟩
  · rintro (h | ⟨e, he, h2⟩)
    · exact .inl h
    · by_cases hx : x.1 = id
      · exact .inl (by simpa using hx)
      · exact .inr ⟨hx, e, he, by simpa using h2⟩
theorem other_i64 (e : Ed) (id : Int) (h : i64B e.src ∧ i64B e.dst) : i64B (otherI e id) := by
  unfold otherI
  split
  · exact h.2
  · split
    · exact h.1
    · exact ⟨by omega, by omega⟩
set_option maxRecDepth 1000000 in
set_option maxHeartbeats 8000000 in
theorem PageView_any (v lv : Value) (g : Gr) (L : List Nm) (n : Int) (w : World) (hv : GV w v g) (hL : NL w lv L) (hV : g.vs.length ≤ 1000000) (hE : g.es.length ≤ 1000000) (hD : g.ds.length ≤ 1000000) (hLn : L.length ≤ 1000000) (hLx : ∀ x ∈ L, x.2.length ≤ 1000000) (hni : i64B n) (hei : ∀ e ∈ g.es, i64B e.src ∧ i64B e.dst) :
    Calls Try.prog 43 #[v, lv, .int .i64 n] w fun e w' => VwR w g L n e w' := by
  obtain ⟨a1, a2, b1, b2, c1v, c2, rfl, hv1, hv2, hv3⟩ := gv_shape hv
  obtain ⟨la, lc, rfl⟩ := hL.shape
  obtain ⟨w1, hw1⟩ : ∃ w1, w1 = (w.alloc (.cells #[.slice a1 g.vs.length a2, .slice b1 g.es.length b2, .slice c1v g.ds.length c2] 28)).alloc (.cells #[.int .i64 0, .int .i64 0, .slice none 0 0, .slice none 0 0, .slice none 0 0] 51) := ⟨_, rfl⟩
  have B0 : Below w.heap.size w w1 := by rw [hw1]; exact ((Below.refl _ w).alloc (Nat.le_refl _) _).alloc (by simp) _
  have hs1 : w1.heap.size = w.heap.size + 2 := by rw [hw1]; simp
  have gb : w1.heap[w.heap.size]? = some (.cells #[.slice a1 g.vs.length a2, .slice b1 g.es.length b2, .slice c1v g.ds.length c2] 28 (0, 0)) := by rw [hw1]; exact al_keep1 (heap_alloc_new w _)
  have rb : w1.heap[w.heap.size + 1]? = some (.cells #[.int .i64 0, .int .i64 0, .slice none 0 0, .slice none 0 0, .slice none 0 0] 51 (0, 0)) := by rw [hw1]; have := heap_alloc_new (w.alloc (.cells #[.slice a1 g.vs.length a2, .slice b1 g.es.length b2, .slice c1v g.ds.length c2] 28)) (.cells #[.int .i64 0, .int .i64 0, .slice none 0 0, .slice none 0 0, .slice none 0 0] 51); simpa using this
  have hG := Lib.hid (fun W (q : Below w1.heap.size w1 W) => box3g ((q.block _ (show w.heap.size < w1.heap.size by omega)).trans gb))
  have hGV := Lib.hid (fun W (q : Below w1.heap.size w1 W) => (hv.below B0).below q)
  have hDs := Lib.hid (fun W (q : Below w1.heap.size w1 W) => (hv3.below B0).below q)
  have hLW := Lib.hid (fun W (q : Below w1.heap.size w1 W) => (hL.below B0).below q)
  have hB0 := Lib.hid B0
  have hsz0 := Lib.hid (Nat.le_of_eq hs1.symm)
  have hrb := Lib.hid (fun W (q : Below w1.heap.size w1 W) => (q.block _ (show w.heap.size + 1 < w1.heap.size by omega)).trans rb)
  have hvx := Lib.hid (fun W (q : Below w1.heap.size w1 W) => vertex_any _ g n W (hGV.out W q) hV)
  have hva := Lib.hid (fun W (q : Below w1.heap.size w1 W) => Valid_any _ g W (hGV.out W q) ⟨by omega, by omega, by omega⟩)
  have hvl := Lib.hid (fun W (q : Below w1.heap.size w1 W) => validLabels_any _ L W (hLW.out W q) hLn (fun x hx => Nat.le_trans (hLx x hx) (by omega)))
  have hcl := Lib.hid (fun W (q : Below w1.heap.size w1 W) => clone_any _ g.ds W (hDs.out W q) hD)
  have hAt := Lib.hid (fun W (q : Below w1.heap.size w1 W) => At_own _ g n W (hGV.out W q) (by omega))
  have hEn := Lib.hid (show (atF g.es n).length ≤ 1000000 from Nat.le_trans (List.length_filter_le _ _) hE)
  have hnb := Lib.hid (fun W v (q : EL W v (atF g.es n)) => Neighbours_any v n (atF g.es n) W q (Nat.le_trans hEn.out (by omega)) hni (fun e he => other_i64 e n (hei e (List.mem_filter.1 he).1)))
  have hres := Lib.hid (fun W (q : Below w1.heap.size w1 W) => (show Below w.heap.size w (W.setRow (w.heap.size + 1) #[.int .i64 0, .int .i64 0, .slice none 0 0, .slice none 0 0, .slice none 0 0]) from below_setRowL (B0.trans (q.mono B0.size)) (by omega) _))
  replace hw1 := Lib.hid hw1
  have hL2 := Lib.hid hL
  have hLx2 := Lib.hid hLx
  obtain ⟨vx, hvxe⟩ : ∃ x, Hid (x = vtxF g.vs n) := ⟨_, rfl⟩
  obtain ⟨k1, hk1⟩ : ∃ x, Hid (x = decide (n ∈ keysV g.vs)) := ⟨_, rfl⟩
  obtain ⟨k2, hk2⟩ : ∃ x, Hid (x = g.ok) := ⟨_, rfl⟩
  obtain ⟨k3, hk3⟩ : ∃ x, Hid (x = vlabF (-1) L) := ⟨_, rfl⟩
  have hR : VwR w g L n = fun e w' => if (k1 && (k2 && k3)) = true then VW w (.int .i64 vx.id) (.int .i64 vx.side) g.ds (atF g.es n) (L.filter (keepV n (atF g.es n))) e w'
    else e = .returned (.tuple #[.agg #[.int .i64 0, .int .i64 0, .slice none 0 0, .slice none 0 0, .slice none 0 0], .int .i64 60]) ∧ Below w.heap.size w w' := by
    funext e w'; unfold VwR vwOk; rw [hvxe.out, hk1.out, hk2.out, hk3.out]
  rw [hR]
  rw [← hvxe.out, ← hk1.out] at hvx
  rw [← hk2.out] at hva
  rw [← hk3.out] at hvl
  clear rb gb hvxe hk1 hk2 hk3 hR hv hv1 hv2 hv3 hL hLx hei hni hs1 B0
  obtain ⟨g0, g1, g2⟩ := hG.out w1 (Below.refl _ _)
  go_enter Try.func43, Try.ntmps43
  go_upto_region 1 with (fail)
  rw [← hw1.out]
  have hvx0 := hvx.out w1 (Below.refl _ _)
  clear hvx
  have keepB : ∀ (w2 : World), Below w1.heap.size w1 w2 → Hid (Below w1.heap.size w1 (w2.alloc (.cells #[.int .i64 vx.id, .int .i64 vx.side] 31))) := fun w2 q => Lib.hid (q.alloc q.size _)
  have hmk := Lib.hid (fun (w2 : World) (q : Below w1.heap.size w1 w2) => (show (w2.alloc (.cells #[.int .i64 vx.id, .int .i64 vx.side] 31)).heap[w2.heap.size]? = some (.cells #[.int .i64 vx.id, .int .i64 vx.side] 31 (0, 0)) from heap_alloc_new w2 _))
  cases k1 with
  | false =>
    clear hva hvl hcl hAt hnb hmk
    go_upto_region 3 with (go_at_call 58; refine hvx0.mono ?_; clear hvx0; rintro e w2 ⟨rfl, q2⟩; have hq3 := keepB w2 q2; clear keepB q2)
    generalize w2.alloc (.cells #[.int .i64 vx.id, .int .i64 vx.side] 31) = w3 at *
    have rr := hrb.out w3 hq3.out
    go_wp2_with (refine wpList_store_row rfl 51 (.tmp 6) (.tmp 32) rfl (w.heap.size + 1) #[.int .i64 0, .int .i64 0, .slice none 0 0, .slice none 0 0, .slice none 0 0] rfl rfl 51 _ rr (info51 _ _ _ _ _) rfl (by simp [Value.oneCell']) ?_)
    refine bodyPost_ret (results_cell_tmp1_row (fn := Try.f43) rfl _ _ (w.heap.size + 1) 51 #[.int .i64 0, .int .i64 0, .slice none 0 0, .slice none 0 0, .slice none 0 0] (0, 0) _ _ rfl rfl (setRow_heap _ _ _ _ _ _ rr) Try.underlying51 rfl (info51 _ _ _ _ _)) rfl ?_
    exact ⟨rfl, hres.out w3 hq3.out⟩
  | true =>
  cases k2 with
  | false =>
    clear hvl hcl hAt hnb hmk
    go_upto_region 2 with (go_at_call 58; refine hvx0.mono ?_; clear hvx0; rintro e w2 ⟨rfl, q2⟩; have hq3 := keepB w2 q2; clear keepB q2)
    generalize w2.alloc (.cells #[.int .i64 vx.id, .int .i64 vx.side] 31) = w3 at *
    obtain ⟨y0, y1, y2⟩ := hG.out w3 hq3.out
    have hva0 := hva.out w3 hq3.out
    go_upto_region 3 with (go_at_call 39; refine hva0.mono ?_; clear hva0; rintro e w4 ⟨rfl, q4⟩)
    have hq4 := Lib.hid (hq3.out.trans (q4.mono hq3.out.size))
    have rr := hrb.out w4 hq4.out
    clear y0 y1 y2 g0 g1 g2
    go_wp2_with (refine wpList_store_row rfl 51 (.tmp 6) (.tmp 32) rfl (w.heap.size + 1) #[.int .i64 0, .int .i64 0, .slice none 0 0, .slice none 0 0, .slice none 0 0] rfl rfl 51 _ rr (info51 _ _ _ _ _) rfl (by simp [Value.oneCell']) ?_)
    refine bodyPost_ret (results_cell_tmp1_row (fn := Try.f43) rfl _ _ (w.heap.size + 1) 51 #[.int .i64 0, .int .i64 0, .slice none 0 0, .slice none 0 0, .slice none 0 0] (0, 0) _ _ rfl rfl (setRow_heap _ _ _ _ _ _ rr) Try.underlying51 rfl (info51 _ _ _ _ _)) rfl ?_
    exact ⟨rfl, hres.out w4 hq4.out⟩
  | true =>
  go_upto_region 2 with (go_at_call 58; refine hvx0.mono ?_; clear hvx0; rintro e w2 ⟨rfl, q2⟩; have hq3 := keepB w2 q2; have hm3 := Lib.hid (hmk.out w2 q2); have hz3 := Lib.hid q2.size; clear keepB q2 hmk)
  generalize w2.alloc (.cells #[.int .i64 vx.id, .int .i64 vx.side] 31) = w3 at *
  generalize w2.heap.size = vq at *
  obtain ⟨y0, y1, y2⟩ := hG.out w3 hq3.out
  have hva0 := hva.out w3 hq3.out
  clear g0 g1 g2 hva
  cases k3 with
  | false =>
    clear hcl hAt hnb
    go_upto_region 3 with (first
      | (go_at_call 39; refine hva0.mono ?_; clear hva0; rintro e w4 ⟨rfl, q4⟩; have hq4 := Lib.hid (hq3.out.trans (q4.mono hq3.out.size)); have hvl0 := hvl.out w4 hq4.out; clear q4)
      | (go_at_call 59; refine hvl0.mono ?_; clear hvl0; rintro e w5 ⟨rfl, q5⟩; have hq5 := Lib.hid (hq4.out.trans (q5.mono hq4.out.size)); clear q5))
    have rr := hrb.out w5 hq5.out
    clear y0 y1 y2
    go_wp2_with (refine wpList_store_row rfl 51 (.tmp 6) (.tmp 32) rfl (w.heap.size + 1) #[.int .i64 0, .int .i64 0, .slice none 0 0, .slice none 0 0, .slice none 0 0] rfl rfl 51 _ rr (info51 _ _ _ _ _) rfl (by simp [Value.oneCell']) ?_)
    refine bodyPost_ret (results_cell_tmp1_row (fn := Try.f43) rfl _ _ (w.heap.size + 1) 51 #[.int .i64 0, .int .i64 0, .slice none 0 0, .slice none 0 0, .slice none 0 0] (0, 0) _ _ rfl rfl (setRow_heap _ _ _ _ _ _ rr) Try.underlying51 rfl (info51 _ _ _ _ _)) rfl ?_
    exact ⟨rfl, hres.out w5 hq5.out⟩
  | true =>
  go_upto_region 4 with (first
    | (go_at_call 39; refine hva0.mono ?_; clear hva0; rintro e w4 ⟨rfl, q4⟩; have hq4 := Lib.hid (hq3.out.trans (q4.mono hq3.out.size)); have hb4 := Lib.hid q4; have hvl0 := hvl.out w4 hq4.out; clear q4)
    | (go_at_call 59; refine hvl0.mono ?_; clear hvl0; rintro e w5 ⟨rfl, q5⟩; have hq5 := Lib.hid (hq4.out.trans (q5.mono hq4.out.size)); have hb5 := Lib.hid (hb4.out.trans (q5.mono hb4.out.size)); clear q5))
  clear y0 y1 y2 hvl
  have hG2 := Lib.hid (fun W (q : Below w5.heap.size w5 W) => hG.out W (hq5.out.trans (q.mono hq5.out.size)))
  have hM2 := Lib.hid (fun W (q : Below w5.heap.size w5 W) => (show W.heap[vq]? = some (.cells #[.int .i64 vx.id, .int .i64 vx.side] 31 (0, 0)) from ((hb5.out.trans (q.mono hb5.out.size)).block _ (Array.getElem?_eq_some_iff.1 hm3.out).1).trans hm3.out))
  have hV2 := Lib.hid (fun W (q : Below w5.heap.size w5 W) => (show W.cell? ⟨vq, 0, none⟩ = some (.int .i64 vx.id) ∧ W.cell? ⟨vq, 1, none⟩ = some (.int .i64 vx.side) from ⟨by rw [cell_of_row _ _ _ _ _ _ (hM2.out W q)]; rfl, by rw [cell_of_row _ _ _ _ _ _ (hM2.out W q)]; rfl⟩))
  have hcl2 := Lib.hid (fun W (q : Below w5.heap.size w5 W) => hcl.out W (hq5.out.trans (q.mono hq5.out.size)))
  have hAt2 := Lib.hid (fun W (q : Below w5.heap.size w5 W) => hAt.out W (hq5.out.trans (q.mono hq5.out.size)))
  clear hcl hAt hb4 hb5 hM2 hm3
  refine Rel.c_region (fun _ => false) w5 [some (.agg #[.int .i64 vx.id, .int .i64 vx.side]), some (.pointer (some ⟨w.heap.size, 2, none⟩)), some (.slice c1v g.ds.length c2), none, some (.agg #[.slice a1 g.vs.length a2, .slice b1 g.es.length b2, .slice c1v g.ds.length c2]), some (.int .i64 n), none, none, none, none]
    (fun i v W => match i with
      | 3 => DO W w5.heap.size v g.ds
      | 6 => OwnEd W w5.heap.size v (atF g.es n)
      | 7 => ∃ dv ev, v = .agg #[.int .i64 vx.id, .int .i64 vx.side, dv, ev, .slice none 0 0] ∧ DO W w5.heap.size dv g.ds ∧ OwnEd W w5.heap.size ev (atF g.es n)
      | 8 => ∃ p x0 x1 x2 x3 x4, v = .pointer (some ⟨p, 0, none⟩) ∧ W.heap[p]? = some (.cells #[x0, x1, x2, x3, x4] 51 (0, 0)) ∧ w5.heap.size ≤ p
      | _ => True)
    (fun _ vals W => ∃ p dv ev, vals 8 = .pointer (some ⟨p, 0, none⟩) ∧ W.heap[p]? = some (.cells #[.int .i64 vx.id, .int .i64 vx.side, dv, ev, .slice none 0 0] 51 (0, 0)) ∧ w5.heap.size ≤ p ∧ DO W w5.heap.size dv g.ds ∧ OwnEd W w5.heap.size ev (atF g.es n) ∧ Below w5.heap.size w5 W) 9 (by kernel_rfl) (by kernel_rfl) (fun i hi => by cases hi)
    (fun j hj => by simp only [List.getD_eq_getElem?_getD]; rcases Nat.eq_or_lt_of_le hj with rfl | hj2; rfl; rw [List.getElem?_eq_none (by simp; omega)]; rfl) (by decide) (fun i v W W' h Bl => by
      split at h
      · exact DO.below h Bl
      · exact own_below h Bl
      · obtain ⟨dv, ev, h1, h2, h3⟩ := h; exact ⟨dv, ev, h1, h2.below Bl, own_below h3 Bl⟩
      · obtain ⟨p, x0, x1, x2, x3, x4, h1, h2, h3⟩ := h; exact ⟨p, x0, x1, x2, x3, x4, h1, (Bl.block _ (Array.getElem?_eq_some_iff.1 h2).1).trans h2, h3⟩
      · exact trivial) ((Below.refl _ w5).drew) (fun vals hO => ?_)
  refine Rel.c_pure rfl (.agg #[.int .i64 vx.id, .int .i64 vx.side]) rfl (by decide) (hO 0 _ rfl) (by rfl) (fun w hC hd => ?_) ?_
  · obtain ⟨y0, y1⟩ := hV2.out w hC; clear hd hO; go_simp
  try simp only [Act.put, zT, z0, zS]
  refine Rel.c_pure rfl (.pointer (some ⟨w.heap.size, 2, none⟩)) rfl (by decide) (hO 1 _ rfl) (by rfl) (fun w hC hd => ?_) ?_
  · clear hd hO; go_simp
  try simp only [Act.put, zT, z0, zS]
  refine Rel.c_pure rfl (.slice c1v g.ds.length c2) rfl (by decide) (hO 2 _ rfl) (by rfl) (fun w hC hd => ?_) ?_
  · obtain ⟨y0, y1, y2⟩ := hG2.out w hC; clear hd hO; go_simp
  try simp only [Act.put, zT, z0, zS]
  refine Rel.c_rel rfl rfl (by decide) (by rfl) (fun w hC hd => ?_) ?_
  · refine post_call Try.f60 rfl Try.func60 (by kernel_rfl) (by kernel_rfl) #[.slice c1v g.ds.length c2] (by simp [Act.eval]) ((hcl2.out w hC).mono ?_)
    rintro e w3 ⟨x, rfl, hx, bx⟩
    exact ⟨x, rfl, bx, .inr (own_low hx hC.size)⟩
  try simp only [Act.put, zT, z0, zS]
  refine Rel.c_pure rfl (.agg #[.slice a1 g.vs.length a2, .slice b1 g.es.length b2, .slice c1v g.ds.length c2]) rfl (by decide) (hO 4 _ rfl) (by rfl) (fun w hC hd => ?_) ?_
  · obtain ⟨y0, y1, y2⟩ := hG2.out w hC; clear hd hO; go_simp
  try simp only [Act.put, zT, z0, zS]
  refine Rel.c_pure rfl (.int .i64 n) rfl (by decide) (hO 5 _ rfl) (by rfl) (fun w hC hd => ?_) ?_
  · clear hd hO; go_simp
  try simp only [Act.put, zT, z0, zS]
  refine Rel.c_rel rfl rfl (by decide) (by rfl) (fun w hC hd => ?_) ?_
  · refine post_call Try.f12 rfl Try.func12 (by kernel_rfl) (by kernel_rfl) #[.agg #[.slice a1 g.vs.length a2, .slice b1 g.es.length b2, .slice c1v g.ds.length c2], .int .i64 n] (by simp [Act.eval]) ((hAt2.out w hC).mono ?_)
    rintro e w3 ⟨x, rfl, hx, bx⟩
    exact ⟨x, rfl, bx, own_mono hx hC.size⟩
  try simp only [Act.put, zT, z0, zS]
  refine Rel.c_rel rfl rfl (by decide) (by rfl) (fun w hC hd => ?_) ?_
  · have h3 : DO w w5.heap.size (vals 3) g.ds := hd 3 (by decide)
    have h6 : OwnEd w w5.heap.size (vals 6) (atF g.es n) := hd 6 (by decide)
    refine post_value (.agg #[.int .i64 vx.id, .int .i64 vx.side, vals 3, vals 6, .slice none 0 0]) w ?_ ⟨Below.refl _ _, _, _, rfl, h3, h6⟩
    obtain ⟨x3, y3, e3⟩ := h3.DL.shape
    obtain ⟨x6, y6, e6⟩ := (OwnEd.EL h6).shape
    clear hd hO
    rw [e3, e6]
    go_simp
  try simp only [Act.put, zT, z0, zS]
  refine Rel.c_rel rfl rfl (by decide) (by rfl) (fun w hC hd => ?_) ?_
  · refine post_value (.pointer (some ⟨w.heap.size, 0, none⟩)) (w.alloc (.cells #[.int .i64 0, .int .i64 0, .slice none 0 0, .slice none 0 0, .slice none 0 0] 51)) ?_ ⟨(Below.refl _ w).alloc (Nat.le_refl _) _, _, _, _, _, _, _, rfl, heap_alloc_new w _, hC.size⟩
    clear hd hO; go_simp
  try simp only [Act.put, zT, z0, zS]
  refine Rel.c_tail0 rfl rfl (by rfl) (fun w hC hd => ?_) ?_
  · obtain ⟨p, x0, x1, x2, x3, x4, h1, h2, h3⟩ : ∃ p x0 x1 x2 x3 x4, vals 8 = .pointer (some ⟨p, 0, none⟩) ∧ w.heap[p]? = some (.cells #[x0, x1, x2, x3, x4] 51 (0, 0)) ∧ w5.heap.size ≤ p := hd 8 (by decide)
    obtain ⟨dv, ev, h7, h8, h9⟩ : ∃ dv ev, vals 7 = .agg #[.int .i64 vx.id, .int .i64 vx.side, dv, ev, .slice none 0 0] ∧ DO w w5.heap.size dv g.ds ∧ OwnEd w w5.heap.size ev (atF g.es n) := hd 7 (by decide)
    have f0 := frozen_of_row w p 0 _ _ h2
    have f1 := frozen_of_row w p 1 _ _ h2
    have f2 := frozen_of_row w p 2 _ _ h2
    have f3 := frozen_of_row w p 3 _ _ h2
    have f4 := frozen_of_row w p 4 _ _ h2
    have y0 : w.cell? ⟨p, 0, none⟩ = some x0 := by rw [cell_of_row _ _ _ _ _ _ h2]; rfl
    have y1 : w.cell? ⟨p, 1, none⟩ = some x1 := by rw [cell_of_row _ _ _ _ _ _ h2]; rfl
    have y2 : w.cell? ⟨p, 2, none⟩ = some x2 := by rw [cell_of_row _ _ _ _ _ _ h2]; rfl
    have y3 : w.cell? ⟨p, 3, none⟩ = some x3 := by rw [cell_of_row _ _ _ _ _ _ h2]; rfl
    have y4 : w.cell? ⟨p, 4, none⟩ = some x4 := by rw [cell_of_row _ _ _ _ _ _ h2]; rfl
    have hh := Lib.hid (And.intro h8 (And.intro h9 (And.intro hC (And.intro h2 h3))))
    have hv8 := Lib.hid h1
    rw [h1, h7]
    obtain ⟨k3, m3, e3⟩ := h8.DL.shape
    obtain ⟨k6, m6, e6⟩ := (OwnEd.EL h9).shape
    subst e3 e6
    refine post_skip' (((((w.setCell ⟨p, 0, none⟩ (.int .i64 vx.id)).setCell ⟨p, 1, none⟩ (.int .i64 vx.side)).setCell ⟨p, 2, none⟩ _).setCell ⟨p, 3, none⟩ _).setCell ⟨p, 4, none⟩ (.slice none 0 0)) ?_ ⟨p, _, _, by have := hv8.out; simpa [Rel.upd] using this, five_set w p _ _ _ _ _ 51 _ _ _ _ _ hh.out.2.2.2.1, hh.out.2.2.2.2, DO5 hh.out.1 hh.out.2.2.2.1, OwnEd5 hh.out.2.1 hh.out.2.2.2.1, (((((hh.out.2.2.1.setCell (p := ⟨p, 0, none⟩) hh.out.2.2.2.2 _).setCell (p := ⟨p, 1, none⟩) hh.out.2.2.2.2 _).setCell (p := ⟨p, 2, none⟩) hh.out.2.2.2.2 _).setCell (p := ⟨p, 3, none⟩) hh.out.2.2.2.2 _).setCell (p := ⟨p, 4, none⟩) hh.out.2.2.2.2 _)⟩
    clear hd hO h1 h7 h8 h9 hC h2 h3 hh
    go_simp
  try simp only [Act.put, zT, z0, zS]
  refine Rel.c_end ?_
  intro w6 hF
  obtain ⟨p, dv, ev, h8, hbx, hp2, hDO, hOE, B6⟩ := hF
  obtain ⟨f1, f2, rfl⟩ := hOE.EL.shape
  obtain ⟨kk1, kk2, rfl⟩ := hDO.DL.shape
  have q6 := hq5.out.trans (B6.mono hq5.out.size)
  have hsz1 : w.heap.size + 2 ≤ w5.heap.size := by have := hsz0.out; have := hq5.out.size; omega
  have hbel := hB0.out.trans (q6.mono hB0.out.size)
  have lw : ∀ {e : TypeId} {s n : Nat} {v : Value} {xs : List Value}, w6.ownsRow w5.heap.size e s v n xs → w6.ownsRow w.heap.size e s v n xs := fun h => ⟨h.1, h.2.imp id fun ⟨g, cap, cur, h1, h2, h3⟩ => ⟨g, cap, cur, h1, by omega, h3⟩⟩
  have HV : VS w (w.heap.size + 1) p (.int .i64 vx.id) (.int .i64 vx.side) (.slice kk1 g.ds.length kk2) (.slice f1 (atF g.es n).length f2) (.slice none 0 0) g.ds (atF g.es n) [] w6 :=
    ⟨hrb.out w6 q6, hbx, by omega, by omega, by omega, hDO.imp id lw, lw hOE, OwnN.nil _ _, hbel⟩
  rw [h8]
  obtain ⟨x0, x1, x2, x3, x4⟩ := HV.cells
  have hnb0 := hnb.out w6 _ hOE.EL
  have HV2 := Lib.hid HV
  clear HV hnb h8 hbx hp2 hDO hOE B6 q6 hbel lw hO hq3 hq4 hq5 hG hG2 hGV hDs hLW hres hrb hz3 hV2 hcl2 hAt2 hw1
  have hkeep := Lib.hid (fun S (h : ∀ x, x ∈ S ↔ x ≠ n ∧ x ∈ nearL (atF g.es n) n) => keep_kp g.es n S h)
  have hwz := Lib.hid (show w.heap.size ≤ w6.heap.size by have := HV2.out.bel.size; exact this)
  obtain ⟨M, hM⟩ : ∃ M, Hid (M = (atF g.es n).length) := ⟨_, rfl⟩
  obtain ⟨N, hN⟩ : ∃ N, Hid (N = L.length) := ⟨_, rfl⟩
  rw [← hM.out] at hnb0 HV2 x3
  rw [← hN.out]
  rename_i Q0 K0 hK0
  refine hK0 _ _ ?_
  refine wp_eq (D := sfxW 4) (by kernel_rfl) ?_
  conv => arg 2; whnf
  refine wp_seq_k (fun K1 hK1 => ?_)
  have hK2 := Lib.hid hK1
  clear hK1
  go_wp2_with (go_at_call 61; refine hnb0.mono ?_; clear hnb0; rintro e w7 ⟨nv, S, rfl, o7, q7, s7, m7⟩)
  refine hK2.out _ _ ?_
  refine wp_eq (D := sfxW 5) (by kernel_rfl) ?_
  exact vw_loop _ _ _ _ _ _ _ _ _ _ _ _ _ _ _ _ _ _ _ _ _ _ _ _ _ _ _ _ _ _ _ _ _ _ _ _ _ _ _ _ _ _ _ _ _ _ _ _ _ _ _ _ _ _ _ _ _ _ _ _ _ _ _ _ _ _ _ _ w _ (w.heap.size + 1) p vx.id vx.side kk1 g.ds.length kk2 f1 M f2 n la N lc L nv S g.ds (atF g.es n) (keepV n (atF g.es n)) (Lib.hid (hkeep.out S m7).symm) _ (Lib.hid (fun e w' h => by simpa using h)) hN hL2 (Lib.hid (by have := hEn.out; have := hM.out; omega)) (by have := hN.out; omega) hLx2 (Lib.hid ⟨HV2.out.below q7, own_low o7 hwz.out⟩)

end Go.Proofs.Ythmkmjkbfjhffaa
