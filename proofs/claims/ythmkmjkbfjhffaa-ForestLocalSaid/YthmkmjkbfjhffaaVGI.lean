/- Contracts and facts. -/
import Derived.Deep.LoopGhost
import Derived.Handy
import Derived.WalkMore
import Derived.BigRegion
import Derived.Laws.EntriesVeiled
import Derived.Test.YthmkmjkbfjhffaaVGJ
set_option linter.unusedSimpArgs false
set_option maxRecDepth 100000
set_option maxHeartbeats 4000000
namespace Go.Proofs.Ythmkmjkbfjhffaa
open Go.RowKit
def ViewR (w : World) (g : Gr) (n : Int) (L : List Nm) (e : Ending) (w' : World) : Prop := VF w (.int .i64 (vxAt g n).id) (.int .i64 (vxAt g n).side) g.ds (atF g.es n) (L.filter (keepV n (atF g.es n))) e w'
theorem vx_case (vs : List Vx) (n : Int) : (plI (keysV vs) n = -1 ∧ (vs.find? (fun v => v.id == n)).getD ⟨0, 0⟩ = ⟨0, 0⟩) ∨ ∃ (i : Nat) (hi : i < vs.length), plI (keysV vs) n = i ∧ (vs.find? (fun v => v.id == n)).getD ⟨0, 0⟩ = vs[i] := by
  cases h : vs.find? (fun v => v.id == n) with
  | none =>
    refine .inl ⟨plI_none _ _ (fun j hj e => ?_), rfl⟩
    rw [List.find?_eq_none] at h
    have hj2 : j < vs.length := by simpa [keysV] using hj
    have := h vs[j] (List.getElem_mem hj2)
    simp [keysV] at e
    simp [e] at this
  | some v =>
    obtain ⟨h1, i, hi, h2, h3⟩ := List.find?_eq_some_iff_getElem.1 h
    refine .inr ⟨i, hi, plI_at _ _ _ (by simpa [keysV] using hi) (fun j hj hji e => ?_) ?_, by rw [h2]; rfl⟩
    · have := h3 j hji
      simp [keysV] at e
      simp [e] at this
    · simp [keysV, h2]; simpa using h1
set_option maxRecDepth 100000 in
theorem View_any (v lv : Value) (g : Gr) (L : List Nm) (n : Int) (w : World) (hv : GV w v g) (hL : NL w lv L) (hn : g.small) (hE : g.es.length ≤ 1000000000) (hD : g.ds.length ≤ 1000000) (hLn : L.length ≤ 1000000) (hLx : ∀ x ∈ L, x.2.length ≤ 1000000) :
    Calls Try.prog 19 #[v, lv, .int .i64 n] w fun e w' => ViewR w g n L e w' := by
  obtain ⟨a1, a2, b1, b2, c1v, c2, rfl, hv1, hv2, hv3⟩ := gv_shape hv
  obtain ⟨la, lc, rfl⟩ := hL.shape
  obtain ⟨w1, hw1⟩ : ∃ w1, w1 = (w.alloc (.cells #[.slice a1 g.vs.length a2, .slice b1 g.es.length b2, .slice c1v g.ds.length c2] 28)).alloc (.cells #[.int .i64 0, .int .i64 0, .slice none 0 0, .slice none 0 0, .slice none 0 0] 51) := ⟨_, rfl⟩
  have B0 : Below w.heap.size w w1 := by rw [hw1]; exact ((Below.refl _ w).alloc (Nat.le_refl _) _).alloc (by simp) _
  have hs1 : w1.heap.size = w.heap.size + 2 := by rw [hw1]; simp
  have gb : w1.heap[w.heap.size]? = some (.cells #[.slice a1 g.vs.length a2, .slice b1 g.es.length b2, .slice c1v g.ds.length c2] 28 (0, 0)) := by rw [hw1]; exact al_keep1 (heap_alloc_new w _)
  have rb : w1.heap[w.heap.size + 1]? = some (.cells #[.int .i64 0, .int .i64 0, .slice none 0 0, .slice none 0 0, .slice none 0 0] 51 (0, 0)) := by rw [hw1]; have := heap_alloc_new (w.alloc (.cells #[.slice a1 g.vs.length a2, .slice b1 g.es.length b2, .slice c1v g.ds.length c2] 28)) (.cells #[.int .i64 0, .int .i64 0, .slice none 0 0, .slice none 0 0, .slice none 0 0] 51); simpa using this
  have hG := Lib.hid (fun W (q : Below w1.heap.size w1 W) => box3g ((q.block _ (show w.heap.size < w1.heap.size by omega)).trans gb))
  have hGV := Lib.hid (fun W (q : Below w1.heap.size w1 W) => (hv.below B0).below q)
  have hDs := Lib.hid (fun W (q : Below w1.heap.size w1 W) => (hv3.below B0).below q)
  obtain ⟨P, hP⟩ : ∃ P, Hid (P = plI (keysV g.vs) n) := ⟨_, rfl⟩
  have hPl := Lib.hid (PlaceR_any _ g n w1 (hv.below B0) (by have := hn; unfold Gr.small at this; omega))
  rw [← hP.out] at hPl
  have hes : Hid (g.es.length ≤ 1000000000) := hE
  have hds : Hid (g.ds.length ≤ 1000000) := hD
  have hB0 := Lib.hid B0
  have hsz0 := Lib.hid (Nat.le_of_eq hs1.symm)
  have hrb := Lib.hid (fun W (q : Below w1.heap.size w1 W) => (q.block _ (show w.heap.size + 1 < w1.heap.size by omega)).trans rb)
  have hvc := Lib.hid (vx_case g.vs n)
  have hcellV := Lib.hid ((hv1.below B0).cells)
  replace hw1 := Lib.hid hw1
  clear rb gb
  obtain ⟨g0, g1, g2⟩ := hG.out w1 (Below.refl _ _)
  go_enter Try.func19, Try.ntmps19
  go_upto_region 1 with (fail)
  rw [← hw1.out]
  go_upto_region 2 with (refine hPl.out.mono ?_; clear hPl; rintro e w2 ⟨rfl, q2⟩)
  have hz1 : w1.heap.size ≤ w2.heap.size := q2.size
  have hG2 := Lib.hid (fun W (q : Below w2.heap.size w2 W) => hG.out W (q2.trans (q.mono hz1)))
  have hDs2 := Lib.hid (fun W (q : Below w2.heap.size w2 W) => hDs.out W (q2.trans (q.mono hz1)))
  have hAt := Lib.hid (fun W (q : Below w2.heap.size w2 W) => AtR_own _ g n W (hGV.out W (q2.trans (q.mono hz1))) hes.out)
  clear g0 g1 g2
  refine Rel.c_region (fun _ => false) w2 [none, some (.pointer (some ⟨w.heap.size, 2, none⟩)), some (.slice c1v g.ds.length c2), none, some (.agg #[.slice a1 g.vs.length a2, .slice b1 g.es.length b2, .slice c1v g.ds.length c2]), some (.int .i64 n), none, none, none, none]
    (fun i v W => match i with
      | 0 => ∃ b, v = .slice (some ⟨b, 0, none⟩) 0 0
      | 3 => DO W w2.heap.size v g.ds
      | 6 => OwnEd W w2.heap.size v (atF g.es n)
      | 7 => ∃ dv ev, v = .agg #[.int .i64 0, .int .i64 0, dv, ev, .slice none 0 0] ∧ DO W w2.heap.size dv g.ds ∧ OwnEd W w2.heap.size ev (atF g.es n)
      | 8 => ∃ p x0 x1 x2 x3 x4, v = .pointer (some ⟨p, 0, none⟩) ∧ W.heap[p]? = some (.cells #[x0, x1, x2, x3, x4] 51 (0, 0)) ∧ w2.heap.size ≤ p
      | _ => True)
    (fun _ vals W => ∃ p dv ev, vals 8 = .pointer (some ⟨p, 0, none⟩) ∧ W.heap[p]? = some (.cells #[.int .i64 0, .int .i64 0, dv, ev, .slice none 0 0] 51 (0, 0)) ∧ w2.heap.size ≤ p ∧ DO W w2.heap.size dv g.ds ∧ OwnEd W w2.heap.size ev (atF g.es n) ∧ Below w2.heap.size w2 W) 9 (by kernel_rfl) (by kernel_rfl) (fun i hi => by cases hi)
    (fun j hj => by simp only [List.getD_eq_getElem?_getD]; rcases Nat.eq_or_lt_of_le hj with rfl | hj2; rfl; rw [List.getElem?_eq_none (by simp; omega)]; rfl) (by decide) (fun i v W W' h Bl => by
      split at h
      · exact h
      · exact DO.below h Bl
      · exact own_below h Bl
      · obtain ⟨dv, ev, h1, h2, h3⟩ := h; exact ⟨dv, ev, h1, h2.below Bl, own_below h3 Bl⟩
      · obtain ⟨p, x0, x1, x2, x3, x4, h1, h2, h3⟩ := h; exact ⟨p, x0, x1, x2, x3, x4, h1, (Bl.block _ (Array.getElem?_eq_some_iff.1 h2).1).trans h2, h3⟩
      · exact trivial) ((Below.refl _ w2).drew) (fun vals hO => ?_)
  refine Rel.c_rel rfl rfl (by decide) (by rfl) (fun w hC hd => ?_) ?_
  · refine post_value (.slice (some ⟨w.heap.size, 0, none⟩) 0 0) (w.alloc (.cells #[] 3)) ?_ ⟨(Below.refl _ w).alloc (Nat.le_refl _) _, _, rfl⟩
    clear hd hO; go_simp
  try simp only [Act.put, zT, z0, zS]
  refine Rel.c_pure rfl (.pointer (some ⟨w.heap.size, 2, none⟩)) rfl (by decide) (hO 1 _ rfl) (by rfl) (fun w hC hd => ?_) ?_
  · clear hd hO; go_simp
  try simp only [Act.put, zT, z0, zS]
  refine Rel.c_pure rfl (.slice c1v g.ds.length c2) rfl (by decide) (hO 2 _ rfl) (by rfl) (fun w hC hd => ?_) ?_
  · obtain ⟨y0, y1, y2⟩ := hG2.out w hC; clear hd hO; go_simp
  try simp only [Act.put, zT, z0, zS]
  refine Rel.c_rel rfl rfl (by decide) (by rfl) (fun w hC hd => ?_) ?_
  · obtain ⟨b, h0⟩ : ∃ b, vals 0 = .slice (some ⟨b, 0, none⟩) 0 0 := hd 0 (by decide)
    obtain ⟨v', w', k1, k2, k3⟩ := appO w b w2.heap.size _ g.ds (hDs2.out w hC) hds.out hC.size
    exact post_append (.tmp 15) (.tmp 17) 26 rfl (.slice (some ⟨b, 0, none⟩) 0 0) (.slice c1v g.ds.length c2) h0 rfl v' w' k1 ⟨k3, k2⟩
  try simp only [Act.put, zT, z0, zS]
  refine Rel.c_pure rfl (.agg #[.slice a1 g.vs.length a2, .slice b1 g.es.length b2, .slice c1v g.ds.length c2]) rfl (by decide) (hO 4 _ rfl) (by rfl) (fun w hC hd => ?_) ?_
  · obtain ⟨y0, y1, y2⟩ := hG2.out w hC; clear hd hO; go_simp
  try simp only [Act.put, zT, z0, zS]
  refine Rel.c_pure rfl (.int .i64 n) rfl (by decide) (hO 5 _ rfl) (by rfl) (fun w hC hd => ?_) ?_
  · clear hd hO; go_simp
  try simp only [Act.put, zT, z0, zS]
  refine Rel.c_rel rfl rfl (by decide) (by rfl) (fun w hC hd => ?_) ?_
  · refine post_call Try.f41 rfl Try.func41 (by kernel_rfl) (by kernel_rfl) #[.agg #[.slice a1 g.vs.length a2, .slice b1 g.es.length b2, .slice c1v g.ds.length c2], .int .i64 n] (by simp [Act.eval]) ((hAt.out w hC).mono ?_)
    rintro e w3 ⟨x, rfl, hx, bx⟩
    exact ⟨x, rfl, bx, own_mono hx hC.size⟩
  try simp only [Act.put, zT, z0, zS]
  refine Rel.c_rel rfl rfl (by decide) (by rfl) (fun w hC hd => ?_) ?_
  · have h3 : DO w w2.heap.size (vals 3) g.ds := hd 3 (by decide)
    have h6 : OwnEd w w2.heap.size (vals 6) (atF g.es n) := hd 6 (by decide)
    refine post_value (.agg #[.int .i64 0, .int .i64 0, vals 3, vals 6, .slice none 0 0]) w ?_ ⟨Below.refl _ _, _, _, rfl, h3, h6⟩
    obtain ⟨x3, y3, e3⟩ := h3.DL.shape
    obtain ⟨x6, y6, e6⟩ := (OwnEd.EL h6).shape
    clear hd hO
    rw [e3, e6]
    go_simp
  try simp only [Act.put, zT, z0, zS]
  refine Rel.c_rel rfl rfl (by decide) (by rfl) (fun w hC hd => ?_) ?_
  · refine post_value (.pointer (some ⟨w.heap.size, 0, none⟩)) (w.alloc (.cells #[.int .i64 0, .int .i64 0, .slice none 0 0, .slice none 0 0, .slice none 0 0] 51)) ?_ ⟨(Below.refl _ w).alloc (Nat.le_refl _) _, _, _, _, _, _, _, rfl, heap_alloc_new w _, hC.size⟩
    clear hd hO; go_simp
  try simp only [Act.put, zT, z0, zS]
  refine Rel.c_tail0 rfl rfl (by rfl) (fun w hC hd => ?_) ?_
  · obtain ⟨p, x0, x1, x2, x3, x4, h1, h2, h3⟩ : ∃ p x0 x1 x2 x3 x4, vals 8 = .pointer (some ⟨p, 0, none⟩) ∧ w.heap[p]? = some (.cells #[x0, x1, x2, x3, x4] 51 (0, 0)) ∧ w2.heap.size ≤ p := hd 8 (by decide)
    obtain ⟨dv, ev, h7, h8, h9⟩ : ∃ dv ev, vals 7 = .agg #[.int .i64 0, .int .i64 0, dv, ev, .slice none 0 0] ∧ DO w w2.heap.size dv g.ds ∧ OwnEd w w2.heap.size ev (atF g.es n) := hd 7 (by decide)
    have f0 := frozen_of_row w p 0 _ _ h2
    have f1 := frozen_of_row w p 1 _ _ h2
    have f2 := frozen_of_row w p 2 _ _ h2
    have f3 := frozen_of_row w p 3 _ _ h2
    have f4 := frozen_of_row w p 4 _ _ h2
    have y0 : w.cell? ⟨p, 0, none⟩ = some x0 := by rw [cell_of_row _ _ _ _ _ _ h2]; rfl
    have y1 : w.cell? ⟨p, 1, none⟩ = some x1 := by rw [cell_of_row _ _ _ _ _ _ h2]; rfl
    have y2 : w.cell? ⟨p, 2, none⟩ = some x2 := by rw [cell_of_row _ _ _ _ _ _ h2]; rfl
    have y3 : w.cell? ⟨p, 3, none⟩ = some x3 := by rw [cell_of_row _ _ _ _ _ _ h2]; rfl
    have y4 : w.cell? ⟨p, 4, none⟩ = some x4 := by rw [cell_of_row _ _ _ _ _ _ h2]; rfl
    have hh := Lib.hid (And.intro h8 (And.intro h9 (And.intro hC (And.intro h2 h3))))
    have hv8 := Lib.hid h1
    rw [h1, h7]
    obtain ⟨k3, m3, e3⟩ := h8.DL.shape
    obtain ⟨k6, m6, e6⟩ := (OwnEd.EL h9).shape
    subst e3 e6
    refine post_skip' (((((w.setCell ⟨p, 0, none⟩ (.int .i64 0)).setCell ⟨p, 1, none⟩ (.int .i64 0)).setCell ⟨p, 2, none⟩ _).setCell ⟨p, 3, none⟩ _).setCell ⟨p, 4, none⟩ (.slice none 0 0)) ?_ ⟨p, _, _, by have := hv8.out; simpa [Rel.upd] using this, five_set w p _ _ _ _ _ 51 _ _ _ _ _ hh.out.2.2.2.1, hh.out.2.2.2.2, DO5 hh.out.1 hh.out.2.2.2.1, OwnEd5 hh.out.2.1 hh.out.2.2.2.1, (((((hh.out.2.2.1.setCell (p := ⟨p, 0, none⟩) hh.out.2.2.2.2 _).setCell (p := ⟨p, 1, none⟩) hh.out.2.2.2.2 _).setCell (p := ⟨p, 2, none⟩) hh.out.2.2.2.2 _).setCell (p := ⟨p, 3, none⟩) hh.out.2.2.2.2 _).setCell (p := ⟨p, 4, none⟩) hh.out.2.2.2.2 _)⟩
    clear hd hO h1 h7 h8 h9 hC h2 h3 hh
    go_simp
  try simp only [Act.put, zT, z0, zS]
  refine Rel.c_end ?_
  intro w3 hF
  obtain ⟨p, dv, ev, h8, hbx, hp2, hDO, hOE, B3⟩ := hF
  obtain ⟨f1, f2, rfl⟩ := hOE.EL.shape
  obtain ⟨k1, k2, rfl⟩ := hDO.DL.shape
  have hsz1 : w.heap.size + 2 ≤ w2.heap.size := by have := hsz0.out; omega
  have hbel := hB0.out.trans ((q2.trans (B3.mono hz1)).mono hB0.out.size)
  have lw : ∀ {e : TypeId} {s n : Nat} {v : Value} {xs : List Value}, w3.ownsRow w2.heap.size e s v n xs → w3.ownsRow w.heap.size e s v n xs := fun h => ⟨h.1, h.2.imp id fun ⟨g, cap, cur, h1, h2, h3⟩ => ⟨g, cap, cur, h1, by omega, h3⟩⟩
  have HV : VS w (w.heap.size + 1) p (.int .i64 0) (.int .i64 0) (.slice k1 g.ds.length k2) (.slice f1 (atF g.es n).length f2) (.slice none 0 0) g.ds (atF g.es n) [] w3 :=
    ⟨hrb.out w3 (q2.trans (B3.mono hz1)), hbx, by omega, by omega, by omega, hDO.imp id lw, lw hOE, OwnN.nil _ _, hbel⟩
  rw [h8]
  rename_i Q0 K0 hK0
  refine hK0 _ _ ?_
  refine wp_eq (D := sfxV 3) (by kernel_rfl) ?_
  refine view_tail _ _ _ _ _ _ _ _ _ _ _ _ _ _ _ _ _ _ _ _ _ _ _ _ _ _ _ _ _ _ _ _ _ _ _ _ _ _ _ _ _ _ _ _ _ _ _ _ _ _ _ _ _ _ _ _ _ _ _ _ _ _ _ _ _ _ _ _ _ _ _ _ _ _ _ _ _ _ _ _ _ w w3 (w.heap.size + 1) p w.heap.size P (vxAt g n) a1 g.vs.length a2 k1 g.ds.length k2 f1 (atF g.es n).length f2 n la L.length lc L g.ds (atF g.es n) rfl rfl (Lib.hid hL) ?_ hLn (Lib.hid hLx) (Lib.hid (hG2.out w3 B3).1) (Lib.hid ?_) (Lib.hid HV)
  · exact Nat.le_trans (List.length_filter_le _ _) hes.out
  · rcases hvc.out with ⟨h1, h2⟩ | ⟨i, hi, h1, h2⟩
    · exact .inl ⟨hP.out.trans h1, h2⟩
    · obtain ⟨b, o, h3, h4⟩ := hcellV.out i hi
      obtain ⟨h5, h6⟩ := h4 w3 (q2.trans (B3.mono hz1))
      rw [← h2] at h5 h6
      exact .inr ⟨i, b, o, hP.out.trans h1, hi, h3, h5, h6⟩

end Go.Proofs.Ythmkmjkbfjhffaa
