/- Contracts and facts. -/
import Derived.Deep.LoopGhost
import Derived.Handy
import Derived.RangeFuncNested
import Derived.RangeFuncBound
import Derived.RangeFuncBox
import Derived.RangeFuncCalls
import Derived.RangeFuncLeaves
import Derived.Shelf.Abstract
import Derived.Shelf.RegionOpen
import Derived.WalkKit
import Derived.OwnWalkIn
import Derived.TacticsInMore
import Derived.LoopNIn
import Derived.LoopIn
import Derived.Maps.OwnIn
import Derived.BigRegionIn
import Derived.Stop.RegionWithIn
import Derived.WalkMore
import Derived.BigRegion
import Derived.Laws.EntriesVeiled
import Derived.Test.YthmkmjkbfjhffaaVFZ
import Derived.Test.YthmkmjkbfjhffaaVGA
import Derived.Test.YthmkmjkbfjhffaaVTL
import Derived.Test.YthmkmjkbfjhffaaVFG
set_option linter.unusedSimpArgs false
set_option maxRecDepth 100000
set_option maxHeartbeats 4000000
namespace Go.Proofs.Ythmkmjkbfjhffaa
open Go.RowKit Go.Shelf
attribute [local go_sem] Oper.semAt_some
theorem read_any : ReadC := fun v L w hL hl => by
  obtain ⟨a, c, rfl⟩ := hL.shape
  refine (callsIn_wide.1 (read_in Fence.wide 3 trivial trivial trivial rfl (by omega) a c L hl w hL)).mono ?_
  rintro e w' ⟨rfl, hP, B⟩
  exact ⟨_, rfl, hP, B, hP.lt⟩

end Go.Proofs.Ythmkmjkbfjhffaa
/- Contracts and facts. -/
set_option linter.unusedSimpArgs false
set_option maxRecDepth 100000
set_option maxHeartbeats 4000000
namespace Go.Proofs.Ythmkmjkbfjhffaa
open Go.RowKit
def countF (n : Int) (m : PM) : Int := if (m n).isSome = true ∧ (gp m n).depth = 0 then 1 else 0
theorem three_set (w : World) (p : Nat) (c0 c1 c2 : Value) (t : TypeId) (d0 d1 d2 : Value) (h : w.heap[p]? = some (.cells #[c0, c1, c2] t (0, 0))) :
    (((w.setCell ⟨p, 0, none⟩ d0).setCell ⟨p, 1, none⟩ d1).setCell ⟨p, 2, none⟩ d2).heap[p]? = some (.cells #[d0, d1, d2] t (0, 0)) := by
  have h1 := heap_setCell_same w p 0 _ t d0 h
  have h2 := heap_setCell_same _ p 1 _ t d1 h1
  exact heap_setCell_same _ p 2 _ t d2 h2
set_option maxRecDepth 100000 in
theorem Count_any (n sd : Int) (dv ev lv : Value) (L : List Nm) (w : World) (hL : NL w lv L) (hLn : L.length ≤ 1000000) :
    Calls Try.prog 18 #[.agg #[.int .i64 n, .int .i64 sd, dv, ev, lv]] w fun e w' => e = .returned (.int .i64 (countF n (readF L))) ∧ Below w.heap.size w w' := by
  obtain ⟨R, hR⟩ : ∃ R, Hid (countF n (readF L) = R) := ⟨_, rfl⟩
  rw [hR.out]
  obtain ⟨w1, hw1⟩ : ∃ w1, w1 = w.alloc (.cells #[.int .i64 n, .int .i64 sd, dv, ev, lv] 51) := ⟨_, rfl⟩
  have gb : w1.heap[w.heap.size]? = some (.cells #[.int .i64 n, .int .i64 sd, dv, ev, lv] 51 (0, 0)) := by rw [hw1]; exact heap_alloc_new w _
  have B0 : Below w.heap.size w w1 := by rw [hw1]; exact (Below.refl _ w).alloc (Nat.le_refl _) _
  have hs1 : w1.heap.size = w.heap.size + 1 := by rw [hw1]; simp
  have hG := Lib.hid (fun W (q : Below w1.heap.size w1 W) => (show W.cell? ⟨w.heap.size, 0, none⟩ = some (.int .i64 n) ∧ W.cell? ⟨w.heap.size, 4, none⟩ = some lv from by
    have h := (q.block _ (show w.heap.size < w1.heap.size by omega)).trans gb
    exact ⟨by rw [cell_of_row _ _ _ _ _ _ h]; rfl, by rw [cell_of_row _ _ _ _ _ _ h]; rfl⟩))
  have hr1 := Lib.hid (fun W (q : Below w1.heap.size w1 W) => read_any lv L W ((hL.below B0).below q) hLn)
  obtain ⟨m, hm⟩ : ∃ m, Hid (m = readF L) := ⟨_, rfl⟩
  rw [← hm.out] at hR hr1
  replace hw1 := Lib.hid hw1
  replace B0 := Lib.hid B0
  clear hs1 gb hL
  go_enter Try.func18, Try.ntmps18
  go_upto_region 1 with (fail)
  rw [← hw1.out]
  refine Rel.c_region (fun i => i == 9) w1 [some (.pointer (some ⟨w.heap.size, 4, none⟩)), some lv, none, some (.pointer (some ⟨w.heap.size, 0, none⟩)), some (.pointer (some ⟨w.heap.size, 0, none⟩)), some (.int .i64 n),
    some (.tuple #[.agg #[.int .i64 (gp m n).root, .int .i64 (gp m n).depth, .int .i64 (gp m n).edge], .bool (m n).isSome]), some (.tuple #[.agg #[.int .i64 (gp m n).root, .int .i64 (gp m n).depth, .int .i64 (gp m n).edge], .bool (m n).isSome]), some (.agg #[.int .i64 (gp m n).root, .int .i64 (gp m n).depth, .int .i64 (gp m n).edge]), some (.bool (m n).isSome)]
    (fun i v W => match i with
      | 2 => ∃ mb, v = .map (some mb) ∧ PMV W mb m ∧ mb < W.heap.size
      | 10 => ∃ p c0 c1 c2, v = .pointer (some ⟨p, 0, none⟩) ∧ W.heap[p]? = some (.cells #[c0, c1, c2] 72 (0, 0)) ∧ w1.heap.size ≤ p
      | _ => True)
    (fun k vals W => (∃ p, vals 10 = .pointer (some ⟨p, 0, none⟩) ∧ W.heap[p]? = some (.cells #[.int .i64 (gp m n).root, .int .i64 (gp m n).depth, .int .i64 (gp m n).edge] 72 (0, 0)) ∧ Below w1.heap.size w1 W) ∧ (k = 12 → vals 12 = .bool (m n).isSome)) 11 (by kernel_rfl) (by kernel_rfl) (fun i hi => by rw [show i = 9 by simpa using hi]; rfl)
    (fun j hj => by simp only [List.getD_eq_getElem?_getD]; rw [List.getElem?_eq_none (by simp; omega)]; rfl) (by decide) (fun i v W W' h Bl => by
      split at h
      · obtain ⟨mb, h1, h2, h3⟩ := h; exact ⟨mb, h1, h2.below Bl h3, Nat.lt_of_lt_of_le h3 Bl.size⟩
      · obtain ⟨p, c0, c1, c2, h1, h2, h3⟩ := h; exact ⟨p, c0, c1, c2, h1, (Bl.block _ (Array.getElem?_eq_some_iff.1 h2).1).trans h2, h3⟩
      · exact trivial) ((Below.refl _ w1).drew) (fun vals hO => ?_)
  refine Rel.c_pure rfl (.pointer (some ⟨w.heap.size, 4, none⟩)) rfl (by decide) (hO 0 _ rfl) (by rfl) (fun w hC hd => ?_) ?_
  · clear hd hO; go_simp
  try simp only [Act.put, zT, z0, zS]
  refine Rel.c_pure rfl lv rfl (by decide) (hO 1 _ rfl) (by rfl) (fun w hC hd => ?_) ?_
  · obtain ⟨y0, y1⟩ := hG.out w hC; clear hd hO; go_simp
  try simp only [Act.put, zT, z0, zS]
  refine Rel.c_rel rfl rfl (by decide) (by rfl) (fun w hC hd => ?_) ?_
  · refine post_call Try.f40 rfl Try.func40 (by kernel_rfl) (by kernel_rfl) #[lv] (by simp [Act.eval]) ((hr1.out w hC).mono ?_)
    rintro e w2 ⟨mb, rfl, h1, h2, h3⟩
    exact ⟨_, rfl, h2, mb, rfl, h1, h3⟩
  try simp only [Act.put, zT, z0, zS]
  refine Rel.c_pure rfl (.pointer (some ⟨w.heap.size, 0, none⟩)) rfl (by decide) (hO 3 _ rfl) (by rfl) (fun w hC hd => ?_) ?_
  · clear hd hO; go_simp
  try simp only [Act.put, zT, z0, zS]
  refine Rel.c_pure rfl (.pointer (some ⟨w.heap.size, 0, none⟩)) rfl (by decide) (hO 4 _ rfl) (by rfl) (fun w hC hd => ?_) ?_
  · clear hd hO; go_simp
  try simp only [Act.put, zT, z0, zS]
  refine Rel.c_pure rfl (.int .i64 n) rfl (by decide) (hO 5 _ rfl) (by rfl) (fun w hC hd => ?_) ?_
  · obtain ⟨y0, y1⟩ := hG.out w hC; clear hd hO; go_simp
  try simp only [Act.put, zT, z0, zS]
  refine Rel.c_pure rfl (.tuple #[.agg #[.int .i64 (gp m n).root, .int .i64 (gp m n).depth, .int .i64 (gp m n).edge], .bool (m n).isSome]) rfl (by decide) (hO 6 _ rfl) (by rfl) (fun w hC hd => ?_) ?_
  · obtain ⟨mb, h2, h3, _⟩ : ∃ mb, vals 2 = .map (some mb) ∧ PMV w mb m ∧ mb < w.heap.size := hd 2 (by decide)
    have hget := h3.getOk n
    rw [h2]
    clear hd hO; go_simp
  try simp only [Act.put, zT, z0, zS]
  refine Rel.c_pure rfl (.tuple #[.agg #[.int .i64 (gp m n).root, .int .i64 (gp m n).depth, .int .i64 (gp m n).edge], .bool (m n).isSome]) rfl (by decide) (hO 7 _ rfl) (by rfl) (fun w hC hd => ?_) ?_
  · clear hd hO; go_simp
  try simp only [Act.put, zT, z0, zS]
  refine Rel.c_pure rfl (.agg #[.int .i64 (gp m n).root, .int .i64 (gp m n).depth, .int .i64 (gp m n).edge]) rfl (by decide) (hO 8 _ rfl) (by rfl) (fun w hC hd => ?_) ?_
  · clear hd hO; go_simp
  try simp only [Act.put, zT, z0, zS]
  refine Rel.c_late (.bool (m n).isSome) rfl (by decide) (hO 9 _ rfl) (by rfl) (fun w => ?_) ?_
  · clear hO; go_simp
  try simp only [Act.put, zT, z0, zS]
  refine Rel.c_rel rfl rfl (by decide) (by rfl) (fun w hC hd => ?_) ?_
  · refine post_value (.pointer (some ⟨w.heap.size, 0, none⟩)) (w.alloc (.cells #[.int .i64 0, .int .i64 0, .int .i64 0] 72)) ?_ ⟨(Below.refl _ w).alloc (Nat.le_refl _) _, _, _, _, _, rfl, heap_alloc_new w _, hC.size⟩
    clear hd hO; go_simp
  try simp only [Act.put, zT, z0, zS]
  refine Rel.c_tail0 rfl rfl (by rfl) (fun w hC hd => ?_) ?_
  · obtain ⟨p, c0, c1, c2, h1, h2, h3⟩ : ∃ p c0 c1 c2, vals 10 = .pointer (some ⟨p, 0, none⟩) ∧ w.heap[p]? = some (.cells #[c0, c1, c2] 72 (0, 0)) ∧ w1.heap.size ≤ p := hd 10 (by decide)
    rw [h1]
    have f0 := frozen_of_row w p 0 _ _ h2
    have f1 := frozen_of_row w p 1 _ _ h2
    have f2 := frozen_of_row w p 2 _ _ h2
    have y0 : w.cell? ⟨p, 0, none⟩ = some c0 := by rw [cell_of_row _ _ _ _ _ _ h2]; rfl
    have y1 : w.cell? ⟨p, 1, none⟩ = some c1 := by rw [cell_of_row _ _ _ _ _ _ h2]; rfl
    have y2 : w.cell? ⟨p, 2, none⟩ = some c2 := by rw [cell_of_row _ _ _ _ _ _ h2]; rfl
    unfold Rel.post
    clear hd hO
    go_simp
    refine ⟨p, by unfold Rel.upd; simpa using h1, ?_, ?_⟩
    · exact three_set w p _ _ _ 72 _ _ _ h2
    · exact ((hC.setCell (p := ⟨p, 0, none⟩) h3 _).setCell (p := ⟨p, 1, none⟩) h3 _).setCell (p := ⟨p, 2, none⟩) h3 _
  try simp only [Act.put, zT, z0, zS]
  refine Rel.c_tail rfl 11 rfl (by decide) (by rfl) (fun w hF => ?_) ?_
  · obtain ⟨⟨p, h1, h2, h3⟩, _⟩ := hF
    unfold Rel.post
    clear hO
    go_simp
    exact ⟨⟨p, by unfold Rel.upd; simpa using h1, h2⟩, by simp [Rel.upd]⟩
  try simp only [Act.put, zT, z0, zS]
  refine Rel.c_end ?_
  intro w3 hF
  obtain ⟨⟨p, h1, h2, B3⟩, h4⟩ := hF
  have h4 := h4 rfl
  have BB := Lib.hid (B0.out.trans (B3.mono B0.out.size))
  have p1 : w3.cell? ⟨p, 1, none⟩ = some (.int .i64 (gp m n).depth) := by rw [cell_of_row _ _ _ _ _ _ h2]; rfl
  rw [h1, h4]
  clear hO h1 h4 hG hr1 h2
  cases hk : (m n).isSome with
  | false =>
    have hr : Hid (R = 0) := by show _ = _; rw [← hR.out]; unfold countF; rw [hk, if_neg (fun h => absurd h.1 (by simp))]
    go_wp2_with fail
    go_ret
    exact ⟨ret_int hr.out.symm, BB.out⟩
  | true =>
    rcases Bool.eq_false_or_eq_true ((gp m n).depth == 0) with t2 | t2
    · have hr : Hid (R = 1) := by show _ = _; rw [← hR.out]; unfold countF; rw [if_pos ⟨hk, by simpa using t2⟩]
      clear hk
      go_wp2_with fail
      go_ret
      exact ⟨ret_int hr.out.symm, BB.out⟩
    · have hr : Hid (R = 0) := by show _ = _; rw [← hR.out]; unfold countF; rw [if_neg (fun h => absurd h.2 (by simpa using t2))]
      clear hk
      go_wp2_with fail
      go_ret
      exact ⟨ret_int hr.out.symm, BB.out⟩

end Go.Proofs.Ythmkmjkbfjhffaa
