/- Contracts and facts. -/
import Derived.Deep.LoopGhost
import Derived.Handy
import Derived.WalkMore
import Derived.BigRegion
import Derived.Laws.EntriesVeiled
import Derived.Test.YtlnbobclbaieoaaVHV
import Derived.Test.YtlnbobclbaieoaaVHY
set_option linter.unusedSimpArgs false
set_option maxRecDepth 100000
set_option maxHeartbeats 4000000
namespace Go.Proofs.Ytlnbobclbaieoaa
open Go.RowKit

set_option maxRecDepth 1000000 in
set_option maxHeartbeats 16000000 in
theorem LabelsR_any (v : Value) (g : Gr) (w : World) (hv : GV w v g) (hn : g.small) :
    Calls Try.prog 22 #[v] w (LabQ w (labelsC g).1 (labelsC g).2) := by
  obtain ⟨a1, a2, b1, b2, c1v, c2, rfl, hv1, hv2, hv3⟩ := gv_shape hv
  obtain ⟨w1, hw1⟩ : ∃ w1, w1 = w.alloc (.cells #[.slice a1 g.vs.length a2, .slice b1 g.es.length b2, .slice c1v g.ds.length c2] 28) := ⟨_, rfl⟩
  have gb : w1.heap[w.heap.size]? = some (.cells #[.slice a1 g.vs.length a2, .slice b1 g.es.length b2, .slice c1v g.ds.length c2] 28 (0, 0)) := by rw [hw1]; exact heap_alloc_new w _
  have B0 : Below w.heap.size w w1 := by rw [hw1]; exact (Below.refl _ w).alloc (Nat.le_refl _) _
  have hs1 : w1.heap.size = w.heap.size + 1 := by rw [hw1]; simp
  have fb := Lib.hid (fun W (q : Below w1.heap.size w1 W) => box3g ((q.block _ (show w.heap.size < w1.heap.size by omega)).trans gb))
  have hVal := Lib.hid (ValidR_any _ g w1 (hv.below B0) hn)
  obtain ⟨g0, g1, g2⟩ := fb.out w1 (Below.refl _ _)
  have hB0 := Lib.hid B0
  replace hw1 := Lib.hid hw1
  cases hok : g.ok with
  | false =>
    have hr : labelsC g = ([], 70) := by unfold labelsC; rw [if_neg (by rw [hok]; simp)]
    rw [hr]
    rw [hok] at hVal
    clear hr hok gb B0 hs1
    go_enter Try.func22, Try.ntmps22
    go_upto_region 1 with (fail)
    rw [← hw1.out]
    go_wp2_with fail
    refine hVal.out.mono ?_
    rintro e w2 ⟨rfl, q2⟩
    have B2 := Lib.hid (hB0.out.trans (q2.mono hB0.out.size))
    clear q2 hVal g0 g1 g2
    go_wp2_with fail
    go_ret2
    exact ⟨_, rfl, OwnN.nil _ _, B2.out⟩
  | true =>
    have hr : labelsC g = (labF (mF g) (keysV g.vs), 0) := by unfold labelsC; rw [if_pos hok]
    rw [hr]
    rw [hok] at hVal
    by_cases h0 : g.vs = []
    · have hr2 : labF (mF g) (keysV g.vs) = [] := by rw [h0]; rfl
      have hl0 : g.vs.length = 0 := by rw [h0]; rfl
      rw [hr2]
      rw [hl0] at hw1 fb hVal g0
      rw [hl0]
      generalize g.es.length = N2 at *
      generalize g.ds.length = N3 at *
      clear hr hr2 hok h0 hl0 gb B0 hs1 hv hv1 hv2 hv3
      go_enter Try.func22, Try.ntmps22
      go_upto_region 1 with (fail)
      rw [← hw1.out]
      go_wp2_with fail
      refine hVal.out.mono ?_
      rintro e w2 ⟨rfl, q2⟩
      have B2 := Lib.hid q2
      clear q2 hVal g0 g1 g2
      go_wp2_with fail
      go_loopg [4, 5] 0 (fun gq lv iv wr => gq = 0 ∧ lv = .slice none 0 0 ∧ iv = .int .i64 0 ∧ Below w1.heap.size w1 wr)
      case atStart => exact ⟨rfl, rfl, rfl, B2.out⟩
      case round =>
      obtain ⟨rfl, rfl, rfl, hB⟩ := hrel
      obtain ⟨wo, rfl⟩ : ∃ x, x = wr := ⟨_, rfl⟩
      have hBo := Lib.hid hB
      obtain ⟨g0, g1, g2⟩ := fb.out wo hB
      clear hB B2
      go_wp2_with fail
      clear g0 g1 g2
      go_loopg [11] 0 (fun gq iv wr => gq = 0 ∧ iv = .int .i64 0 ∧ Below wo.heap.size wo wr)
      case atStart => exact ⟨rfl, rfl, Below.refl _ _⟩
      case round =>
      obtain ⟨rfl, rfl, hB⟩ := hrel
      have hF := Lib.hid (hB0.out.trans ((hBo.out.trans (hB.mono hBo.out.size)).mono hB0.out.size))
      clear hB hBo
      go_wp2_with fail
      go_ret2
      exact ⟨_, rfl, OwnN.nil _ _, hF.out⟩
    · obtain ⟨vb, vo, a2', hsh, _, _, _⟩ := hv1.own h0
      injection hsh with hsh _ hsh2
      subst hsh hsh2
      have hok2 := ok_facts hok
      have hLB : LB w1 g w.heap.size vb vo g.vs.length a2 g.es.length b2 g.ds.length c2 b1 c1v := ⟨fun W q => (hv.below B0).below q, fb.out, fun k hk W q => by
        obtain ⟨b', o', h1, h2⟩ := (hv1.below B0).cells k hk
        injection h1 with h1
        injection h1 with h1 h1'
        subst h1 h1'
        exact (h2 W q).1, hv2.below B0, rfl, rfl, hok2.1.1, hok2.1.2, List.length_pos_iff.2 h0, hok, hn⟩
      replace hLB := Lib.hid hLB
      generalize g.vs.length = N1 at *
      generalize g.es.length = N2 at *
      generalize g.ds.length = N3 at *
      clear hr hok gb B0 hs1 hok2 hv hv1 hv2 hv3
      go_enter Try.func22, Try.ntmps22
      go_upto_region 1 with (fail)
      rw [← hw1.out]
      go_wp2_with fail
      refine hVal.out.mono ?_
      rintro e w2 ⟨rfl, q2⟩
      have B2 := Lib.hid q2
      clear q2 hVal g0 g1 g2
      go_upto_region 3 with (fail)
      rename_i K0 hK0
      have hK1 := Lib.hid hK0
      clear hK0
      go_wp2_with fail
      refine hK1.out _ _ ?_
      refine wp_eq (D := sfxL 3) (by kernel_rfl) ?_
      exact labelsR_1 _ _ _ _ _ _ _ _ _ _ _ _ _ _ _ _ _ _ _ _ _ _ _ _ _ _ _ _ _ _ _ _ _ _ _ _ _ _ _ _ _ _ _ _ _ _ _ _ _ _ _ _ _ _ _ _ _ _ _ _ _ _ _ _ _ _ _ _ _ _ _ _ _ _ _ _ _ _ _ _ _ _ _ _ _ _ _ _ _ _ _ _ _ _ _ _ _ _ _ _ _ _ _ _ _ _ _ _ _ _ _ _ _ _ _ _ _ _ _ _ _ _ _ _ _ _ w w1 w2 g w.heap.size vb vo N1 a2 N2 b2 N3 c2 b1 c1v hLB B2 hB0

end Go.Proofs.Ytlnbobclbaieoaa
