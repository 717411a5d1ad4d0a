/- Contracts and facts. -/
import Derived.Deep.LoopGhost
import Derived.Handy
import Derived.WalkMore
import Derived.BigRegion
import Derived.Laws.EntriesVeiled
import Derived.Test.YthmkmjkbfjhffaaVFU
set_option linter.unusedSimpArgs false
set_option maxRecDepth 100000
set_option maxHeartbeats 4000000
namespace Go.Proofs.Ythmkmjkbfjhffaa
open Go.RowKit
def ckSideC (g : Gr) (a b : Int) (side : List Int) : Bool := holdsF g [a, b] && (holdsF g side && (ascI2 side && (decide (a ∈ side) && (!decide (b ∈ side) && !g.es.any (leavesF side)))))
set_option maxRecDepth 100000 in
theorem CheckSide_any (v : Value) (g : Gr) (a b : Int) (vl : Value) (l : List Int) (w : World) (hv : GV w v g) (hn : g.small) (hl : DL w vl l) (hm : l.length ≤ 1000000000) (hes : g.es.length ≤ 1000000000) :
    Calls Try.prog 16 #[v, .int .i64 a, .int .i64 b, vl] w fun e w' => e = .returned (.bool (ckSideC g a b l)) ∧ Below w.heap.size w w' := by
  obtain ⟨a1, a2, b1, b2, c1v, c2, rfl, _, hvE, _⟩ := gv_shape hv
  obtain ⟨l1, l2, rfl⟩ := hl.shape
  have hR : Hid (ckSideC g a b l = (holdsF g [a, b] && (holdsF g l && (ascI2 l && (decide (a ∈ l) && (!decide (b ∈ l) && !g.es.any (leavesF l))))))) := rfl
  obtain ⟨w1, hw1⟩ : ∃ w1, w1 = (w.alloc (.cells #[.slice a1 g.vs.length a2, .slice b1 g.es.length b2, .slice c1v g.ds.length c2] 28)).alloc (.cells #[.slice l1 l.length l2] 26) := ⟨_, rfl⟩
  have gb : w1.heap[w.heap.size]? = some (.cells #[.slice a1 g.vs.length a2, .slice b1 g.es.length b2, .slice c1v g.ds.length c2] 28 (0, 0)) := by rw [hw1, Below.heap_alloc _ _ _ (by simp)]; exact heap_alloc_new w _
  have sb : w1.heap[w.heap.size + 1]? = some (.cells #[.slice l1 l.length l2] 26 (0, 0)) := by
    rw [hw1]
    have := heap_alloc_new (w.alloc (.cells #[.slice a1 g.vs.length a2, .slice b1 g.es.length b2, .slice c1v g.ds.length c2] 28)) (.cells #[.slice l1 l.length l2] 26)
    simpa using this
  have B0 : Below w.heap.size w w1 := by rw [hw1]; exact ((Below.refl _ w).alloc (Nat.le_refl _) _).alloc (by simp) _
  have hs1 : w1.heap.size = w.heap.size + 2 := by rw [hw1]; simp
  have hG1 := Lib.hid (fun W (q : Below w1.heap.size w1 W) => And.intro (box3g ((q.block _ (by omega)).trans gb)) (show W.cell? ⟨w.heap.size + 1, 0, none⟩ = some (.slice l1 l.length l2) by rw [cell_of_row _ _ _ _ _ _ ((q.block _ (by omega)).trans sb)]; rfl))
  have B1 : Below w1.heap.size w1 (w1.alloc (.cells #[.int .i64 a, .int .i64 b] 3)) := (Below.refl _ w1).alloc (Nat.le_refl _) _
  have hHo := Lib.hid (holds_any _ g _ [a, b] (w1.alloc (.cells #[.int .i64 a, .int .i64 b] 3)) ((hv.below B0).below B1) hn (two_ints w1 a b) (by simp) (fun h => by have := (ok_facts h).1; omega))
  have hHs := Lib.hid (fun W (q : Below w1.heap.size w1 W) => holds_any _ g _ l W ((hv.below B0).below q) hn ((hl.below B0).below q) hm (fun h => by have := (ok_facts h).1; omega))
  have hAs := Lib.hid (fun W (q : Below w1.heap.size w1 W) => ascending_any _ l W ((hl.below B0).below q) hm)
  have hIn := Lib.hid (fun x W (q : Below w1.heap.size w1 W) => inside_any x (w.heap.size + 1) _ l W ((q.block _ (by omega)).trans sb) ((hl.below B0).below q) hm)
  have hCo := Lib.hid (fun fb W (q : Below w1.heap.size w1 W) (hfb : W.heap[fb]? = some (.cells #[.func (.func 35) #[] #[.pointer (some ⟨w.heap.size + 1, 0, none⟩)]] 80 (0, 0))) => cont47_any fb #[.pointer (some ⟨fb, 0, none⟩)] rfl (leavesF l) _ g.es W ((hvE.below B0).below q) hes (fun u W2 q2 => leaves_any u fb (w.heap.size + 1) _ l W2 ((q2.block _ (Array.getElem?_eq_some_iff.1 hfb).1).trans hfb) ((q2.block _ (by have := q.size; omega)).trans ((q.block _ (by omega)).trans sb)) (((hl.below B0).below q).below q2) hm))
  have hB1 := Lib.hid B1
  have hB0 := Lib.hid B0
  have hz := Lib.hid hs1
  replace hw1 := Lib.hid hw1
  generalize ckSideC g a b l = R at *
  generalize holdsF g [a, b] = p1 at *
  generalize holdsF g l = p2 at *
  generalize ascI2 l = p3 at *
  have hIa := Lib.hid (hIn.out a)
  have hIb := Lib.hid (hIn.out b)
  generalize decide (a ∈ l) = p4 at *
  generalize decide (b ∈ l) = p5 at *
  generalize g.es.any (leavesF l) = p6 at *
  generalize g.vs.length = n1 at *
  generalize g.es.length = n2 at *
  generalize g.ds.length = n3 at *
  generalize l.length = n4 at *
  clear hs1 B0 B1 gb sb hv hl hvE hIn
  have fin : Hid (∀ W, Below w1.heap.size w1 W → Below w.heap.size w W) := fun W q => hB0.out.trans (q.mono hB0.out.size)
  obtain ⟨⟨g0, g1, g2⟩, s0⟩ := hG1.out w1 (Below.refl _ _)
  go_enter Try.func16, Try.ntmps16
  go_upto_region 1 with (fail)
  rw [← hw1.out]
  go_wp2_with fail
  refine hHo.out.mono ?_
  rintro e w2 ⟨rfl, b2⟩
  have B2 := hB1.out.trans (b2.mono hB1.out.size)
  clear b2 hHo g0 g1 g2 s0
  obtain ⟨⟨g0, g1, g2⟩, s0⟩ := hG1.out w2 B2
  have hH2 := Lib.hid (hHs.out w2 B2)
  have hF2 := Lib.hid (fin.out w2 B2)
  cases p1 with
  | false =>
    have hr : Hid (R = false) := hR.out
    clear hR hH2 hHs hAs hCo hIa hIb B2 hG1
    go_wp2_with fail
    go_ret
    exact ⟨ret_bool hr.out.symm, hF2.out⟩
  | true =>
    replace B2 := Lib.hid B2
    go_wp2_with fail
    refine hH2.out.mono ?_
    rintro e w3 ⟨rfl, b3⟩
    have B3 := B2.out.trans (b3.mono B2.out.size)
    clear b3 hH2 g0 g1 g2 s0 hF2 B2
    obtain ⟨⟨g0, g1, g2⟩, s0⟩ := hG1.out w3 B3
    have hH3 := Lib.hid (hAs.out w3 B3)
    have hF3 := Lib.hid (fin.out w3 B3)
    cases p2 with
    | false =>
      have hr : Hid (R = false) := hR.out
      clear hR hH3 hHs hAs hCo hIa hIb B3 hG1
      go_wp2_with fail
      go_ret
      exact ⟨ret_bool hr.out.symm, hF3.out⟩
    | true =>
      replace B3 := Lib.hid B3
      go_wp2_with fail
      refine hH3.out.mono ?_
      rintro e w4 ⟨rfl, b4⟩
      have B4 := B3.out.trans (b4.mono B3.out.size)
      clear b4 hH3 g0 g1 g2 s0 hF3 B3
      have hF4 := Lib.hid (fin.out w4 B4)
      cases p3 with
      | false =>
        have hr : Hid (R = false) := hR.out
        clear hR hHs hAs hCo hIa hIb B4 hG1
        go_wp2_with fail
        go_ret
        exact ⟨ret_bool hr.out.symm, hF4.out⟩
      | true =>
        have hr : Hid (R = (p4 && (!p5 && !p6))) := by show _ = _; rw [hR.out]; cases p4 <;> rfl
        obtain ⟨w5, hw5⟩ : ∃ w5, w5 = w4.alloc (.cells #[.func (.func 35) #[] #[.pointer (some ⟨w.heap.size + 1, 0, none⟩)]] 80) := ⟨_, rfl⟩
        have b5 : Below w4.heap.size w4 w5 := by rw [hw5]; exact (Below.refl _ w4).alloc (Nat.le_refl _) _
        have fb : w5.heap[w4.heap.size]? = some (.cells #[.func (.func 35) #[] #[.pointer (some ⟨w.heap.size + 1, 0, none⟩)]] 80 (0, 0)) := by rw [hw5]; exact heap_alloc_new _ _
        have B5 := B4.trans (b5.mono B4.size)
        have f0 : w5.cell? ⟨w4.heap.size, 0, none⟩ = some (.func (.func 35) #[] #[.pointer (some ⟨w.heap.size + 1, 0, none⟩)]) := by rw [cell_of_row _ _ _ _ _ _ fb]; rfl
        obtain ⟨⟨g0, g1, g2⟩, s0⟩ := hG1.out w5 B5
        have hA5 := Lib.hid (hIa.out w5 B5)
        have hB5 := Lib.hid (hIb.out w5 B5)
        have hC5 := Lib.hid (hCo.out w4.heap.size w5 B5 fb)
        have hF5 := Lib.hid (fin.out w5 B5)
        replace hw5 := Lib.hid hw5
        clear hR hHs hAs hCo hIa hIb B4 hG1 b5 fb B5 hF4
        go_upto_region 5 with (fail)
        rw [← hw5.out]
        go_wp2_with fail
        refine hA5.out.mono ?_
        rintro e w6 ⟨rfl, rfl⟩
        clear hA5
        cases p4 with
        | false =>
          have hr2 : Hid (R = false) := hr.out
          clear hr hB5 hC5
          go_wp2_with fail
          go_ret
          exact ⟨ret_bool hr2.out.symm, hF5.out⟩
        | true =>
          have hr2 : Hid (R = (!p5 && !p6)) := hr.out
          clear hr
          go_wp2_with fail
          refine hB5.out.mono ?_
          rintro e w6 ⟨rfl, rfl⟩
          clear hB5
          cases p5 with
          | true =>
            have hr3 : Hid (R = false) := hr2.out
            clear hr2 hC5
            go_wp2_with fail
            go_ret
            exact ⟨ret_bool hr3.out.symm, hF5.out⟩
          | false =>
            have hr3 : Hid (R = !p6) := hr2.out
            clear hr2
            go_wp2_with fail
            refine hC5.out.mono ?_
            rintro e w7 ⟨rfl, b7⟩
            have hF7 := Lib.hid (hF5.out.trans (b7.mono hF5.out.size))
            clear b7 hC5 g0 g1 g2 s0 f0
            go_wp2_with fail
            go_ret
            exact ⟨ret_bool hr3.out.symm, hF7.out⟩

end Go.Proofs.Ythmkmjkbfjhffaa
