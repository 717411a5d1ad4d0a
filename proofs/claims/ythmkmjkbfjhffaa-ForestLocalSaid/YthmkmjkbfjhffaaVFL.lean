/- Contracts and facts. -/
import Derived.Deep.LoopGhost
import Derived.Handy
import Derived.WalkMore
import Derived.Test.YthmkmjkbfjhffaaVFH
set_option linter.unusedSimpArgs false
set_option maxRecDepth 100000
set_option maxHeartbeats 4000000
namespace Go.Proofs.Ythmkmjkbfjhffaa
open Go.RowKit
theorem two_ints (W : World) (a b : Int) : DL (W.alloc (.cells #[.int .i64 a, .int .i64 b] 3)) (.slice (some ⟨W.heap.size, 0, none⟩) 2 2) [a, b] := by
  refine .inr ⟨by simp, W.heap.size, 0, 2, rfl, by simp, by simp, fun j x hx => ?_⟩
  have h := heap_alloc_new W (.cells #[.int .i64 a, .int .i64 b] 3)
  have hj := (List.getElem?_eq_some_iff.1 hx).1
  simp only [List.length_cons, List.length_nil] at hj
  rw [Nat.zero_add, cell_of_row _ _ _ _ _ _ h]
  rcases j with _ | _ | j
  · simp at hx; subst hx; rfl
  · simp at hx; subst hx; rfl
  · omega
theorem holds_two {g : Gr} {a b : Int} (h : holdsF g [a, b] = true) : g.ok = true ∧ a ∈ keysV g.vs ∧ b ∈ keysV g.vs := by
  unfold holdsF missP at h
  simp only [Bool.and_eq_true, Bool.not_eq_true', List.any_cons, List.any_nil, Bool.or_false, Bool.or_eq_false_iff, Bool.not_eq_false'] at h
  obtain ⟨h0, h1, h2⟩ := h
  rw [List.any_eq_true] at h1 h2
  obtain ⟨u, u1, u2⟩ := h1
  obtain ⟨v, v1, v2⟩ := h2
  exact ⟨h0, mem_keysV.2 ⟨u, u1, by simpa using u2⟩, mem_keysV.2 ⟨v, v1, by simpa using v2⟩⟩
def connF (g : Gr) (a b : Int) : Bool × Int := if holdsF g [a, b] = true then (decide ((gp (growF g.es (keysV g.vs)) a).root = (gp (growF g.es (keysV g.vs)) b).root), 0) else (false, 70)
set_option maxRecDepth 100000 in
theorem Connected_any (v : Value) (g : Gr) (a b : Int) (w : World) (hv : GV w v g) (hn : g.small) :
    Calls Try.prog 10 #[v, .int .i64 a, .int .i64 b] w fun e w' => e = .returned (.tuple #[.bool (connF g a b).1, .int .i64 (connF g a b).2]) ∧ Below w.heap.size w w' := by
  obtain ⟨a1, a2, b1, b2, c1v, c2, rfl, hv1, _, _⟩ := gv_shape hv
  have hR : Hid (connF g a b = if holdsF g [a, b] = true then (decide ((gp (growF g.es (keysV g.vs)) a).root = (gp (growF g.es (keysV g.vs)) b).root), 0) else (false, 70)) := rfl
  obtain ⟨w1, hw1⟩ : ∃ w1, w1 = w.alloc (.cells #[.slice a1 g.vs.length a2, .slice b1 g.es.length b2, .slice c1v g.ds.length c2] 28) := ⟨_, rfl⟩
  have gb : w1.heap[w.heap.size]? = some (.cells #[.slice a1 g.vs.length a2, .slice b1 g.es.length b2, .slice c1v g.ds.length c2] 28 (0, 0)) := by rw [hw1]; exact heap_alloc_new w _
  have B0 : Below w.heap.size w w1 := by rw [hw1]; exact (Below.refl _ w).alloc (Nat.le_refl _) _
  have hs1 : w1.heap.size = w.heap.size + 1 := by rw [hw1]; simp
  obtain ⟨g0, g1, g2⟩ := box3g gb
  have hG1 := Lib.hid (fun W (q : Below w1.heap.size w1 W) => box3g ((q.block _ (by omega)).trans gb))
  have B1 : Below w1.heap.size w1 (w1.alloc (.cells #[.int .i64 a, .int .i64 b] 3)) := (Below.refl _ w1).alloc (Nat.le_refl _) _
  have hHo := Lib.hid (holds_any _ g _ [a, b] (w1.alloc (.cells #[.int .i64 a, .int .i64 b] 3)) ((hv.below B0).below B1) hn (two_ints w1 a b) (by simp) (fun h => by have := (ok_facts h).1; omega))
  have hB1 := Lib.hid B1
  have hGr := Lib.hid (fun (h : g.ok = true) W (q : Below w1.heap.size w1 W) => grow_any _ g W ((hv.below B0).below q) (ok_facts h).1 (ok_facts h).2)
  have hok := Lib.hid (fun h => (holds_two (g := g) (a := a) (b := b) h).1)
  replace hw1 := Lib.hid hw1
  have hB0 := Lib.hid B0
  have f0 := fld0
  generalize connF g a b = R at *
  obtain ⟨R1, R2⟩ := R
  generalize holdsF g [a, b] = ho at *
  generalize growF g.es (keysV g.vs) = m at *
  generalize g.vs.length = n1 at *
  generalize g.es.length = n2 at *
  generalize g.ds.length = n3 at *
  clear hs1 B0 B1 gb hv hv1
  cases ho with
  | false =>
    obtain ⟨r1, r2⟩ := Prod.mk.inj hR.out
    replace r1 := Lib.hid r1
    replace r2 := Lib.hid r2
    clear hR hGr hok
    go_enter Try.func10, Try.ntmps10
    go_upto_region 1 with (fail)
    rw [← hw1.out]
    go_wp2_with fail
    refine hHo.out.mono ?_
    rintro e w2 ⟨rfl, b2⟩
    have B2 := Lib.hid ((hB0.out.trans (hB1.out.mono hB0.out.size)).trans (b2.mono (hB0.out.trans (hB1.out.mono hB0.out.size)).size))
    clear b2 hHo g0 g1 g2
    go_wp2_with fail
    go_ret2
    rw [r1.out, r2.out]
    exact ⟨rfl, B2.out⟩
  | true =>
    obtain ⟨r1, r2⟩ := Prod.mk.inj hR.out
    replace r1 := Lib.hid r1
    replace r2 := Lib.hid r2
    have hg2 := Lib.hid (hGr.out (hok.out rfl))
    clear hR hok hGr
    go_enter Try.func10, Try.ntmps10
    go_upto_region 1 with (fail)
    rw [← hw1.out]
    go_wp2_with fail
    refine hHo.out.mono ?_
    rintro e w2 ⟨rfl, b2⟩
    have B2 := Lib.hid (hB1.out.trans (b2.mono hB1.out.size))
    clear b2 hHo g0 g1 g2
    obtain ⟨g0, g1, g2⟩ := hG1.out w2 B2.out
    go_wp2_with fail
    refine (hg2.out w2 B2.out).mono ?_
    rintro e w3 ⟨mb, rfl, h1, h2, hP, b3⟩
    have B3 := Lib.hid (hB0.out.trans ((B2.out.trans (b3.mono B2.out.size)).mono hB0.out.size))
    have hget := hP.get
    clear b3 g0 g1 g2 hP hg2
    go_wp2_with fail
    go_ret2
    rw [r1.out, r2.out]
    refine ⟨?_, B3.out⟩
    simp
    rw [Bool.eq_iff_iff]; simp

end Go.Proofs.Ythmkmjkbfjhffaa
/- Contracts and facts. -/
set_option linter.unusedSimpArgs false
set_option maxRecDepth 100000
set_option maxHeartbeats 4000000
namespace Go.Proofs.Ythmkmjkbfjhffaa
open Go.RowKit
/-- the rows of several slices, one behind the other -/
theorem join_any (s1 s2 : Value) (l1 l2 : List Int) (jb : Nat) (W : World) (hj : W.heap[jb]? = some (.cells #[s1, s2] 26 (0, 0))) (h1 : DL W s1 l1) (h2 : DL W s2 l2) (hn : l1.length + l2.length ≤ 1000) :
    Calls Try.prog 32 #[.slice (some ⟨jb, 0, none⟩) 2 2] W fun e w' => ∃ r, e = .returned r ∧ OwnI w' W.heap.size r (l1 ++ l2) ∧ Below W.heap.size W w' := by
  have hlt := (Array.getElem?_eq_some_iff.1 hj).1
  obtain ⟨x1, y1, rfl⟩ := h1.shape
  obtain ⟨x2, y2, rfl⟩ := h2.shape
  have hC := Lib.hid (fun W2 (q : Below W.heap.size W W2) => (show W2.cell? ⟨jb, 0, none⟩ = some (.slice x1 l1.length y1) ∧ W2.cell? ⟨jb, 1, none⟩ = some (.slice x2 l2.length y2) from ⟨by rw [cell_of_row _ _ _ _ _ _ ((q.block _ hlt).trans hj)]; rfl, by rw [cell_of_row _ _ _ _ _ _ ((q.block _ hlt).trans hj)]; rfl⟩))
  have hA1 := Lib.hid (fun (v : Value) W2 (q : Below W.heap.size W W2) (ho : OwnI W2 W.heap.size v []) => appI W2 W.heap.size v _ [] l1 ho (h1.below q) (by simp; omega) q.size)
  have hA2 := Lib.hid (fun (v : Value) W2 (q : Below W.heap.size W W2) (ho : OwnI W2 W.heap.size v l1) => appI W2 W.heap.size v _ l1 l2 ho (h2.below q) (by omega) q.size)
  generalize l1.length = n1 at *
  generalize l2.length = n2 at *
  clear hj h1 h2
  go_enter Try.func32, Try.ntmps32
  go_wp2_with fail
  go_loopg [3, 8] 2 (fun n lv iv wr => Below W.heap.size W wr ∧ ((n = 2 ∧ iv = .int .i64 0 ∧ OwnI wr W.heap.size lv []) ∨ (n = 1 ∧ iv = .int .i64 1 ∧ OwnI wr W.heap.size lv l1) ∨ (n = 0 ∧ iv = .int .i64 2 ∧ OwnI wr W.heap.size lv (l1 ++ l2))))
  case atStart => exact ⟨Below.refl _ _, .inl ⟨rfl, rfl, World.ownsRow_nil _ _ _ _⟩⟩
  case round =>
    obtain ⟨B, h⟩ := hrel
    obtain ⟨wo, rfl⟩ : ∃ x, x = wr := ⟨_, rfl⟩
    obtain ⟨c0, c1⟩ := hC.out wo B
    rcases h with ⟨hg, rfl, ho⟩ | ⟨hg, rfl, ho⟩ | ⟨hg, rfl, ho⟩
    · obtain ⟨v', w', hr, ho2, g2⟩ := hA1.out _ wo B ho
      have hb2 := Lib.hid (B.grown g2 B.size (fun k e => (OwnI.base ho k e).1))
      replace ho2 := Lib.hid ho2
      replace hg := Lib.hid hg
      clear ho g2
      go_wp2_with (at_builtin; refine wpList_append_runB rfl (.tmp 12) (.tmp 13) 26 rfl u3 (.slice x1 n1 y1) rfl rfl _ _ hr ?_)
      go_roundg 1
      case measure => have := hg.out; omega
      case rel => exact ⟨hb2.out, .inr (.inl ⟨rfl, rfl, ho2.out⟩)⟩
    · obtain ⟨v', w', hr, ho2, g2⟩ := hA2.out _ wo B ho
      have hb2 := Lib.hid (B.grown g2 B.size (fun k e => (OwnI.base ho k e).1))
      replace ho2 := Lib.hid ho2
      replace hg := Lib.hid hg
      clear ho g2
      go_wp2_with (at_builtin; refine wpList_append_runB rfl (.tmp 12) (.tmp 13) 26 rfl u3 (.slice x2 n2 y2) rfl rfl _ _ hr ?_)
      go_roundg 0
      case measure => have := hg.out; omega
      case rel => exact ⟨hb2.out, .inr (.inr ⟨rfl, rfl, ho2.out⟩)⟩
    · replace ho := Lib.hid ho
      clear hg
      go_wp2_with fail
      go_ret
      exact ⟨_, rfl, ho.out, B⟩

end Go.Proofs.Ythmkmjkbfjhffaa
