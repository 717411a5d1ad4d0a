/- Contracts and facts. -/
import Derived.Deep.LoopGhost
import Derived.Handy
import Derived.WalkMore
import Derived.BigRegion
import Derived.Laws.EntriesVeiled
import Derived.Test.YthmkmjkbfjhffaaVGG
import Derived.Test.YthmkmjkbfjhffaaVTL
import Derived.Test.YthmkmjkbfjhffaaVGC
set_option linter.unusedSimpArgs false
set_option maxRecDepth 100000
set_option maxHeartbeats 4000000
namespace Go.Proofs.Ythmkmjkbfjhffaa
open Go.RowKit
def keepV (n : Int) (es : List Ed) (x : Nm) : Bool := x.1 == n || es.any (fun e => otherI e n == x.1)
def vxAt (g : Gr) (n : Int) : Vx := (g.vs.find? (fun v => v.id == n)).getD ⟨0, 0⟩
theorem five_set (w : World) (p : Nat) (c0 c1 c2 c3 c4 : Value) (t : TypeId) (d0 d1 d2 d3 d4 : Value) (h : w.heap[p]? = some (.cells #[c0, c1, c2, c3, c4] t (0, 0))) :
    (((((w.setCell ⟨p, 0, none⟩ d0).setCell ⟨p, 1, none⟩ d1).setCell ⟨p, 2, none⟩ d2).setCell ⟨p, 3, none⟩ d3).setCell ⟨p, 4, none⟩ d4).heap[p]? = some (.cells #[d0, d1, d2, d3, d4] t (0, 0)) := by
  have h1 := heap_setCell_same w p 0 _ t d0 h
  have h2 := heap_setCell_same _ p 1 _ t d1 h1
  have h3 := heap_setCell_same _ p 2 _ t d2 h2
  have h4 := heap_setCell_same _ p 3 _ t d3 h3
  exact heap_setCell_same _ p 4 _ t d4 h4
def DO (W : World) (base : Nat) (v : Value) (l : List Int) : Prop := (l = [] ∧ ∃ a c, v = .slice a 0 c) ∨ OwnI W base v l
theorem DO.below {W W' : World} {base : Nat} {v : Value} {l : List Int} (h : DO W base v l) (B : Below W.heap.size W W') : DO W' base v l := h.imp id (fun h => own_below h B)
theorem DO.DL {W : World} {base : Nat} {v : Value} {l : List Int} (h : DO W base v l) : DL W v l := by
  rcases h with ⟨rfl, a, c, rfl⟩ | h
  · exact .inl ⟨rfl, _, _, rfl⟩
  · exact OwnI.DL h
theorem grown5 (w : World) (p : Nat) (d0 d1 d2 d3 d4 : Value) : w.grownBy (((((w.setCell ⟨p, 0, none⟩ d0).setCell ⟨p, 1, none⟩ d1).setCell ⟨p, 2, none⟩ d2).setCell ⟨p, 3, none⟩ d3).setCell ⟨p, 4, none⟩ d4) (some p) :=
  ⟨rfl, rfl, rfl, by simp, fun i _ hne => by
    have h : i ≠ p := fun e => hne (by rw [e])
    rw [heap_setCell_other _ _ _ _ (by simpa using h), heap_setCell_other _ _ _ _ (by simpa using h), heap_setCell_other _ _ _ _ (by simpa using h), heap_setCell_other _ _ _ _ (by simpa using h), heap_setCell_other _ _ _ _ (by simpa using h)]⟩
theorem DO5 {w : World} {base p : Nat} {v : Value} {l : List Int} {cs : Array Value} {d0 d1 d2 d3 d4 : Value} (h : DO w base v l) (hp : w.heap[p]? = some (.cells cs 51 (0, 0))) : DO (((((w.setCell ⟨p, 0, none⟩ d0).setCell ⟨p, 1, none⟩ d1).setCell ⟨p, 2, none⟩ d2).setCell ⟨p, 3, none⟩ d3).setCell ⟨p, 4, none⟩ d4) base v l :=
  h.imp id (fun h => own_apart h (grown5 w p d0 d1 d2 d3 d4) (fun b hb e => by
    obtain ⟨_, cur, k1⟩ := own_row h b hb
    cases e
    rw [k1] at hp; injection hp with hp; injection hp with _ hp; cases hp))
theorem own_apartG {W W' : World} {base n : Nat} {e : TypeId} {size : Nat} {v : Value} {xs : List Value} {r : Option Nat} (h : W.ownsRow base e size v n xs) (g : W.grownBy W' r) (hne : ∀ x, v.ownBlock = some x → r ≠ some x) : W'.ownsRow base e size v n xs := by
  refine ⟨h.1, ?_⟩
  rcases h.2 with h2 | ⟨gg, cap, cur, h1, h2, h3, h4⟩
  · exact .inl h2
  · exact .inr ⟨gg, cap, cur, h1, h2, (g.block gg (Array.getElem?_eq_some_iff.1 h3).1 (fun e => hne gg (by rw [h1]; rfl) e.symm)).trans h3, h4⟩
theorem OwnEd5 {w : World} {base p : Nat} {v : Value} {l : List Ed} {cs : Array Value} {d0 d1 d2 d3 d4 : Value} (h : OwnEd w base v l) (hp : w.heap[p]? = some (.cells cs 51 (0, 0))) : OwnEd (((((w.setCell ⟨p, 0, none⟩ d0).setCell ⟨p, 1, none⟩ d1).setCell ⟨p, 2, none⟩ d2).setCell ⟨p, 3, none⟩ d3).setCell ⟨p, 4, none⟩ d4) base v l :=
  own_apartG h (grown5 w p d0 d1 d2 d3 d4) (fun b hb e => by
    obtain ⟨_, cur, k1⟩ := own_row h b hb
    cases e
    rw [k1] at hp; injection hp with hp; injection hp with _ hp; cases hp)

theorem snocNG (W : World) (base q : Nat) (v : Value) (L : List Nm) (x : Nm) (f : Option Addr) (c : Nat) (vs : List Value) (hq : W.heap[q]? = some (.cells #[.int .i64 x.1, .slice f x.2.length c] 54 (0, 0))) (h : OwnN' W base v L vs) (hu : OwnI W base (.slice f x.2.length c) x.2) (hfr : ∀ b, (Value.slice f x.2.length c).ownBlock = some b → ∀ (j : Nat) (u : Value), vs[j]? = some u → u.ownBlock ≠ some b) (hl : L.length ≤ 1000000) (hb : base ≤ W.heap.size) :
    ∃ v' w', (Builtin.append_ #[46, 46] 46 #[v, .slice (some ⟨q, 0, none⟩) 1 1]).run Try.prog W = .ok v' w' ∧ OwnN w' base v' (L ++ [x]) ∧ W.grownBy w' v.ownBlock := by
  obtain ⟨i0, hi, hz0, hz1, hz2⟩ := info_parts info54
  have hmul : (L.length + 1) * 32 ≤ 1000001 * 200 := Nat.mul_le_mul (by omega) (by omega)
  obtain ⟨g, cap, w', hr, ho, hg, _, _⟩ := run_append_lies (P := Try.prog) W 46 46 base 54 i0 _ 2 32 Try.underlying46 hi hz0 hz1 hz2 rfl (by omega) v L.length (cN L vs) h.row ⟨q, 0, none⟩ 1 1 (#[Value.int .i64 x.1, .slice f x.2.length c] : Array Value).toList (by simp)
    (World.news_of_block (cs := #[.int .i64 x.1, .slice f x.2.length c]) (t := 54) (fr := (0, 0)) hq) (by simp [Value.oneCell']) (by omega) (by unfold maxLen; omega) (by omega) hb W.heap.size rfl
  have kept : ∀ (u : Value) (l : List Int), OwnI W base u l → OwnI w' base u l := fun u l ho => by
    refine own_apart ho hg (fun b hb2 e => ?_)
    obtain ⟨_, cur, k1⟩ := own_row ho b hb2
    obtain ⟨_, cur2, k2⟩ := own_row h.row b e
    rw [k1] at k2; injection k2 with k2; injection k2 with _ k2; cases k2
  refine ⟨_, w', hr, ⟨vs ++ [.slice f x.2.length c], by simp [h.len], ?_, fun j y u h1 h2 => ?_, fun i j u u' h1 h2 hij b h3 => ?_⟩, hg⟩
  · rw [cN_snoc L vs x _ h.len.symm, List.length_append]; exact ho
  · by_cases hj : j < L.length
    · rw [List.getElem?_append_left hj] at h1
      rw [List.getElem?_append_left (by rw [h.len]; exact hj)] at h2
      exact kept _ _ (h.lab j y u h1 h2)
    · have hj2 : j = L.length := by
        have := (List.getElem?_eq_some_iff.1 h1).1
        simp at this; omega
      subst hj2
      simp at h1; subst h1
      rw [← h.len] at h2
      simp at h2; subst h2
      exact kept _ _ hu
  · have hv : ∀ (k : Nat) (z : Value), (vs ++ [Value.slice f x.2.length c])[k]? = some z → (vs[k]? = some z ∧ k < vs.length) ∨ (k = vs.length ∧ z = .slice f x.2.length c) := fun k z hz => by
      by_cases hk : k < vs.length
      · rw [List.getElem?_append_left hk] at hz; exact .inl ⟨hz, hk⟩
      · have := (List.getElem?_eq_some_iff.1 hz).1
        simp at this
        have hk2 : k = vs.length := by omega
        subst hk2
        simp at hz; exact .inr ⟨rfl, hz.symm⟩
    rcases hv i u h1 with ⟨a1, a2⟩ | ⟨a1, rfl⟩
    · rcases hv j u' h2 with ⟨b1, b2⟩ | ⟨b1, rfl⟩
      · exact h.ap i j u u' a1 b1 hij b h3
      · exact fun e => hfr b e i u a1 h3
    · rcases hv j u' h2 with ⟨b1, b2⟩ | ⟨b1, rfl⟩
      · exact hfr b h3 j u' b1
      · omega
theorem appL (W : World) (b base : Nat) (u : Value) (k : List Int) (hb : W.heap[b]? = some (.cells #[] 3 (0, 0))) (hbb : base ≤ b) (hu : DL W u k) (hl : k.length ≤ 1000000) (hB : base ≤ W.heap.size) :
    ∃ f c w', (Builtin.append_ #[26, 26] 26 #[.slice (some ⟨b, 0, none⟩) 0 0, u]).run Try.prog W = .ok (.slice f k.length c) w' ∧ OwnI w' base (.slice f k.length c) k ∧ Below W.heap.size W w' ∧ ∀ x, (Value.slice f k.length c).ownBlock = some x → x = b ∨ W.heap.size ≤ x := by
  by_cases hk : k = []
  · subst hk
    obtain ⟨a, c, rfl⟩ := hu.shape
    refine ⟨some ⟨b, 0, none⟩, 0, W, ?_, ⟨rfl, .inr ⟨b, 0, #[], rfl, hbb, hb, by simp, by unfold maxLen; omega, by simp, by simp [cI]⟩⟩, Below.refl _ _, fun x hx => .inl (by simpa [Value.ownBlock] using hx.symm)⟩
    obtain ⟨i0, hi, hz0, hz1, hz2⟩ := info_parts info3
    have hfn := run_firstCells_none (P := Try.prog) (w := W) i0.size 0 0 c
    have hfs := fun x => run_firstCells_some (P := Try.prog) W i0.size 0 x 0 c [] (by simp) (by simp)
    cases a with
    | none => simp [Builtin.append_, run_underlying Try.underlying26, sizeOf, typeInfo, zeroValue, hi, hz0, Builtin.lenOf, Question.forced, hfn, storeCells]
    | some x => simp [Builtin.append_, run_underlying Try.underlying26, sizeOf, typeInfo, zeroValue, hi, hz0, Builtin.lenOf, Question.forced, hfs, storeCells]
  · have hk0 : 0 < k.length := by rcases k with _ | _; exact absurd rfl hk; simp
    obtain ⟨v', w', hr, ho, hg⟩ := appI W W.heap.size (.slice none 0 0) u [] k ⟨rfl, .inl ⟨rfl, rfl⟩⟩ hu (by simpa using hl) (Nat.le_refl _)
    rcases hu with ⟨rfl, _⟩ | ⟨_, bb, o, c, rfl, _⟩
    · exact absurd rfl hk
    · rw [List.nil_append] at ho
      obtain ⟨f, cc, rfl, _, _⟩ := OwnI.form ho
      refine ⟨f, cc, w', (app0_nil W b _ _ _ hk0 hl).trans hr, ?_, (Below.refl _ W).grown hg (Nat.le_refl _) (fun k e => by cases e), fun x hx => .inr (OwnI.base ho x hx).1⟩
      exact ⟨ho.1, ho.2.imp id fun ⟨g, cap, cur, h1, h2, h3⟩ => ⟨g, cap, cur, h1, Nat.le_trans hB h2, h3⟩⟩
/-- the world while a view is made -/
structure VS (w : World) (r p : Nat) (c0 c1 dv ev lb : Value) (ds : List Int) (es : List Ed) (L : List Nm) (W : World) : Prop where
  res : W.heap[r]? = some (.cells #[.int .i64 0, .int .i64 0, .slice none 0 0, .slice none 0 0, .slice none 0 0] 51 (0, 0))
  box : W.heap[p]? = some (.cells #[c0, c1, dv, ev, lb] 51 (0, 0))
  hr : w.heap.size ≤ r
  hp : w.heap.size ≤ p
  rp : r ≠ p
  d : DO W w.heap.size dv ds
  e : OwnEd W w.heap.size ev es
  l : OwnN W w.heap.size lb L
  bel : Below w.heap.size w W
theorem VS.below {w W W' : World} {r p : Nat} {c0 c1 dv ev lb : Value} {ds : List Int} {es : List Ed} {L : List Nm} (h : VS w r p c0 c1 dv ev lb ds es L W) (B : Below W.heap.size W W') : VS w r p c0 c1 dv ev lb ds es L W' :=
  ⟨(B.block _ (Array.getElem?_eq_some_iff.1 h.res).1).trans h.res, (B.block _ (Array.getElem?_eq_some_iff.1 h.box).1).trans h.box, h.hr, h.hp, h.rp, h.d.below B, own_below h.e B, h.l.below B, h.bel.trans (B.mono h.bel.size)⟩
theorem VS.cells {w W : World} {r p : Nat} {c0 c1 dv ev lb : Value} {ds : List Int} {es : List Ed} {L : List Nm} (h : VS w r p c0 c1 dv ev lb ds es L W) : W.cell? ⟨p, 0, none⟩ = some c0 ∧ W.cell? ⟨p, 1, none⟩ = some c1 ∧ W.cell? ⟨p, 2, none⟩ = some dv ∧ W.cell? ⟨p, 3, none⟩ = some ev ∧ W.cell? ⟨p, 4, none⟩ = some lb :=
  ⟨by rw [cell_of_row _ _ _ _ _ _ h.box]; rfl, by rw [cell_of_row _ _ _ _ _ _ h.box]; rfl, by rw [cell_of_row _ _ _ _ _ _ h.box]; rfl, by rw [cell_of_row _ _ _ _ _ _ h.box]; rfl, by rw [cell_of_row _ _ _ _ _ _ h.box]; rfl⟩
theorem OwnN'.apart {W W' : World} {base : Nat} {v : Value} {L : List Nm} {vs : List Value} {rr : Option Nat} (h : OwnN' W base v L vs) (g : W.grownBy W' rr) (hne : ∀ x, rr = some x → ∀ cs, W.heap[x]? ≠ some (.cells cs 54 (0, 0)) ∧ W.heap[x]? ≠ some (.cells cs 3 (0, 0))) : OwnN' W' base v L vs :=
  ⟨h.len, own_apartG h.row g (fun x hx e => by
    obtain ⟨_, cur, k1⟩ := own_row h.row x hx
    exact (hne x e cur).1 k1), fun j x u a b => own_apart (h.lab j x u a b) g (fun y hy e => by
    obtain ⟨_, cur, k1⟩ := own_row (h.lab j x u a b) y hy
    exact (hne y e cur).2 k1), h.ap⟩
theorem VS.put {w W : World} {r p i : Nat} {c0 c1 dv ev lb : Value} {ds : List Int} {es : List Ed} {L : List Nm} (h : VS w r p c0 c1 dv ev lb ds es L W) (u : Value) :
    W.grownBy (W.setCell ⟨p, i, none⟩ u) (some p) ∧ ((W.setCell ⟨p, i, none⟩ u).heap[r]? = some (.cells #[.int .i64 0, .int .i64 0, .slice none 0 0, .slice none 0 0, .slice none 0 0] 51 (0, 0)) ∧ DO (W.setCell ⟨p, i, none⟩ u) w.heap.size dv ds ∧ OwnEd (W.setCell ⟨p, i, none⟩ u) w.heap.size ev es ∧ Below w.heap.size w (W.setCell ⟨p, i, none⟩ u)) := by
  have g : W.grownBy (W.setCell ⟨p, i, none⟩ u) (some p) := ⟨rfl, rfl, rfl, by simp, fun j _ hne => by
    rw [heap_setCell_other _ _ _ _ (by intro e; exact hne (congrArg some e))]⟩
  refine ⟨g, ?_, ?_, ?_, h.bel.setCell (p := ⟨p, i, none⟩) h.hp _⟩
  · rw [heap_setCell_other _ _ _ _ (by simpa using h.rp)]; exact h.res
  · exact h.d.imp id (fun h2 => own_apart h2 g (fun b hb e => by
      obtain ⟨_, cur, k1⟩ := own_row h2 b hb
      cases e
      have := h.box; rw [k1] at this; injection this with this; injection this with _ this; cases this))
  · exact own_apartG h.e g (fun b hb e => by
      obtain ⟨_, cur, k1⟩ := own_row h.e b hb
      cases e
      have := h.box; rw [k1] at this; injection this with this; injection this with _ this; cases this)

end Go.Proofs.Ythmkmjkbfjhffaa
/- Contracts and facts. -/
set_option linter.unusedSimpArgs false
set_option maxRecDepth 100000
set_option maxHeartbeats 4000000
namespace Go.Proofs.Ythmkmjkbfjhffaa
open Go.RowKit

theorem grown_setRow {W : World} {r : Nat} {old cs : Array Value} {t : TypeId} (_ : W.heap[r]? = some (.cells old t (0, 0))) : W.grownBy (W.setRow r cs) (some r) :=
  ⟨rfl, rfl, rfl, by simp [World.setRow], fun i _ hne => by
    have h2 : r ≠ i := fun e => hne (by rw [e])
    unfold World.setRow
    rw [Array.getElem?_modify]
    simp [h2]⟩
def VF (w : World) (c0 c1 : Value) (ds : List Int) (es : List Ed) (L : List Nm) (e : Ending) (w' : World) : Prop :=
  ∃ dv ev lb, e = .returned (.agg #[c0, c1, dv, ev, lb]) ∧ DO w' w.heap.size dv ds ∧ OwnEd w' w.heap.size ev es ∧ OwnN w' w.heap.size lb L ∧ Below w.heap.size w w'
theorem VS.fin {w W : World} {r p : Nat} {c0 c1 dv ev lb : Value} {ds : List Int} {es : List Ed} {L : List Nm} (h : VS w r p c0 c1 dv ev lb ds es L W) (cs : Array Value) :
    DO (W.setRow r cs) w.heap.size dv ds ∧ OwnEd (W.setRow r cs) w.heap.size ev es ∧ OwnN (W.setRow r cs) w.heap.size lb L ∧ Below w.heap.size w (W.setRow r cs) := by
  have g := grown_setRow (cs := cs) h.res
  refine ⟨h.d.imp id (fun h2 => own_apart h2 g (fun b hb e => ?_)), own_apartG h.e g (fun b hb e => ?_), ?_, h.bel.trans (below_row (Below.refl _ _) h.hr cs)⟩
  · obtain ⟨_, cur, k1⟩ := own_row h2 b hb
    cases e
    have := h.res; rw [k1] at this; injection this with this; injection this with _ this; cases this
  · obtain ⟨_, cur, k1⟩ := own_row h.e b hb
    cases e
    have := h.res; rw [k1] at this; injection this with this; injection this with _ this; cases this
  · obtain ⟨vs, hl⟩ := h.l
    refine ⟨vs, hl.apart g (fun x hx cs => ?_)⟩
    cases hx
    rw [h.res]
    exact ⟨fun e => (by injection e with e; injection e with _ e; cases e), fun e => (by injection e with e; injection e with _ e; cases e)⟩

structure VT (w : World) (r p : Nat) (c0 c1 dv ev lb : Value) (ds : List Int) (es : List Ed) (W : World) : Prop where
  res : W.heap[r]? = some (.cells #[.int .i64 0, .int .i64 0, .slice none 0 0, .slice none 0 0, .slice none 0 0] 51 (0, 0))
  box : W.heap[p]? = some (.cells #[c0, c1, dv, ev, lb] 51 (0, 0))
  hr : w.heap.size ≤ r
  hp : w.heap.size ≤ p
  rp : r ≠ p
  d : DO W w.heap.size dv ds
  e : OwnEd W w.heap.size ev es
  bel : Below w.heap.size w W
theorem VS.t {w W : World} {r p : Nat} {c0 c1 dv ev lb : Value} {ds : List Int} {es : List Ed} {L : List Nm} (h : VS w r p c0 c1 dv ev lb ds es L W) : VT w r p c0 c1 dv ev lb ds es W := ⟨h.res, h.box, h.hr, h.hp, h.rp, h.d, h.e, h.bel⟩
theorem VT.s {w W : World} {r p : Nat} {c0 c1 dv ev lb : Value} {ds : List Int} {es : List Ed} {L : List Nm} (h : VT w r p c0 c1 dv ev lb ds es W) (k : OwnN W w.heap.size lb L) : VS w r p c0 c1 dv ev lb ds es L W := ⟨h.res, h.box, h.hr, h.hp, h.rp, h.d, h.e, k, h.bel⟩
theorem two_types {W : World} {x : Nat} {a b : Array Value} {s t : TypeId} (h1 : W.heap[x]? = some (.cells a s (0, 0))) (h2 : W.heap[x]? = some (.cells b t (0, 0))) : s = t := by
  rw [h1] at h2; injection h2 with h2; injection h2
theorem VT.grown {w W W' : World} {r p : Nat} {c0 c1 dv ev lb : Value} {ds : List Int} {es : List Ed} {rr : Option Nat} (h : VT w r p c0 c1 dv ev lb ds es W) (g : W.grownBy W' rr) (hne : ∀ x, rr = some x → w.heap.size ≤ x ∧ ∃ cs, W.heap[x]? = some (.cells cs 54 (0, 0))) : VT w r p c0 c1 dv ev lb ds es W' := by
  have blk : ∀ {q : Nat} {cs : Array Value}, W.heap[q]? = some (.cells cs 51 (0, 0)) → W'.heap[q]? = some (.cells cs 51 (0, 0)) := fun {q cs} hq => by
    rw [g.block q (Array.getElem?_eq_some_iff.1 hq).1 (fun e => by
      obtain ⟨_, cs2, k⟩ := hne q e.symm
      exact absurd (two_types hq k) (by decide))]
    exact hq
  refine ⟨blk h.res, blk h.box, h.hr, h.hp, h.rp, h.d.imp id (fun h2 => own_apart h2 g (fun b hb e => ?_)), own_apartG h.e g (fun b hb e => ?_), h.bel.grown g h.bel.size (fun b hb => (hne b hb).1)⟩
  · obtain ⟨_, cur, k1⟩ := own_row h2 b hb
    obtain ⟨_, cs2, k⟩ := hne b e
    exact absurd (two_types k1 k) (by decide)
  · obtain ⟨_, cur, k1⟩ := own_row h.e b hb
    obtain ⟨_, cs2, k⟩ := hne b e
    exact absurd (two_types k1 k) (by decide)
theorem VT.put {w W : World} {r p : Nat} {c0 c1 dv ev lb : Value} {ds : List Int} {es : List Ed} {L : List Nm} (h : VT w r p c0 c1 dv ev lb ds es W) (u : Value) (k : OwnN W w.heap.size u L) : VS w r p c0 c1 dv ev u ds es L (W.setCell ⟨p, 4, none⟩ u) := by
  have g : W.grownBy (W.setCell ⟨p, 4, none⟩ u) (some p) := ⟨rfl, rfl, rfl, by simp, fun j _ hne => by
    rw [heap_setCell_other _ _ _ _ (by intro e; exact hne (congrArg some e))]⟩
  refine ⟨?_, heap_setCell_same W p 4 _ 51 _ h.box, h.hr, h.hp, h.rp, h.d.imp id (fun h2 => own_apart h2 g (fun b hb e => ?_)), own_apartG h.e g (fun b hb e => ?_), ?_, h.bel.setCell (p := ⟨p, 4, none⟩) h.hp _⟩
  · rw [heap_setCell_other _ _ _ _ (by simpa using h.rp)]; exact h.res
  · obtain ⟨_, cur, k1⟩ := own_row h2 b hb
    cases e
    exact absurd (two_types k1 h.box) (by decide)
  · obtain ⟨_, cur, k1⟩ := own_row h.e b hb
    cases e
    exact absurd (two_types k1 h.box) (by decide)
  · obtain ⟨vs, k⟩ := k
    refine ⟨vs, k.apart g (fun x hx cs => ?_)⟩
    cases hx
    exact ⟨fun e => absurd (two_types e h.box) (by decide), fun e => absurd (two_types e h.box) (by decide)⟩
noncomputable def sfxV (n : Nat) : Code := dropC n (Try.f19.body.getD .skip)
theorem info51 (a b c d e : Value) : (Try.prog.info? 51).map (·.size) = some (#[a, b, c, d, e] : Array Value).size := by kernel_rfl
theorem slice_one (a : Option Addr) (n c : Nat) : (Value.slice a n c).oneCell' = true := rfl
set_option maxRecDepth 1000000 in
set_option maxHeartbeats 8000000 in
theorem view_loop (q0 q3 q4 q5 q7 q9 q10 q11 q12 q13 q14 q15 q16 q17 q18 q19 q20 q21 q22 q23 q24 q25 q26 q27 q28 q29 q30 q31 q32 q33 q34 q35 q36 q37 q38 q39 q40 q41 q42 q43 q44 q45 q46 q47 q48 q49 q50 q51 q52 q53 q54 q55 q56 q57 q58 q59 q60 q61 q62 q63 q64 q65 q66 q67 q68 q69 q70 q71 q72 q73 q74 q75 q76 q77 q78 q79 q80 q81 q82 q83 q84 q85 q86 : Value) (w wA : World) (r p : Nat) (i0 s0 : Int) (d1 : Option Addr) (d2 d3 : Nat) (e1 : Option Addr) (M e2 : Nat) (n : Int) (la : Option Addr) (N lc : Nat) (L : List Nm) (ds : List Int) (es : List Ed)
    (hM : Hid (M = es.length)) (hN : Hid (N = L.length)) (hL : Hid (NL w (.slice la L.length lc) L)) (hMl : M ≤ 1000000000) (hNl : N ≤ 1000000) (hx : Hid (∀ x ∈ L, x.2.length ≤ 1000000))
    (H : Hid (VS w r p (.int .i64 i0) (.int .i64 s0) (.slice d1 d2 d3) (.slice e1 M e2) (.slice none 0 0) ds es [] wA)) :
    Code.wp Try.prog (sfxV 4) (bodyPost Try.prog Try.f19 (VF w (.int .i64 i0) (.int .i64 s0) ds es (L.filter (keepV n es)))) ⟨(q0 :: .slice la N lc :: .int .i64 n :: q3 :: q4 :: q5 :: .pointer (some ⟨r, 0, none⟩) :: q7 :: .pointer (some ⟨p, 0, none⟩) :: q9 :: q10 :: q11 :: q12 :: q13 :: q14 :: q15 :: q16 :: q17 :: q18 :: q19 :: q20 :: q21 :: q22 :: q23 :: q24 :: q25 :: q26 :: q27 :: q28 :: q29 :: q30 :: q31 :: q32 :: q33 :: q34 :: q35 :: q36 :: q37 :: q38 :: q39 :: q40 :: q41 :: q42 :: q43 :: q44 :: q45 :: q46 :: q47 :: q48 :: q49 :: q50 :: q51 :: q52 :: q53 :: q54 :: q55 :: q56 :: q57 :: q58 :: q59 :: q60 :: q61 :: q62 :: q63 :: q64 :: q65 :: q66 :: q67 :: q68 :: q69 :: q70 :: q71 :: q72 :: q73 :: q74 :: q75 :: q76 :: q77 :: q78 :: q79 :: q80 :: q81 :: q82 :: q83 :: q84 :: q85 :: q86 :: []).toArray, []⟩ wA := by
  obtain ⟨R, hR⟩ : ∃ R, Hid (R = L.filter (keepV n es)) := ⟨_, rfl⟩
  rw [← hR.out]
  conv => arg 2; whnf
  obtain ⟨A, hA⟩ : ∃ A : Nat → List Nm, ∀ k, A k = (L.take k).filter (keepV n es) := ⟨_, fun _ => rfl⟩
  have hA0 : Hid (A 0 = []) := by show _ = _; rw [hA]; rfl
  have hAs := Lib.hid (fun (k : Nat) (hk : k < L.length) => (show A (k + 1) = A k ++ (if keepV n es L[k] = true then [L[k]] else []) by
    rw [hA, hA, List.take_succ_eq_append_getElem hk, List.filter_append]
    congr 1
    by_cases h : keepV n es L[k] = true <;> simp [h]))
  have hAe : Hid (A N = R) := by show _ = _; rw [hA, hR.out, hN.out, List.take_of_length_le (Nat.le_refl _)]
  have hAl := Lib.hid (fun k (hk : k ≤ N) => (show (A k).length ≤ N by
    rw [hA]
    refine Nat.le_trans (List.length_filter_le _ _) ?_
    rw [List.length_take]; omega))
  have cellL := Lib.hid (hL.out.cells)
  have hO := Lib.hid (fun (e : Ed) w' => OtherR_any e n w')
  clear hA
  go_wp2_with fail
  go_loopg [9] N (fun q kv wr => ∃ (k : Nat) (lb : Value), k + q = N ∧ kv = .int .i64 k ∧ VS w r p (.int .i64 i0) (.int .i64 s0) (.slice d1 d2 d3) (.slice e1 M e2) lb ds es (A k) wr)
  case atStart => exact ⟨0, _, by omega, rfl, by rw [hA0.out]; exact H.out⟩
  case round =>
  obtain ⟨k, lb, hk, rfl, hS⟩ := hrel
  obtain ⟨wo, rfl⟩ : ∃ x, x = wr := ⟨_, rfl⟩
  clear H hA0
  obtain ⟨lb1, lb2, rfl⟩ := hS.l.NL.shape
  cases gk with
  | zero =>
    have hk2 : k = N := by omega
    have i1 : ¬ (k : Int) < (N : Int) := by omega
    subst hk2
    rw [hAe.out] at hS
    have hS2 := Lib.hid hS
    obtain ⟨x0, x1, x2, x3, x4⟩ := hS.cells
    have rb := Lib.hid hS.res
    clear hS hk i1 hAs hAe hAl cellL
    go_upto_region 15 with (fail)
    go_wp2_with (refine wpList_store_row rfl 51 (.tmp 6) (.tmp 86) rfl r #[.int .i64 i0, .int .i64 s0, .slice d1 d2 d3, .slice e1 M e2, .slice lb1 R.length lb2] rfl rfl 51 _ rb.out (info51 _ _ _ _ _) rfl (by simp [Value.oneCell']) ?_)
    refine bodyPost_ret (v := _) (results_cell_row (fn := Try.f19) rfl _ _ r 51 #[.int .i64 i0, .int .i64 s0, .slice d1 d2 d3, .slice e1 M e2, .slice lb1 R.length lb2] (0, 0) _ rfl (setRow_heap _ _ _ _ _ _ rb.out) Try.underlying51 rfl (info51 _ _ _ _ _)) rfl ?_
    obtain ⟨f1, f2, f3, f4⟩ := hS2.out.fin #[.int .i64 i0, .int .i64 s0, .slice d1 d2 d3, .slice e1 M e2, .slice lb1 R.length lb2]
    exact ⟨_, _, _, rfl, f1, f2, f3, f4⟩
  | succ ga =>
    have hlt : k < N := by omega
    have hkl : k < L.length := by rw [← hN.out]; exact hlt
    obtain ⟨bv, ov, lvk, rfl, cv⟩ := cellL.out k hkl
    have j0 : (0 : Int) ≤ (k : Int) := by omega
    have j1 : (k : Int) < (N : Int) := by omega
    have hle : Hid (k + 1 + ga = N) := by show _ = _; omega
    have hst := Lib.hid (hAs.out k hkl)
    have hln := Lib.hid (hAl.out k (by omega))
    have hxk : Hid (L[k].2.length ≤ 1000000) := hx.out _ (List.getElem_mem _)
    generalize hLk : L[k] = x at *
    clear hLk
    obtain ⟨c0, c1, c2⟩ := cv wo hS.bel
    obtain ⟨NV, hNV⟩ : ∃ NV, Hid (NV = keepV n es x) := ⟨_, rfl⟩
    rw [← hNV.out] at hst
    have hS2 := Lib.hid hS
    have cvW := Lib.hid (fun W (q : Below wo.heap.size wo W) => cv W (hS2.out.bel.trans (q.mono hS2.out.bel.size)))
    clear cv c1 c2 hS hk hlt hAs hAe hAl cellL hkl
    go_upto_region 9 with (fail)
    clear c0
    go_wp2_with fail
    go_loopg [10, 11] M (fun q nv mv wr => ∃ (j : Nat) (b : Bool), j + q = M ∧ nv = .bool b ∧ mv = .int .i64 j ∧ Hid ((b || (es.drop j).any (fun e => otherI e n == x.1)) = NV) ∧ VS w r p (.int .i64 i0) (.int .i64 s0) (.slice d1 d2 d3) (.slice e1 M e2) (.slice lb1 (A k).length lb2) ds es (A k) wr ∧ Below wo.heap.size wo wr)
    case atStart => exact ⟨0, x.1 == n, by omega, rfl, rfl, by show _ = _; rw [hNV.out]; rfl, hS2.out, Below.refl _ _⟩
    case round =>
    obtain ⟨j, b, hj, rfl, rfl, hb, hV, hB⟩ := hrel
    obtain ⟨wi, rfl⟩ : ∃ x, x = wr := ⟨_, rfl⟩
    clear hS2 hNV
    obtain ⟨x0, x1, x2, x3, x4⟩ := hV.cells
    have hV2 := Lib.hid hV
    have hB2 := Lib.hid hB
    have hcl := (OwnEd.EL hV.e).cells
    clear hV hB
    cases gk with
    | zero =>
      have hj2 : M = j := by omega
      have l1 : ¬ (j : Int) < (M : Int) := by omega
      have hbb : b = NV := by
        have := hb.out
        rw [List.drop_of_length_le (by rw [← hj2, hM.out]; exact Nat.le_refl _)] at this
        simpa using this
      clear hb hcl hj
      subst hj2
      subst hbb
      cases b with
      | false =>
        have hAk : Hid (A (k + 1) = A k) := by show _ = _; rw [hst.out]; simp
        clear hst
        go_wp2_with fail
        go_roundg ga
        case measure => omega
        case rel => exact ⟨k + 1, _, hle.out, by go_num, by rw [hAk.out]; exact hV2.out⟩
      | true =>
        have hAk : Hid (A (k + 1) = A k ++ [x]) := by show _ = _; rw [hst.out]; simp
        clear hst
        go_upto_region 14 with (fail)
        clear x0 x1 x2 x3 x4 l1
        obtain ⟨vs, hvs⟩ := hV2.out.l
        have hcW := Lib.hid (fun W (q : Below wi.heap.size wi W) => (show W.cell? ⟨p, 4, none⟩ = some (.slice lb1 (A k).length lb2) ∧ W.cell? ⟨bv, ov + k * 2, none⟩ = some (.int .i64 x.1) ∧ W.cell? ⟨bv, ov + k * 2 + 1, none⟩ = some lvk ∧ DL W lvk x.2 from ⟨(hV2.out.below q).cells.2.2.2.2, (cvW.out W (hB2.out.trans (q.mono hB2.out.size))).1, (cvW.out W (hB2.out.trans (q.mono hB2.out.size))).2.1, (cvW.out W (hB2.out.trans (q.mono hB2.out.size))).2.2⟩))
        have hsW := Lib.hid (fun W (q : Below wi.heap.size wi W) => hvs.below q)
        have hlt2 := Lib.hid (fun (j : Nat) (u : Value) (hu : vs[j]? = some u) (b : Nat) (hb : u.ownBlock = some b) => hvs.lt j u hu b hb)
        have hVW := Lib.hid (fun W (q : Below wi.heap.size wi W) => hV2.out.below q)
        have hbase : Hid (w.heap.size ≤ wi.heap.size) := hV2.out.bel.size
        obtain ⟨la1, la2, hlv⟩ := (hcW.out wi (Below.refl _ _)).2.2.2.shape
        subst hlv
        clear hvs hO cvW hV2 hB2 hM hR
        generalize A k = Lk at *
        refine Rel.c_region (fun _ => false) wi [some (.pointer (some ⟨p, 4, none⟩)), some (.slice lb1 Lk.length lb2), some (.slice (some ⟨bv, ov, none⟩) N lc), some (.int .i64 k), some (.pointer (some ⟨bv, ov + k * 2, none⟩)), some (.pointer (some ⟨bv, ov + k * 2, none⟩)), some (.int .i64 x.1), none, some (.slice (some ⟨bv, ov, none⟩) N lc), some (.int .i64 k), some (.pointer (some ⟨bv, ov + k * 2, none⟩)), some (.pointer (some ⟨bv, ov + k * 2 + 1, none⟩)), some (.slice la1 x.2.length la2), none, none, none, none, none, none]
          (fun i v W => match i with
            | 7 => ∃ q, v = .slice (some ⟨q, 0, none⟩) 0 0 ∧ W.heap[q]? = some (.cells #[] 3 (0, 0)) ∧ wi.heap.size ≤ q
            | 13 => ∃ f c, v = .slice f x.2.length c ∧ OwnI W w.heap.size v x.2 ∧ ∀ bb, v.ownBlock = some bb → wi.heap.size ≤ bb
            | 14 => ∃ f c, v = .agg #[.int .i64 x.1, .slice f x.2.length c] ∧ OwnI W w.heap.size (.slice f x.2.length c) x.2 ∧ ∀ bb, (Value.slice f x.2.length c).ownBlock = some bb → wi.heap.size ≤ bb
            | 15 => ∃ q f c, v = .slice (some ⟨q, 0, none⟩) 1 1 ∧ W.heap[q]? = some (.cells #[.int .i64 x.1, .slice f x.2.length c] 54 (0, 0)) ∧ OwnI W w.heap.size (.slice f x.2.length c) x.2 ∧ ∀ bb, (Value.slice f x.2.length c).ownBlock = some bb → wi.heap.size ≤ bb
            | _ => True)
          (fun i vals W => (i = 17 → vals 17 = .pointer (some ⟨p, 4, none⟩)) ∧ ∃ f m c, (i ≤ 17 → vals 16 = .slice f m c ∧ VT w r p (.int .i64 i0) (.int .i64 s0) (.slice d1 d2 d3) (.slice e1 M e2) (.slice lb1 Lk.length lb2) ds es W ∧ OwnN W w.heap.size (.slice f m c) (Lk ++ [x])) ∧ (i = 18 → VS w r p (.int .i64 i0) (.int .i64 s0) (.slice d1 d2 d3) (.slice e1 M e2) (.slice f m c) ds es (Lk ++ [x]) W)) 16 (by kernel_rfl) (by kernel_rfl) (fun i hi => by cases hi)
          (fun j hj => by simp only [List.getD_eq_getElem?_getD]; rcases Nat.lt_or_ge j 19 with h | h; (obtain rfl | rfl | rfl : j = 16 ∨ j = 17 ∨ j = 18 := by omega); rfl; rfl; rfl; rw [List.getElem?_eq_none (by simp; omega)]; rfl) (by decide) (fun i v W W' h Bl => by
            split at h
            · obtain ⟨q, h1, h2, h3⟩ := h; exact ⟨q, h1, (Bl.block _ (Array.getElem?_eq_some_iff.1 h2).1).trans h2, h3⟩
            · obtain ⟨f, c, h1, h2, h3⟩ := h; exact ⟨f, c, h1, own_below h2 Bl, h3⟩
            · obtain ⟨f, c, h1, h2, h3⟩ := h; exact ⟨f, c, h1, own_below h2 Bl, h3⟩
            · obtain ⟨q, f, c, h1, h2, h3, h4⟩ := h; exact ⟨q, f, c, h1, (Bl.block _ (Array.getElem?_eq_some_iff.1 h2).1).trans h2, own_below h3 Bl, h4⟩
            · exact trivial) ((Below.refl _ wi).drew) (fun vals hO => ?_)
        refine Rel.c_pure rfl (.pointer (some ⟨p, 4, none⟩)) rfl (by decide) (hO 0 _ rfl) (by rfl) (fun w hC hd => ?_) ?_
        · clear hd hO; go_simp
        try simp only [Act.put, zT, z0, zS]
        refine Rel.c_pure rfl (.slice lb1 Lk.length lb2) rfl (by decide) (hO 1 _ rfl) (by rfl) (fun w hC hd => ?_) ?_
        · obtain ⟨y0, y1, y2, _⟩ := hcW.out w hC; clear hd hO; go_simp
        try simp only [Act.put, zT, z0, zS]
        refine Rel.c_pure rfl (.slice (some ⟨bv, ov, none⟩) N lc) rfl (by decide) (hO 2 _ rfl) (by rfl) (fun w hC hd => ?_) ?_
        · clear hd hO; go_simp
        try simp only [Act.put, zT, z0, zS]
        refine Rel.c_pure rfl (.int .i64 k) rfl (by decide) (hO 3 _ rfl) (by rfl) (fun w hC hd => ?_) ?_
        · clear hd hO; go_simp
        try simp only [Act.put, zT, z0, zS]
        refine Rel.c_pure rfl (.pointer (some ⟨bv, ov + k * 2, none⟩)) rfl (by decide) (hO 4 _ rfl) (by rfl) (fun w hC hd => ?_) ?_
        · clear hd hO; go_simp
        try simp only [Act.put, zT, z0, zS]
        refine Rel.c_pure rfl (.pointer (some ⟨bv, ov + k * 2, none⟩)) rfl (by decide) (hO 5 _ rfl) (by rfl) (fun w hC hd => ?_) ?_
        · clear hd hO; go_simp
        try simp only [Act.put, zT, z0, zS]
        refine Rel.c_pure rfl (.int .i64 x.1) rfl (by decide) (hO 6 _ rfl) (by rfl) (fun w hC hd => ?_) ?_
        · obtain ⟨y0, y1, y2, _⟩ := hcW.out w hC; clear hd hO; go_simp
        try simp only [Act.put, zT, z0, zS]
        refine Rel.c_rel rfl rfl (by decide) (by rfl) (fun w hC hd => ?_) ?_
        · refine post_value (.slice (some ⟨w.heap.size, 0, none⟩) 0 0) (w.alloc (.cells #[] 3)) ?_ ⟨(Below.refl _ w).alloc (Nat.le_refl _) _, _, rfl, heap_alloc_new w _, hC.size⟩
          clear hd hO; go_simp
        try simp only [Act.put, zT, z0, zS]
        refine Rel.c_pure rfl (.slice (some ⟨bv, ov, none⟩) N lc) rfl (by decide) (hO 8 _ rfl) (by rfl) (fun w hC hd => ?_) ?_
        · clear hd hO; go_simp
        try simp only [Act.put, zT, z0, zS]
        refine Rel.c_pure rfl (.int .i64 k) rfl (by decide) (hO 9 _ rfl) (by rfl) (fun w hC hd => ?_) ?_
        · clear hd hO; go_simp
        try simp only [Act.put, zT, z0, zS]
        refine Rel.c_pure rfl (.pointer (some ⟨bv, ov + k * 2, none⟩)) rfl (by decide) (hO 10 _ rfl) (by rfl) (fun w hC hd => ?_) ?_
        · clear hd hO; go_simp
        try simp only [Act.put, zT, z0, zS]
        refine Rel.c_pure rfl (.pointer (some ⟨bv, ov + k * 2 + 1, none⟩)) rfl (by decide) (hO 11 _ rfl) (by rfl) (fun w hC hd => ?_) ?_
        · clear hd hO; go_simp
        try simp only [Act.put, zT, z0, zS]
        refine Rel.c_pure rfl (.slice la1 x.2.length la2) rfl (by decide) (hO 12 _ rfl) (by rfl) (fun w hC hd => ?_) ?_
        · obtain ⟨y0, y1, y2, _⟩ := hcW.out w hC; clear hd hO; go_simp
        try simp only [Act.put, zT, z0, zS]
        refine Rel.c_rel rfl rfl (by decide) (by rfl) (fun wz hC hd => ?_) ?_
        · obtain ⟨q, h0, h1, h2⟩ : ∃ q, vals 7 = .slice (some ⟨q, 0, none⟩) 0 0 ∧ wz.heap[q]? = some (.cells #[] 3 (0, 0)) ∧ wi.heap.size ≤ q := hd 7 (by decide)
          obtain ⟨f, c, w', k1, k2, k3, k4⟩ := appL wz q w.heap.size _ x.2 h1 (Nat.le_trans hbase.out h2) (hcW.out wz hC).2.2.2 hxk.out (Nat.le_trans hbase.out hC.size)
          exact post_append (.tmp 75) (.tmp 80) 26 rfl (.slice (some ⟨q, 0, none⟩) 0 0) (.slice la1 x.2.length la2) h0 rfl _ w' k1 ⟨k3, f, c, rfl, k2, fun bb hbb => by
            rcases k4 bb hbb with rfl | h
            · exact h2
            · exact Nat.le_trans hC.size h⟩
        try simp only [Act.put, zT, z0, zS]
        refine Rel.c_rel rfl rfl (by decide) (by rfl) (fun wz hC hd => ?_) ?_
        · obtain ⟨f, c, h1, h2, h3⟩ : ∃ f c, vals 13 = .slice f x.2.length c ∧ OwnI wz w.heap.size (vals 13) x.2 ∧ ∀ bb, (vals 13).ownBlock = some bb → wi.heap.size ≤ bb := hd 13 (by decide)
          rw [h1] at h2 h3
          refine post_value (.agg #[.int .i64 x.1, .slice f x.2.length c]) wz ?_ ⟨Below.refl _ _, _, _, rfl, h2, h3⟩
          rw [h1]
          clear hd hO h1 h2 h3; go_simp
        try simp only [Act.put, zT, z0, zS]
        refine Rel.c_rel rfl rfl (by decide) (by rfl) (fun wz hC hd => ?_) ?_
        · obtain ⟨f, c, h1, h2, h3⟩ : ∃ f c, vals 14 = .agg #[.int .i64 x.1, .slice f x.2.length c] ∧ OwnI wz w.heap.size (.slice f x.2.length c) x.2 ∧ ∀ bb, (Value.slice f x.2.length c).ownBlock = some bb → wi.heap.size ≤ bb := hd 14 (by decide)
          refine post_value (.slice (some ⟨wz.heap.size, 0, none⟩) 1 1) (wz.alloc (.cells #[.int .i64 x.1, .slice f x.2.length c] 54)) ?_ ⟨(Below.refl _ wz).alloc (Nat.le_refl _) _, _, _, _, rfl, heap_alloc_new wz _, own_below h2 ((Below.refl _ wz).alloc (Nat.le_refl _) _), h3⟩
          rw [h1]
          clear hd hO h1 h2 h3; go_simp
        try simp only [Act.put, zT, z0, zS]
        refine Rel.c_tail0 rfl rfl (by rfl) (fun wz hC hd => ?_) ?_
        · obtain ⟨q, f, c, h1, h2, h3, h4⟩ : ∃ q f c, vals 15 = .slice (some ⟨q, 0, none⟩) 1 1 ∧ wz.heap[q]? = some (.cells #[.int .i64 x.1, .slice f x.2.length c] 54 (0, 0)) ∧ OwnI wz w.heap.size (.slice f x.2.length c) x.2 ∧ ∀ bb, (Value.slice f x.2.length c).ownBlock = some bb → wi.heap.size ≤ bb := hd 15 (by decide)
          have hs := hsW.out wz hC
          obtain ⟨v', w', k1, k2, k3⟩ := snocNG wz w.heap.size q _ Lk x f c vs h2 hs h3 (fun b hb j u hu e => by
            have := hlt2.out j u hu b e
            have := h4 b hb
            omega) (by have := hln.out; omega) (Nat.le_trans hbase.out hC.size)
          obtain ⟨f2, c2, rfl⟩ := k2.NL.shape
          exact post_append (.tmp 69) (.tmp 83) 46 rfl (.slice lb1 Lk.length lb2) (.slice (some ⟨q, 0, none⟩) 1 1) rfl h1 _ w' k1 ⟨fun h => absurd h (by decide), f2, _, c2, fun _ => ⟨by simp [Rel.upd], (hVW.out wz hC).t.grown k3 (fun y hy => by
            obtain ⟨y1, cur, y2⟩ := own_row hs.row y hy
            exact ⟨y1, cur, y2⟩), k2⟩, fun h => absurd h (by decide)⟩
        try simp only [Act.put, zT, z0, zS]
        refine Rel.c_tail rfl 16 rfl (by decide) (by rfl) (fun w hF => ?_) ?_
        · obtain ⟨_, f, m, c, h1, _⟩ := hF
          obtain ⟨h1, h2, h3⟩ := h1 (by decide)
          refine post_value (.pointer (some ⟨p, 4, none⟩)) w ?_ ⟨fun _ => by simp [Rel.upd], f, m, c, fun _ => ⟨by simpa [Rel.upd] using h1, h2, h3⟩, fun h => absurd h (by decide)⟩
          clear hO h1; go_simp
        try simp only [Act.put, zT, z0, zS]
        refine Rel.c_tail rfl 17 rfl (by decide) (by rfl) (fun w hF => ?_) ?_
        · obtain ⟨h0, f, m, c, h1, _⟩ := hF
          obtain ⟨h1, h2, h3⟩ := h1 (by decide)
          have h0 := h0 rfl
          refine post_skip' (w.setCell ⟨p, 4, none⟩ (.slice f m c)) ?_ ⟨fun h => absurd h (by decide), f, m, c, fun h => absurd h (by decide), fun _ => h2.put _ h3⟩
          have f0 := frozen_of_row w p 4 _ _ h2.box
          have y0 : w.cell? ⟨p, 4, none⟩ = some (.slice lb1 Lk.length lb2) := by rw [cell_of_row _ _ _ _ _ _ h2.box]; rfl
          rw [h0, h1]
          clear hO h1 h2 h3; go_simp
        try simp only [Act.put, zT, z0, zS]
        refine Rel.c_end ?_
        intro w3 hF
        obtain ⟨_, f, m, c, _, hF⟩ := hF
        have hV3 := Lib.hid (hF rfl)
        clear hF hO
        go_wp2_with fail
        go_roundg ga
        case measure => omega
        case rel => exact ⟨k + 1, _, hle.out, by go_num, by rw [hAk.out]; exact hV3.out⟩
    | succ gb =>
      have hjl : j < M := by omega
      have hje : j < es.length := by rw [← hM.out]; exact hjl
      obtain ⟨eb, eo, rfl, ce⟩ := hcl j hje
      have l1 : (j : Int) < (M : Int) := by omega
      have l0 : (0 : Int) ≤ (j : Int) := by omega
      have hje2 : Hid (j + 1 + gb = M) := by show _ = _; omega
      have hbs := hb.out
      rw [List.drop_eq_getElem_cons hje, List.any_cons] at hbs
      have hcW := Lib.hid (fun W (q : Below wi.heap.size wi W) => (show W.cell? ⟨p, 3, none⟩ = some (.slice (some ⟨eb, eo, none⟩) M e2) ∧ EdAt W eb (eo + j * 6) es[j] ∧ W.cell? ⟨bv, ov + k * 2, none⟩ = some (.int .i64 x.1) from ⟨(hV2.out.below q).cells.2.2.2.1, ce W q, (cvW.out W (hB2.out.trans (q.mono hB2.out.size))).1⟩))
      generalize es[j] = u at *
      have hOu := Lib.hid (OtherR_any u n)
      unfold Ed.val at hOu
      generalize otherI u n = y at *
      unfold EdAt at hcW
      clear ce hcl hj hb hO
      cases b with
      | true =>
        have hbn : Hid ((true || (es.drop (j + 1)).any (fun e => otherI e n == x.1)) = NV) := by show _ = _; rw [← hbs]; rfl
        clear hbs
        go_upto_region 12 with (fail)
        refine q_region (fun W => Below wi.heap.size wi W) (by kernel_rfl) (by kernel_rfl) ((Below.refl _ wi).drew) ?_
        repeat (first | (refine q_skip (by rfl) ?_; try simp only [Act.put, zT, z0, zS]) | (refine q_take (v := ?_) (by rfl) ?_ ?_; rotate_left; (first | ((intro w h; clear h; go_simp) <;> with_reducible rfl) | ((intro w h; obtain ⟨z3, ⟨z4, z5, z6, z7, z8, z9⟩, z10⟩ := hcW.out w h; clear h; go_simp) <;> with_reducible rfl)); try simp only [Act.put, zT, z0, zS]))
        refine q_nil ?_
        intro w3 B3
        have hV3 := Lib.hid (hV2.out.below B3)
        have hB3 := Lib.hid (hB2.out.trans (B3.mono hB2.out.size))
        clear x0 x1 x2 x3 x4 hV2 hB2 B3
        go_wp2_with fail
        go_roundg gb
        case measure => omega
        case rel => exact ⟨j + 1, true, hje2.out, rfl, by go_num, hbn, hV3.out, hB3.out⟩
      | false =>
        have hbn : Hid (((y == x.1) || (es.drop (j + 1)).any (fun e => otherI e n == x.1)) = NV) := by show _ = _; rw [← hbs]; rfl
        clear hbs
        go_upto_region 12 with (fail)
        refine q_region (fun W => Below wi.heap.size wi W) (by kernel_rfl) (by kernel_rfl) ((Below.refl _ wi).drew) ?_
        repeat (first | (refine q_skip (by rfl) ?_; try simp only [Act.put, zT, z0, zS]) | (refine q_take (v := ?_) (by rfl) ?_ ?_; rotate_left; (first | ((intro w h; clear h; go_simp) <;> with_reducible rfl) | ((intro w h; obtain ⟨z3, ⟨z4, z5, z6, z7, z8, z9⟩, z10⟩ := hcW.out w h; clear h; go_simp) <;> with_reducible rfl)); try simp only [Act.put, zT, z0, zS]))
        refine q_call (v := _) Try.f42 (by rfl) rfl Try.func42 (by kernel_rfl) (by kernel_rfl) #[.agg #[.int .i64 u.id, .int .i64 u.src, .int .i64 u.dst, .bool u.dir, .int .i64 u.wt, .int .i64 u.cap], .int .i64 n] (by simp [Act.eval]) (fun w h => (hOu.out w).mono fun e w3 ⟨he, hb⟩ => ⟨he, h.trans (hb.mono h.size)⟩) ?_; try simp only [Act.put, zT, z0, zS]
        repeat (first | (refine q_skip (by rfl) ?_; try simp only [Act.put, zT, z0, zS]) | (refine q_take (v := ?_) (by rfl) ?_ ?_; rotate_left; (first | ((intro w h; clear h; go_simp) <;> with_reducible rfl) | ((intro w h; obtain ⟨z3, ⟨z4, z5, z6, z7, z8, z9⟩, z10⟩ := hcW.out w h; clear h; go_simp) <;> with_reducible rfl)); try simp only [Act.put, zT, z0, zS]))
        refine q_nil ?_
        intro w3 B3
        have hV3 := Lib.hid (hV2.out.below B3)
        have hB3 := Lib.hid (hB2.out.trans (B3.mono hB2.out.size))
        clear x0 x1 x2 x3 x4 hV2 hB2 B3
        go_wp2_with fail
        go_roundg gb
        case measure => omega
        case rel => exact ⟨j + 1, (y == x.1), hje2.out, rfl, by go_num, hbn, hV3.out, hB3.out⟩

end Go.Proofs.Ythmkmjkbfjhffaa
/- Contracts and facts. -/
set_option linter.unusedSimpArgs false
set_option maxRecDepth 100000
set_option maxHeartbeats 4000000
namespace Go.Proofs.Ythmkmjkbfjhffaa
open Go.RowKit

theorem VT.put01 {w W : World} {r p : Nat} {c0 c1 dv ev lb : Value} {ds : List Int} {es : List Ed} {L : List Nm} (h : VS w r p c0 c1 dv ev lb ds es L W) (u0 u1 : Value) : VS w r p u0 u1 dv ev lb ds es L ((W.setCell ⟨p, 0, none⟩ u0).setCell ⟨p, 1, none⟩ u1) := by
  have s0 := heap_setCell_same W p 0 _ 51 u0 h.box
  have s1 := heap_setCell_same (W.setCell ⟨p, 0, none⟩ u0) p 1 _ 51 u1 s0
  have g : W.grownBy ((W.setCell ⟨p, 0, none⟩ u0).setCell ⟨p, 1, none⟩ u1) (some p) := ⟨rfl, rfl, rfl, by simp, fun j _ hne => by
    rw [heap_setCell_other _ _ _ _ (by intro e; exact hne (congrArg some e)), heap_setCell_other _ _ _ _ (by intro e; exact hne (congrArg some e))]⟩
  refine ⟨?_, s1, h.hr, h.hp, h.rp, h.d.imp id (fun h2 => own_apart h2 g (fun b hb e => ?_)), own_apartG h.e g (fun b hb e => ?_), ?_, (h.bel.setCell (p := ⟨p, 0, none⟩) h.hp _).setCell (p := ⟨p, 1, none⟩) h.hp _⟩
  · rw [heap_setCell_other _ _ _ _ (by simpa using h.rp), heap_setCell_other _ _ _ _ (by simpa using h.rp)]; exact h.res
  · obtain ⟨_, cur, k1⟩ := own_row h2 b hb
    cases e
    exact absurd (two_types k1 h.box) (by decide)
  · obtain ⟨_, cur, k1⟩ := own_row h.e b hb
    cases e
    exact absurd (two_types k1 h.box) (by decide)
  · obtain ⟨vs, k⟩ := h.l
    refine ⟨vs, k.apart g (fun x hx cs => ?_)⟩
    cases hx
    exact ⟨fun e => absurd (two_types e h.box) (by decide), fun e => absurd (two_types e h.box) (by decide)⟩
set_option maxRecDepth 1000000 in
set_option maxHeartbeats 8000000 in
theorem view_tail (q0 q4 q5 q9 q10 q11 q12 q13 q14 q15 q16 q17 q18 q19 q20 q21 q22 q23 q24 q25 q26 q27 q28 q29 q30 q31 q32 q33 q34 q35 q36 q37 q38 q39 q40 q41 q42 q43 q44 q45 q46 q47 q48 q49 q50 q51 q52 q53 q54 q55 q56 q57 q58 q59 q60 q61 q62 q63 q64 q65 q66 q67 q68 q69 q70 q71 q72 q73 q74 q75 q76 q77 q78 q79 q80 q81 q82 q83 q84 q85 q86 : Value) (w wA : World) (r p gb : Nat) (P : Int) (v : Vx) (a1 : Option Addr) (NV a2 : Nat) (d1 : Option Addr) (d2 d3 : Nat) (e1 : Option Addr) (M e2 : Nat) (n : Int) (la : Option Addr) (N lc : Nat) (L : List Nm) (ds : List Int) (es : List Ed)
    (hM : Hid (M = es.length)) (hN : Hid (N = L.length)) (hL : Hid (NL w (.slice la L.length lc) L)) (hMl : M ≤ 1000000000) (hNl : N ≤ 1000000) (hx : Hid (∀ x ∈ L, x.2.length ≤ 1000000))
    (hgb : Hid (wA.cell? ⟨gb, 0, none⟩ = some (.slice a1 NV a2)))
    (hv : Hid ((P = -1 ∧ v = ⟨0, 0⟩) ∨ ∃ (i b o : Nat), P = (i : Int) ∧ i < NV ∧ a1 = some ⟨b, o, none⟩ ∧ wA.cell? ⟨b, o + i * 2, none⟩ = some (.int .i64 v.id) ∧ wA.cell? ⟨b, o + i * 2 + 1, none⟩ = some (.int .i64 v.side)))
    (H : Hid (VS w r p (.int .i64 0) (.int .i64 0) (.slice d1 d2 d3) (.slice e1 M e2) (.slice none 0 0) ds es [] wA)) :
    Code.wp Try.prog (sfxV 3) (bodyPost Try.prog Try.f19 (VF w (.int .i64 v.id) (.int .i64 v.side) ds es (L.filter (keepV n es)))) ⟨(q0 :: .slice la N lc :: .int .i64 n :: .pointer (some ⟨gb, 0, none⟩) :: q4 :: q5 :: .pointer (some ⟨r, 0, none⟩) :: .int .i64 P :: .pointer (some ⟨p, 0, none⟩) :: q9 :: q10 :: q11 :: q12 :: q13 :: q14 :: q15 :: q16 :: q17 :: q18 :: q19 :: q20 :: q21 :: q22 :: q23 :: q24 :: q25 :: q26 :: q27 :: q28 :: q29 :: q30 :: q31 :: q32 :: q33 :: q34 :: q35 :: q36 :: q37 :: q38 :: q39 :: q40 :: q41 :: q42 :: q43 :: q44 :: q45 :: q46 :: q47 :: q48 :: q49 :: q50 :: q51 :: q52 :: q53 :: q54 :: q55 :: q56 :: q57 :: q58 :: q59 :: q60 :: q61 :: q62 :: q63 :: q64 :: q65 :: q66 :: q67 :: q68 :: q69 :: q70 :: q71 :: q72 :: q73 :: q74 :: q75 :: q76 :: q77 :: q78 :: q79 :: q80 :: q81 :: q82 :: q83 :: q84 :: q85 :: q86 :: []).toArray, []⟩ wA := by
  conv => arg 2; whnf
  rcases hv.out with ⟨rfl, rfl⟩ | ⟨i, b, o, rfl, hi, rfl, k0, k1⟩
  · clear hgb hv
    refine wp_seq_k (fun K0 hK0 => ?_)
    have hK1 := Lib.hid hK0
    clear hK0
    go_wp2_with fail
    refine hK1.out _ _ ?_
    refine wp_eq (D := sfxV 4) (by kernel_rfl) ?_
    exact view_loop _ _ _ _ _ _ _ _ _ _ _ _ _ _ _ _ _ _ _ _ _ _ _ _ _ _ _ _ _ _ _ _ _ _ _ _ _ _ _ _ _ _ _ _ _ _ _ _ _ _ _ _ _ _ _ _ _ _ _ _ _ _ _ _ _ _ _ _ _ _ _ _ _ _ _ _ _ _ _ _ _ _ _ w _ r p 0 0 d1 d2 d3 e1 M e2 n la N lc L ds es hM hN hL hMl hNl hx H
  · have i0 : (0 : Int) ≤ (i : Int) := by omega
    have i1 : (i : Int) < (NV : Int) := by omega
    have f0 := frozen_of_row wA p 0 _ _ H.out.box
    have f1 := frozen_of_row wA p 1 _ _ H.out.box
    have x0 : wA.cell? ⟨p, 0, none⟩ = some (.int .i64 0) := H.out.cells.1
    have x1 : wA.cell? ⟨p, 1, none⟩ = some (.int .i64 0) := H.out.cells.2.1
    have g0 := hgb.out
    have H2 := Lib.hid (VT.put01 H.out (.int .i64 v.id) (.int .i64 v.side))
    clear hgb hv H
    go_upto_region 4 with (fail)
    rename_i K0 hK0
    have hK1 := Lib.hid hK0
    clear hK0
    go_wp2_with fail
    refine hK1.out _ _ ?_
    refine wp_eq (D := sfxV 4) (by kernel_rfl) ?_
    exact view_loop _ _ _ _ _ _ _ _ _ _ _ _ _ _ _ _ _ _ _ _ _ _ _ _ _ _ _ _ _ _ _ _ _ _ _ _ _ _ _ _ _ _ _ _ _ _ _ _ _ _ _ _ _ _ _ _ _ _ _ _ _ _ _ _ _ _ _ _ _ _ _ _ _ _ _ _ _ _ _ _ _ _ _ w _ r p v.id v.side d1 d2 d3 e1 M e2 n la N lc L ds es hM hN hL hMl hNl hx H2

end Go.Proofs.Ythmkmjkbfjhffaa
