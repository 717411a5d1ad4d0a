/- Contracts and facts. -/
import Derived.Deep.LoopGhost
import Derived.Handy
import Derived.WalkMore
import Derived.BigRegion
import Derived.Laws.EntriesVeiled
import Derived.Test.YtlnbobclbaieoaaUGG
import Derived.Test.YtlnbobclbaieoaaUTL
import Derived.Test.YtlnbobclbaieoaaUGD
set_option linter.unusedSimpArgs false
set_option maxRecDepth 100000
set_option maxHeartbeats 4000000
namespace Go.Proofs.Ytlnbobclbaieoaa
open Go.RowKit
def keepV (n : Int) (es : List Ed) (x : Nm) : Bool := x.1 == n || es.any (fun e => otherI e n == x.1)
def vxAt (g : Gr) (n : Int) : Vx := (g.vs.find? (fun v => v.id == n)).getD ⟨0, 0⟩
theorem five_set (w : World) (p : Nat) (c0 c1 c2 c3 c4 : Value) (t : TypeId) (d0 d1 d2 d3 d4 : Value) (h : w.heap[p]? = some (.cells #[c0, c1, c2, c3, c4] t (0, 0))) :
    (((((w.setCell ⟨p, 0, none⟩ d0).setCell ⟨p, 1, none⟩ d1).setCell ⟨p, 2, none⟩ d2).setCell ⟨p, 3, none⟩ d3).setCell ⟨p, 4, none⟩ d4).heap[p]? = some (.cells #[d0, d1, d2, d3, d4] t (0, 0)) := by
  have h1 := heap_setCell_same w p 0 _ t d0 h
  have h2 := heap_setCell_same _ p 1 _ t d1 h1
  have h3 := heap_setCell_same _ p 2 _ t d2 h2
  have h4 := heap_setCell_same _ p 3 _ t d3 h3
  exact heap_setCell_same _ p 4 _ t d4 h4
def DO (W : World) (base : Nat) (v : Value) (l : List Int) : Prop := (l = [] ∧ ∃ a c, v = .slice a 0 c) ∨ OwnI W base v l
theorem DO.below {W W' : World} {base : Nat} {v : Value} {l : List Int} (h : DO W base v l) (B : Below W.heap.size W W') : DO W' base v l := h.imp id (fun h => own_below h B)
theorem DO.DL {W : World} {base : Nat} {v : Value} {l : List Int} (h : DO W base v l) : DL W v l := by
  rcases h with ⟨rfl, a, c, rfl⟩ | h
  · exact .inl ⟨rfl, _, _, rfl⟩
  · exact OwnI.DL h
theorem grown5 (w : World) (p : Nat) (d0 d1 d2 d3 d4 : Value) : w.grownBy (((((w.setCell ⟨p, 0, none⟩ d0).setCell ⟨p, 1, none⟩ d1).setCell ⟨p, 2, none⟩ d2).setCell ⟨p, 3, none⟩ d3).setCell ⟨p, 4, none⟩ d4) (some p) :=
  ⟨rfl, rfl, rfl, by simp, fun i _ hne => by
    have h : i ≠ p := fun e => hne (by rw [e])
    rw [heap_setCell_other _ _ _ _ (by simpa using h), heap_setCell_other _ _ _ _ (by simpa using h), heap_setCell_other _ _ _ _ (by simpa using h), heap_setCell_other _ _ _ _ (by simpa using h), heap_setCell_other _ _ _ _ (by simpa using h)]⟩
theorem DO5 {w : World} {base p : Nat} {v : Value} {l : List Int} {cs : Array Value} {d0 d1 d2 d3 d4 : Value} (h : DO w base v l) (hp : w.heap[p]? = some (.cells cs 51 (0, 0))) : DO (((((w.setCell ⟨p, 0, none⟩ d0).setCell ⟨p, 1, none⟩ d1).setCell ⟨p, 2, none⟩ d2).setCell ⟨p, 3, none⟩ d3).setCell ⟨p, 4, none⟩ d4) base v l :=
  h.imp id (fun h => own_apart h (grown5 w p d0 d1 d2 d3 d4) (fun b hb e => by
    obtain ⟨_, cur, k1⟩ := own_row h b hb
    cases e
    rw [k1] at hp; injection hp with hp; injection hp with _ hp; cases hp))
theorem own_apartG {W W' : World} {base n : Nat} {e : TypeId} {size : Nat} {v : Value} {xs : List Value} {r : Option Nat} (h : W.ownsRow base e size v n xs) (g : W.grownBy W' r) (hne : ∀ x, v.ownBlock = some x → r ≠ some x) : W'.ownsRow base e size v n xs := by
  refine ⟨h.1, ?_⟩
  rcases h.2 with h2 | ⟨gg, cap, cur, h1, h2, h3, h4⟩
  · exact .inl h2
  · exact .inr ⟨gg, cap, cur, h1, h2, (g.block gg (Array.getElem?_eq_some_iff.1 h3).1 (fun e => hne gg (by rw [h1]; rfl) e.symm)).trans h3, h4⟩
theorem OwnEd5 {w : World} {base p : Nat} {v : Value} {l : List Ed} {cs : Array Value} {d0 d1 d2 d3 d4 : Value} (h : OwnEd w base v l) (hp : w.heap[p]? = some (.cells cs 51 (0, 0))) : OwnEd (((((w.setCell ⟨p, 0, none⟩ d0).setCell ⟨p, 1, none⟩ d1).setCell ⟨p, 2, none⟩ d2).setCell ⟨p, 3, none⟩ d3).setCell ⟨p, 4, none⟩ d4) base v l :=
  own_apartG h (grown5 w p d0 d1 d2 d3 d4) (fun b hb e => by
    obtain ⟨_, cur, k1⟩ := own_row h b hb
    cases e
    rw [k1] at hp; injection hp with hp; injection hp with _ hp; cases hp)

theorem snocNG (W : World) (base q : Nat) (v : Value) (L : List Nm) (x : Nm) (f : Option Addr) (c : Nat) (vs : List Value) (hq : W.heap[q]? = some (.cells #[.int .i64 x.1, .slice f x.2.length c] 54 (0, 0))) (h : OwnN' W base v L vs) (hu : OwnI W base (.slice f x.2.length c) x.2) (hfr : ∀ b, (Value.slice f x.2.length c).ownBlock = some b → ∀ (j : Nat) (u : Value), vs[j]? = some u → u.ownBlock ≠ some b) (hl : L.length ≤ 1000000) (hb : base ≤ W.heap.size) :
    ∃ v' w', (Builtin.append_ #[46, 46] 46 #[v, .slice (some ⟨q, 0, none⟩) 1 1]).run Try.prog W = .ok v' w' ∧ OwnN w' base v' (L ++ [x]) ∧ W.grownBy w' v.ownBlock := by
  obtain ⟨i0, hi, hz0, hz1, hz2⟩ := info_parts info54
  have hmul : (L.length + 1) * 32 ≤ 1000001 * 200 := Nat.mul_le_mul (by omega) (by omega)
  obtain ⟨g, cap, w', hr, ho, hg, _, _⟩ := run_append_lies (P := Try.prog) W 46 46 base 54 i0 _ 2 32 Try.underlying46 hi hz0 hz1 hz2 rfl (by omega) v L.length (cN L vs) h.row ⟨q, 0, none⟩ 1 1 (#[Value.int .i64 x.1, .slice f x.2.length c] : Array Value).toList (by simp)
    (World.news_of_block (cs := #[.int .i64 x.1, .slice f x.2.length c]) (t := 54) (fr := (0, 0)) hq) (by simp [Value.oneCell']) (by omega) (by unfold maxLen; omega) (by omega) hb W.heap.size rfl
  have kept : ∀ (u : Value) (l : List Int), OwnI W base u l → OwnI w' base u l := fun u l ho => by
    refine own_apart ho hg (fun b hb2 e => ?_)
    obtain ⟨_, cur, k1⟩ := own_row ho b hb2
    obtain ⟨_, cur2, k2⟩ := own_row h.row b e
    rw [k1] at k2; injection k2 with k2; injection k2 with _ k2; cases k2
  refine ⟨_, w', hr, ⟨vs ++ [.slice f x.2.length c], by simp [h.len], ?_, fun j y u h1 h2 => ?_, fun i j u u' h1 h2 hij b h3 => ?_⟩, hg⟩
  · rw [cN_snoc L vs x _ h.len.symm, List.length_append]; exact ho
  · by_cases hj : j < L.length
    · rw [List.getElem?_append_left hj] at h1
      rw [List.getElem?_append_left (by rw [h.len]; exact hj)] at h2
      exact kept _ _ (h.lab j y u h1 h2)
    · have hj2 : j = L.length := by
        have := (List.getElem?_eq_some_iff.1 h1).1
        simp at this; omega
      subst hj2
      simp at h1; subst h1
      rw [← h.len] at h2
      simp at h2; subst h2
      exact kept _ _ hu
  · have hv : ∀ (k : Nat) (z : Value), (vs ++ [Value.slice f x.2.length c])[k]? = some z → (vs[k]? = some z ∧ k < vs.length) ∨ (k = vs.length ∧ z = .slice f x.2.length c) := fun k z hz => by
      by_cases hk : k < vs.length
      · rw [List.getElem?_append_left hk] at hz; exact .inl ⟨hz, hk⟩
      · have := (List.getElem?_eq_some_iff.1 hz).1
        simp at this
        have hk2 : k = vs.length := by omega
        subst hk2
        simp at hz; exact .inr ⟨rfl, hz.symm⟩
    rcases hv i u h1 with ⟨a1, a2⟩ | ⟨a1, rfl⟩
    · rcases hv j u' h2 with ⟨b1, b2⟩ | ⟨b1, rfl⟩
      · exact h.ap i j u u' a1 b1 hij b h3
      · exact fun e => hfr b e i u a1 h3
    · rcases hv j u' h2 with ⟨b1, b2⟩ | ⟨b1, rfl⟩
      · exact hfr b h3 j u' b1
      · omega
theorem appL (W : World) (b base : Nat) (u : Value) (k : List Int) (hb : W.heap[b]? = some (.cells #[] 3 (0, 0))) (hbb : base ≤ b) (hu : DL W u k) (hl : k.length ≤ 1000000) (hB : base ≤ W.heap.size) :
    ∃ f c w', (Builtin.append_ #[26, 26] 26 #[.slice (some ⟨b, 0, none⟩) 0 0, u]).run Try.prog W = .ok (.slice f k.length c) w' ∧ OwnI w' base (.slice f k.length c) k ∧ Below W.heap.size W w' ∧ ∀ x, (Value.slice f k.length c).ownBlock = some x → x = b ∨ W.heap.size ≤ x := by
  by_cases hk : k = []
  · subst hk
    obtain ⟨a, c, rfl⟩ := hu.shape
    refine ⟨some ⟨b, 0, none⟩, 0, W, ?_, ⟨rfl, .inr ⟨b, 0, #[], rfl, hbb, hb, by simp, by unfold maxLen; omega, by simp, by simp [cI]⟩⟩, Below.refl _ _, fun x hx => .inl (by simpa [Value.ownBlock] using hx.symm)⟩
    obtain ⟨i0, hi, hz0, hz1, hz2⟩ := info_parts info3
    have hfn := run_firstCells_none (P := Try.prog) (w := W) i0.size 0 0 c
    have hfs := fun x => run_firstCells_some (P := Try.prog) W i0.size 0 x 0 c [] (by simp) (by simp)
    cases a with
    | none => simp [Builtin.append_, run_underlying Try.underlying26, sizeOf, typeInfo, zeroValue, hi, hz0, Builtin.lenOf, Question.forced, hfn, storeCells]
    | some x => simp [Builtin.append_, run_underlying Try.underlying26, sizeOf, typeInfo, zeroValue, hi, hz0, Builtin.lenOf, Question.forced, hfs, storeCells]
  · have hk0 : 0 < k.length := by rcases k with _ | _; exact absurd rfl hk; simp
    obtain ⟨v', w', hr, ho, hg⟩ := appI W W.heap.size (.slice none 0 0) u [] k ⟨rfl, .inl ⟨rfl, rfl⟩⟩ hu (by simpa using hl) (Nat.le_refl _)
    rcases hu with ⟨rfl, _⟩ | ⟨_, bb, o, c, rfl, _⟩
    · exact absurd rfl hk
    · rw [List.nil_append] at ho
      obtain ⟨f, cc, rfl, _, _⟩ := OwnI.form ho
      refine ⟨f, cc, w', (app0_nil W b _ _ _ hk0 hl).trans hr, ?_, (Below.refl _ W).grown hg (Nat.le_refl _) (fun k e => by cases e), fun x hx => .inr (OwnI.base ho x hx).1⟩
      exact ⟨ho.1, ho.2.imp id fun ⟨g, cap, cur, h1, h2, h3⟩ => ⟨g, cap, cur, h1, Nat.le_trans hB h2, h3⟩⟩
/-- the world while a view is made -/
structure VS (w : World) (r p : Nat) (c0 c1 dv ev lb : Value) (ds : List Int) (es : List Ed) (L : List Nm) (W : World) : Prop where
  res : W.heap[r]? = some (.cells #[.int .i64 0, .int .i64 0, .slice none 0 0, .slice none 0 0, .slice none 0 0] 51 (0, 0))
  box : W.heap[p]? = some (.cells #[c0, c1, dv, ev, lb] 51 (0, 0))
  hr : w.heap.size ≤ r
  hp : w.heap.size ≤ p
  rp : r ≠ p
  d : DO W w.heap.size dv ds
  e : OwnEd W w.heap.size ev es
  l : OwnN W w.heap.size lb L
  bel : Below w.heap.size w W
theorem VS.below {w W W' : World} {r p : Nat} {c0 c1 dv ev lb : Value} {ds : List Int} {es : List Ed} {L : List Nm} (h : VS w r p c0 c1 dv ev lb ds es L W) (B : Below W.heap.size W W') : VS w r p c0 c1 dv ev lb ds es L W' :=
  ⟨(B.block _ (Array.getElem?_eq_some_iff.1 h.res).1).trans h.res, (B.block _ (Array.getElem?_eq_some_iff.1 h.box).1).trans h.box, h.hr, h.hp, h.rp, h.d.below B, own_below h.e B, h.l.below B, h.bel.trans (B.mono h.bel.size)⟩
theorem VS.cells {w W : World} {r p : Nat} {c0 c1 dv ev lb : Value} {ds : List Int} {es : List Ed} {L : List Nm} (h : VS w r p c0 c1 dv ev lb ds es L W) : W.cell? ⟨p, 0, none⟩ = some c0 ∧ W.cell? ⟨p, 1, none⟩ = some c1 ∧ W.cell? ⟨p, 2, none⟩ = some dv ∧ W.cell? ⟨p, 3, none⟩ = some ev ∧ W.cell? ⟨p, 4, none⟩ = some lb :=
  ⟨by rw [cell_of_row _ _ _ _ _ _ h.box]; rfl, by rw [cell_of_row _ _ _ _ _ _ h.box]; rfl, by rw [cell_of_row _ _ _ _ _ _ h.box]; rfl, by rw [cell_of_row _ _ _ _ _ _ h.box]; rfl, by rw [cell_of_row _ _ _ _ _ _ h.box]; rfl⟩
theorem OwnN'.apart {W W' : World} {base : Nat} {v : Value} {L : List Nm} {vs : List Value} {rr : Option Nat} (h : OwnN' W base v L vs) (g : W.grownBy W' rr) (hne : ∀ x, rr = some x → ∀ cs, W.heap[x]? ≠ some (.cells cs 54 (0, 0)) ∧ W.heap[x]? ≠ some (.cells cs 3 (0, 0))) : OwnN' W' base v L vs :=
  ⟨h.len, own_apartG h.row g (fun x hx e => by
    obtain ⟨_, cur, k1⟩ := own_row h.row x hx
    exact (hne x e cur).1 k1), fun j x u a b => own_apart (h.lab j x u a b) g (fun y hy e => by
    obtain ⟨_, cur, k1⟩ := own_row (h.lab j x u a b) y hy
    exact (hne y e cur).2 k1), h.ap⟩
theorem VS.put {w W : World} {r p i : Nat} {c0 c1 dv ev lb : Value} {ds : List Int} {es : List Ed} {L : List Nm} (h : VS w r p c0 c1 dv ev lb ds es L W) (u : Value) :
    W.grownBy (W.setCell ⟨p, i, none⟩ u) (some p) ∧ ((W.setCell ⟨p, i, none⟩ u).heap[r]? = some (.cells #[.int .i64 0, .int .i64 0, .slice none 0 0, .slice none 0 0, .slice none 0 0] 51 (0, 0)) ∧ DO (W.setCell ⟨p, i, none⟩ u) w.heap.size dv ds ∧ OwnEd (W.setCell ⟨p, i, none⟩ u) w.heap.size ev es ∧ Below w.heap.size w (W.setCell ⟨p, i, none⟩ u)) := by
  have g : W.grownBy (W.setCell ⟨p, i, none⟩ u) (some p) := ⟨rfl, rfl, rfl, by simp, fun j _ hne => by
    rw [heap_setCell_other _ _ _ _ (by intro e; exact hne (congrArg some e))]⟩
  refine ⟨g, ?_, ?_, ?_, h.bel.setCell (p := ⟨p, i, none⟩) h.hp _⟩
  · rw [heap_setCell_other _ _ _ _ (by simpa using h.rp)]; exact h.res
  · exact h.d.imp id (fun h2 => own_apart h2 g (fun b hb e => by
      obtain ⟨_, cur, k1⟩ := own_row h2 b hb
      cases e
      have := h.box; rw [k1] at this; injection this with this; injection this with _ this; cases this))
  · exact own_apartG h.e g (fun b hb e => by
      obtain ⟨_, cur, k1⟩ := own_row h.e b hb
      cases e
      have := h.box; rw [k1] at this; injection this with this; injection this with _ this; cases this)

end Go.Proofs.Ytlnbobclbaieoaa
