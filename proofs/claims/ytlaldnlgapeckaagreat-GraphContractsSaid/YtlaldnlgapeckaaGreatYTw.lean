/- Two changes in a row (out of Gc), and what of Gh needs no change of the reference's making: for claims that reach no Changed. -/
import Derived.Test.YtlaldnlgapeckaaGreatYMw
import Derived.Test.YtlaldnlgapeckaaGreatYS
import Derived.Test.YtlaldnlgapeckaaGreatYX
import Derived.Deep.CutRange
namespace Go.Proofs.YtlaldnlgapeckaaGreat
open Go.RowKit
theorem plI_ge (ks : List Int) (x : Int) : (0 ≤ plI ks x) ↔ x ∈ ks := by
  have h := plI_neg ks x
  constructor
  · intro h0; exact Classical.byContradiction fun hn => by have := h.2 hn; omega
  · intro hm; exact Classical.byContradiction fun hn => (h.1 (by omega)) hm
theorem L5.below {W W' : World} {v : Value} {l : List F5} (h : L5 W v l) (B : Below W.heap.size W W') : L5 W' v l := by
  rcases h with h | ⟨h1, b, o, c, h2, h3, h4, h5⟩
  · exact .inl h
  · exact .inr ⟨h1, b, o, c, h2, h3, Nat.lt_of_lt_of_le h4 B.size, fun j r e i u hu => by rw [B.cell (by simpa using h4)]; exact h5 j r e i u hu⟩
theorem lc_two {W : World} {c d : Ch} {a b a' b' : Value} (h1 : DL W a c.ends) (h2 : DL W b c.deps) (h3 : DL W a' d.ends) (h4 : DL W b' d.deps) : LC (W.alloc (.cells #[.int .i64 c.kind, .int .i64 c.v.id, .int .i64 c.v.side, .int .i64 c.e.id, .int .i64 c.e.src, .int .i64 c.e.dst, .bool c.e.dir, .int .i64 c.e.wt, .int .i64 c.e.cap, .int .i64 c.id, .int .i64 c.n, a, b, .int .i64 d.kind, .int .i64 d.v.id, .int .i64 d.v.side, .int .i64 d.e.id, .int .i64 d.e.src, .int .i64 d.e.dst, .bool d.e.dir, .int .i64 d.e.wt, .int .i64 d.e.cap, .int .i64 d.id, .int .i64 d.n, a', b'] 33)) (.slice (some ⟨W.heap.size, 0, none⟩) 2 2) [c, d] := by
  have B : Below W.heap.size W (W.alloc (.cells #[.int .i64 c.kind, .int .i64 c.v.id, .int .i64 c.v.side, .int .i64 c.e.id, .int .i64 c.e.src, .int .i64 c.e.dst, .bool c.e.dir, .int .i64 c.e.wt, .int .i64 c.e.cap, .int .i64 c.id, .int .i64 c.n, a, b, .int .i64 d.kind, .int .i64 d.v.id, .int .i64 d.v.side, .int .i64 d.e.id, .int .i64 d.e.src, .int .i64 d.e.dst, .bool d.e.dir, .int .i64 d.e.wt, .int .i64 d.e.cap, .int .i64 d.id, .int .i64 d.n, a', b'] 33)) := (Below.refl _ W).alloc (Nat.le_refl _) _
  refine Or.inr ⟨by simp, W.heap.size, 0, 2, by simp, by simp, by simp, fun j c' e => ?_⟩
  match j, e with
  | 0, e =>
    simp at e
    subst e
    refine ⟨a, b, fun i t hu => ?_, h1.below B, h2.below B⟩
    simp only [Nat.zero_mul, Nat.zero_add]
    rw [cell_of_row _ _ _ _ _ _ (heap_alloc_new W _)]
    have hi : i < 13 := (Array.getElem?_eq_some_iff.1 hu).1
    have hl : i = 0 ∨ i = 1 ∨ i = 2 ∨ i = 3 ∨ i = 4 ∨ i = 5 ∨ i = 6 ∨ i = 7 ∨ i = 8 ∨ i = 9 ∨ i = 10 ∨ i = 11 ∨ i = 12 := by omega
    rcases hl with rfl | rfl | rfl | rfl | rfl | rfl | rfl | rfl | rfl | rfl | rfl | rfl | rfl <;> exact hu
  | 1, e =>
    simp at e
    subst e
    refine ⟨a', b', fun i t hu => ?_, h3.below B, h4.below B⟩
    rw [cell_of_row _ _ _ _ _ _ (heap_alloc_new W _)]
    have hi : i < 13 := (Array.getElem?_eq_some_iff.1 hu).1
    have hl : i = 0 ∨ i = 1 ∨ i = 2 ∨ i = 3 ∨ i = 4 ∨ i = 5 ∨ i = 6 ∨ i = 7 ∨ i = 8 ∨ i = 9 ∨ i = 10 ∨ i = 11 ∨ i = 12 := by omega
    rcases hl with rfl | rfl | rfl | rfl | rfl | rfl | rfl | rfl | rfl | rfl | rfl | rfl | rfl <;> exact hu
  | j + 2, e => simp at e
def GrSm (g : Gr) : Prop := g.vs.length ≤ 1000000 ∧ g.es.length ≤ 1000000 ∧ g.ds.length ≤ 1000000
def TwoPost (G : Gr) (c d : Ch) (W : World) (e : Ending) (w' : World) : Prop :=
  match runF G [c, d] with
  | none => (∃ m : Int, e = .returned (.tuple #[.agg #[.slice none 0 0, .slice none 0 0, .slice none 0 0], .int .i64 m, .int .i64 30])) ∧ Below W.heap.size W w'
  | some g' => ∃ r, e = .returned (.tuple #[r, .int .i64 2, .int .i64 0]) ∧ GA w' W r g'
theorem all_two (vG : Value) (G : Gr) (c d : Ch) (a b a' b' : Value) (W : World) (hg : GV W vG G) (hok : G.ok = true) (hs : GrSm G) (h1 : DL W a c.ends) (h2 : DL W b c.deps) (h3 : DL W a' d.ends) (h4 : DL W b' d.deps)
    (hl : (c.ends.length ≤ 1000000 ∧ c.deps.length ≤ 1000000) ∧ d.ends.length ≤ 1000000 ∧ d.deps.length ≤ 1000000) :
    Calls Tryz.prog 24 #[vG, .slice (some ⟨W.heap.size, 0, none⟩) 2 2] (W.alloc (.cells #[.int .i64 c.kind, .int .i64 c.v.id, .int .i64 c.v.side, .int .i64 c.e.id, .int .i64 c.e.src, .int .i64 c.e.dst, .bool c.e.dir, .int .i64 c.e.wt, .int .i64 c.e.cap, .int .i64 c.id, .int .i64 c.n, a, b, .int .i64 d.kind, .int .i64 d.v.id, .int .i64 d.v.side, .int .i64 d.e.id, .int .i64 d.e.src, .int .i64 d.e.dst, .bool d.e.dir, .int .i64 d.e.wt, .int .i64 d.e.cap, .int .i64 d.id, .int .i64 d.n, a', b'] 33)) (TwoPost G c d (W.alloc (.cells #[.int .i64 c.kind, .int .i64 c.v.id, .int .i64 c.v.side, .int .i64 c.e.id, .int .i64 c.e.src, .int .i64 c.e.dst, .bool c.e.dir, .int .i64 c.e.wt, .int .i64 c.e.cap, .int .i64 c.id, .int .i64 c.n, a, b, .int .i64 d.kind, .int .i64 d.v.id, .int .i64 d.v.side, .int .i64 d.e.id, .int .i64 d.e.src, .int .i64 d.e.dst, .bool d.e.dir, .int .i64 d.e.wt, .int .i64 d.e.cap, .int .i64 d.id, .int .i64 d.n, a', b'] 33))) := by
  have hlc := lc_two (W := W) h1 h2 h3 h4
  have hg2 := hg.below (show Below W.heap.size W (W.alloc (.cells #[.int .i64 c.kind, .int .i64 c.v.id, .int .i64 c.v.side, .int .i64 c.e.id, .int .i64 c.e.src, .int .i64 c.e.dst, .bool c.e.dir, .int .i64 c.e.wt, .int .i64 c.e.cap, .int .i64 c.id, .int .i64 c.n, a, b, .int .i64 d.kind, .int .i64 d.v.id, .int .i64 d.v.side, .int .i64 d.e.id, .int .i64 d.e.src, .int .i64 d.e.dst, .bool d.e.dir, .int .i64 d.e.wt, .int .i64 d.e.cap, .int .i64 d.id, .int .i64 d.n, a', b'] 33)) from (Below.refl _ W).alloc (Nat.le_refl _) _)
  generalize W.alloc (.cells #[.int .i64 c.kind, .int .i64 c.v.id, .int .i64 c.v.side, .int .i64 c.e.id, .int .i64 c.e.src, .int .i64 c.e.dst, .bool c.e.dir, .int .i64 c.e.wt, .int .i64 c.e.cap, .int .i64 c.id, .int .i64 c.n, a, b, .int .i64 d.kind, .int .i64 d.v.id, .int .i64 d.v.side, .int .i64 d.e.id, .int .i64 d.e.src, .int .i64 d.e.dst, .bool d.e.dir, .int .i64 d.e.wt, .int .i64 d.e.cap, .int .i64 d.id, .int .i64 d.n, a', b'] 33) = W2 at hlc hg2 ⊢
  generalize (Value.slice (some ⟨W.heap.size, 0, none⟩) 2 2) = vl at hlc ⊢
  have hs2 : ∀ c' ∈ [c, d], c'.ends.length ≤ 1000000 ∧ c'.deps.length ≤ 1000000 := fun c' hc' => by
    simp at hc'
    rcases hc' with rfl | rfl
    · exact hl.1
    · exact hl.2
  unfold TwoPost
  cases hr : runF G [c, d] with
  | none => exact (all_no vG vl G [c, d] W2 hg2 hlc hs (by simp) hs2 hok hr).mono fun e w' h => ⟨⟨_, h.1⟩, h.2⟩
  | some g' => exact (all_ok vG vl G [c, d] g' W2 hg2 hlc hs (by simp) hs2 hok hr).mono fun e w' h => h
end Go.Proofs.YtlaldnlgapeckaaGreat
