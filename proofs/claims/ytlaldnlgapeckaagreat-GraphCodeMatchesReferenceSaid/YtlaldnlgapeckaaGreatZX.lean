/- What Changed makes is in range (plain). -/
import Derived.Test.YtlaldnlgapeckaaGreatYMc
import Derived.Test.YtlaldnlgapeckaaGreatZEc
import Derived.Test.YtlaldnlgapeckaaGreatYG
set_option maxHeartbeats 4000000
namespace Go.Proofs.YtlaldnlgapeckaaGreat
open Go.RowKit
theorem freeF_in (ks : List Int) (m : Nat) (x : Int) (h0 : 0 ≤ x) (h1 : x < m) : 0 ≤ freeF ks m x ∧ freeF ks m x < m := by
 unfold freeF
 split
 ·have := next_lt ks m m x.toNat (by omega);omega
 ·omega
def okE (e : Ed) : Prop := inP e.id ∧ inP e.src ∧ inP e.dst ∧ inP e.wt ∧ inP e.cap
def okCh (c : Ch) : Prop := inP c.kind ∧ (inP c.v.id ∧ inP c.v.side) ∧ okE c.e ∧ inP c.id ∧ inP c.n ∧ ((c.ends.length : Int) ≤ 80 ∧ ∀ x ∈ c.ends, inP x) ∧ ((c.deps.length : Int) ≤ 3 ∧ ∀ x ∈ c.deps, inP x)
theorem okCh_N {c : Ch} (h : okCh c) : ∀ n ∈ chN c, inP n := by
 obtain ⟨h1, ⟨h2, h3⟩, ⟨e1, e2, e3, e4, e5⟩, h4, h5, ⟨h6, h7⟩, h8, h9⟩ := h;intro n hn;simp only [chN, edN, List.mem_append, List.mem_cons, List.not_mem_nil, or_false, or_assoc] at hn;rcases hn with rfl | rfl | rfl | rfl | rfl | rfl | rfl | rfl | rfl | rfl | rfl | rfl | hn | rfl | hn;all_goals first | assumption | exact h7 _ hn | exact h9 _ hn | (unfold inP; omega) | (unfold inP; split <;> omega)
theorem okCh_I {c : Ch} (h : okCh c) : ∀ n ∈ chN c, inI n := fun n hn => by
 have := okCh_N h n hn;unfold inP at this; unfold inI; omega
theorem getD_P {ks : List Int} (h : ∀ k ∈ ks, inP k) (i : Nat) : inP (ks.getD i 0) := by
 rw [List.getD_eq_getElem?_getD];by_cases hi : i < ks.length
 ·rw [List.getElem?_eq_getElem hi]; exact h _ (List.getElem_mem _)
 ·rw [List.getElem?_eq_none (by omega)]; unfold inP; simp
theorem pk_P (x m : Int) (h : 1 ≤ m) (h2 : m ≤ 1000) : inP (pk x m) := by
 have := pk_lo x m h;have := pk_lt x m h;unfold inP; omega
theorem chDepN_three (ks : List Int) (d : Int) : ∀ f k, (chDeps ks d k).length ≤ 3 → (chDeps ks d (chDepN ks d f k)).length ≤ 3 := by
 intro f
 induction f with
 | zero => intro k h; exact h
 | succ f ih =>
  intro k h;unfold chDepN
  split
  ·rename_i hc;apply ih;unfold chDeps
   split
   ·rw [List.length_append, List.length_singleton]; omega
   ·omega
  ·exact h
theorem chDeps_P (ks : List Int) (hk : ∀ k ∈ ks, inP k) (d : Int) : ∀ k, ∀ x ∈ chDeps ks d k, inP x := by
 intro k
 induction k with
 | zero => intro x hx; simp [chDeps] at hx
 | succ k ih =>
  intro x hx;unfold chDeps at hx
  split at hx
  ·rcases List.mem_append.1 hx with h | h
   ·exact ih x h
   ·rw [List.mem_singleton.1 h]; exact getD_P hk _
  ·exact ih x hx
theorem chEnds_P (es : List Ed) (id e : Int) : ∀ x ∈ chEnds es id e 80, inP x := by
 intro x hx;unfold chEnds at hx;obtain ⟨i, hi, rfl⟩ := List.mem_map.1 hx;have := List.mem_range.1 (List.mem_filter.1 hi).1;unfold inP; omega
theorem changed_okCh (g : Gr) (x : F6) (hg : Ok g) : okCh (changedC g x) := by
 have hkv : ∀ k ∈ keysV g.vs, inP k := fun k hk => by
  obtain ⟨v, hv, rfl⟩ := mem_keysV.1 hk;exact (hg.inV v hv).1
 have hke : ∀ k ∈ keysE g.es, inP k := fun k hk => by
  obtain ⟨v, hv, rfl⟩ := mem_keysE.1 hk;exact hg.inE v hv _ (by simp [edN])
 have z : inP 0 := by unfold inP; omega
 have q1 : inP (chId g x) := by unfold chId; split <;> first | exact getD_P hkv _ | exact pk_P _ _ (by omega) (by omega)
 have q2 : inP (chOther g x) := by unfold chOther; split <;> first | exact getD_P hkv _ | exact pk_P _ _ (by omega) (by omega)
 have q3 : inP (chEdge g x) := by unfold chEdge; split <;> first | exact getD_P hke _ | exact pk_P _ _ (by omega) (by omega)
 have q4 : inP (chFree g x) := by
  have := freeF_in (keysV g.vs) 24 (pk x.d 24) (pk_lo _ _ (by omega)) (pk_lt _ _ (by omega));unfold chFree inP; omega
 have q5 : inP (chSpare g x) := by
  have := freeF_in (keysE g.es) 40 (pk x.e 40) (pk_lo _ _ (by omega)) (pk_lt _ _ (by omega));unfold chSpare inP; omega
 have q6 : inP (pk x.d 12 - 3) := by
  have := pk_lo x.d 12 (by omega);have := pk_lt x.d 12 (by omega);unfold inP; omega
 have p4 := pk_P x.e 4 (by omega) (by omega);have p6 := pk_P x.f 6 (by omega) (by omega);have p7 := pk_P x.d 6 (by omega) (by omega);have p8 := pk_P x.d 4 (by omega) (by omega);have n1 := chEnds_len g.es (chId g x) x.e 80;have n2 := chEnds_P g.es (chId g x) x.e;have n3 := chDepN_three (keysV g.vs) x.d g.vs.length 0 (by simp [chDeps]);have n4 := chDeps_P (keysV g.vs) hkv x.d (chDepN (keysV g.vs) x.d g.vs.length 0);have k : ∀ n : Int, 0 ≤ n → n ≤ 10 → inP n := fun n h1 h2 => by unfold inP; omega
 have e0 : ∀ n ∈ ([] : List Int), inP n := fun n h => by simp at h
 unfold changedC;dsimp only
 repeat' split
 all_goals (unfold okCh okE; simp only [zC, zV, zE])
 all_goals (refine ⟨k _ (by omega) (by omega), ⟨?_, ?_⟩, ⟨?_, ?_, ?_, ?_, ?_⟩, ?_, ?_, ⟨?_, ?_⟩, ?_, ?_⟩)
 all_goals first | assumption | (simp; done) | omega
theorem lc_two {W : World} {c d : Ch} {a b a' b' : Value} (h1 : DL W a c.ends) (h2 : DL W b c.deps) (h3 : DL W a' d.ends) (h4 : DL W b' d.deps) : LC (W.alloc (.cells #[.int .i64 c.kind, .int .i64 c.v.id, .int .i64 c.v.side, .int .i64 c.e.id, .int .i64 c.e.src, .int .i64 c.e.dst, .bool c.e.dir, .int .i64 c.e.wt, .int .i64 c.e.cap, .int .i64 c.id, .int .i64 c.n, a, b, .int .i64 d.kind, .int .i64 d.v.id, .int .i64 d.v.side, .int .i64 d.e.id, .int .i64 d.e.src, .int .i64 d.e.dst, .bool d.e.dir, .int .i64 d.e.wt, .int .i64 d.e.cap, .int .i64 d.id, .int .i64 d.n, a', b'] 33)) (.slice (some ⟨W.heap.size, 0, none⟩) 2 2) [c, d] := by
 have B : Below W.heap.size W (W.alloc (.cells #[.int .i64 c.kind, .int .i64 c.v.id, .int .i64 c.v.side, .int .i64 c.e.id, .int .i64 c.e.src, .int .i64 c.e.dst, .bool c.e.dir, .int .i64 c.e.wt, .int .i64 c.e.cap, .int .i64 c.id, .int .i64 c.n, a, b, .int .i64 d.kind, .int .i64 d.v.id, .int .i64 d.v.side, .int .i64 d.e.id, .int .i64 d.e.src, .int .i64 d.e.dst, .bool d.e.dir, .int .i64 d.e.wt, .int .i64 d.e.cap, .int .i64 d.id, .int .i64 d.n, a', b'] 33)) := (Below.refl _ W).alloc (Nat.le_refl _) _;refine Or.inr ⟨by simp, W.heap.size, 0, 2, by simp, by simp, by simp, fun j c' e => ?_⟩
 match j, e with
 | 0, e =>
  simp at e;subst e;refine ⟨a, b, fun i t hu => ?_, h1.below B, h2.below B⟩;simp only [Nat.zero_mul, Nat.zero_add];rw [cell_of_row _ _ _ _ _ _ (heap_alloc_new W _)];have hi : i < 13 := (Array.getElem?_eq_some_iff.1 hu).1;have hl : i = 0 ∨ i = 1 ∨ i = 2 ∨ i = 3 ∨ i = 4 ∨ i = 5 ∨ i = 6 ∨ i = 7 ∨ i = 8 ∨ i = 9 ∨ i = 10 ∨ i = 11 ∨ i = 12 := by omega
  rcases hl with rfl | rfl | rfl | rfl | rfl | rfl | rfl | rfl | rfl | rfl | rfl | rfl | rfl <;> exact hu
 | 1, e =>
  simp at e;subst e;refine ⟨a', b', fun i t hu => ?_, h3.below B, h4.below B⟩;rw [cell_of_row _ _ _ _ _ _ (heap_alloc_new W _)];have hi : i < 13 := (Array.getElem?_eq_some_iff.1 hu).1;have hl : i = 0 ∨ i = 1 ∨ i = 2 ∨ i = 3 ∨ i = 4 ∨ i = 5 ∨ i = 6 ∨ i = 7 ∨ i = 8 ∨ i = 9 ∨ i = 10 ∨ i = 11 ∨ i = 12 := by omega
  rcases hl with rfl | rfl | rfl | rfl | rfl | rfl | rfl | rfl | rfl | rfl | rfl | rfl | rfl <;> exact hu
 | j + 2, e => simp at e
theorem Changed_any (v : Value) (g : Gr) (x : F6) (w : World) (hv : GV w v g) (hn : g.vs.length ≤ 1000000 ∧ g.es.length ≤ 1000000 ∧ g.ds.length ≤ 1000000) (hx : x.inB) :
  Calls Tryz.prog 14 #[v, .agg x.cells] w fun e w' => ∃ r, e = .returned r ∧ CV w' r (changedC g x) ∧ Below w.heap.size w w' :=
 (ChangedO_any v g x w hv hn hx).mono fun _ _ ⟨r, h1, h2, h3⟩ => ⟨r, h1, h2.CV, h3⟩
end Go.Proofs.YtlaldnlgapeckaaGreat
