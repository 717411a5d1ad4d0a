/- A change put ahead of a row of changes, by two appends; rows of changes stay when a graph's box is written. -/
import Derived.Test.YtlaldnlgapeckaaGreatYHs
import Derived.Laws.OwnMore
set_option maxHeartbeats 4000000
namespace Go.Proofs.YtlaldnlgapeckaaGreat
open Go.RowKit
theorem cCh_one {W : World} (ts : List (Ch × Value × Value)) (h : ∀ t ∈ ts, DL W t.2.1 t.1.ends ∧ DL W t.2.2 t.1.deps) : ∀ u ∈ cCh ts, u.oneCell' = true := by
 intro u hu;obtain ⟨t, ht, hu2⟩ := List.mem_flatMap.1 hu;obtain ⟨h1, h2⟩ := h t ht;obtain ⟨a1, a2, e1⟩ := h1.shape;obtain ⟨b1, b2, e2⟩ := h2.shape;rw [e1, e2] at hu2;exact chc_one _ _ _ _ _ _ _ u hu2
theorem prepend_run (W : World) (vu vb : Value) (u : Ch) (bk : List Ch) (h1 : LC W vu [u]) (h2 : LC W vb bk) (hvb : vb = .slice none 0 0 ∨ ∃ a n c, vb = .slice (some a) n c) (hl : bk.length ≤ 1000) :
  ∃ v1 W1 g c W2, (Builtin.append_ #[40, 40] 40 #[.slice (some ⟨W.heap.size, 0, none⟩) 0 0, vu]).run Tryz.prog (W.alloc (.cells #[] 33)) = .ok v1 W1 ∧ (Builtin.append_ #[40, 40] 40 #[v1, vb]).run Tryz.prog W1 = .ok (.slice (some ⟨g, 0, none⟩) (bk.length + 1) c) W2 ∧ LC W2 (.slice (some ⟨g, 0, none⟩) (bk.length + 1) c) (u :: bk) ∧ Below W.heap.size W W2 := by
 obtain ⟨i0, hi, hz0, hz1, hz2⟩ := info_parts info33c;obtain ⟨ts1, e1, d1, c1, _⟩ := h1.triples;obtain ⟨ts2, e2, d2, c2, n2⟩ := h2.triples;obtain ⟨au, cu, rfl⟩ : ∃ a c, vu = .slice (some a) 1 c := by
  rcases h1 with ⟨h, _⟩ | ⟨_, b, o, c, e, _⟩
  ·cases h
  ·exact ⟨_, _, e⟩
 have l1 : ts1.length = 1 := by have := congrArg List.length e1; simpa using this
 have l2 : ts2.length = bk.length := by have := congrArg List.length e2; simpa using this
 have B0 : Below W.heap.size W (W.alloc (.cells #[] 33)) := (Below.refl _ W).alloc (Nat.le_refl _) _;obtain ⟨g1, k1, W1, r1, o1, gr1, _, _⟩ := run_append_lies (P := Tryz.prog) (W.alloc (.cells #[] 33)) 40 40 W.heap.size 33 i0 _ 13 136 Tryz.underlying40 hi hz0 hz1 hz2 rfl (by omega) (.slice (some ⟨W.heap.size, 0, none⟩) 0 0) 0 [] (World.ownsRow_made W #[] 0 (Nat.le_refl _) (Nat.zero_le _) rfl)
  au 1 cu (cCh ts1) (by rw [cCh_len, l1]) (fun j x hx => by
   have hc := c1 au 1 cu rfl j x hx;have hb : au.block < W.heap.size := by
    rcases h1 with ⟨h, _⟩ | ⟨_, b, o, c, e, _, h, _⟩
    ·cases h
    ·injection e with e _ _; injection e with e; rw [e]; exact h
   rw [B0.cell (p := au.add j) (by simpa [Addr.add] using (show (au.add j).block < W.heap.size by unfold Addr.add; split <;> exact hb))];exact hc) (cCh_one ts1 d1) (by omega) (by unfold maxLen; omega) (by omega) (by simp) (W.heap.size + 1) (by simp)
 have B1 : Below W.heap.size W W1 := B0.grown gr1 (by simp) (fun k hk => by simp [Value.ownBlock] at hk; omega);have dd : ∀ W2, Below W.heap.size W W2 → ∀ t ∈ ts1 ++ ts2, DL W2 t.2.1 t.1.ends ∧ DL W2 t.2.2 t.1.deps := fun W2 B t ht => by
  rcases List.mem_append.1 ht with ht | ht
  ·exact ⟨(d1 t ht).1.below B, (d1 t ht).2.below B⟩
  ·exact ⟨(d2 t ht).1.below B, (d2 t ht).2.below B⟩
 have em : (ts1 ++ ts2).map (·.1) = u :: bk := by rw [List.map_append, e1, e2]; rfl
 have hfin : ∀ v2 W2, (Builtin.append_ #[40, 40] 40 #[.slice (some ⟨g1, 0, none⟩) (0 + 1) k1, vb]).run Tryz.prog W1 = .ok v2 W2 → W2.ownsRow W.heap.size 33 13 v2 (0 + 1 + bk.length) ([] ++ cCh ts1 ++ cCh ts2) → Below W.heap.size W W2 →
   ∃ v1 W1 g c W2, (Builtin.append_ #[40, 40] 40 #[.slice (some ⟨W.heap.size, 0, none⟩) 0 0, .slice (some au) 1 cu]).run Tryz.prog (W.alloc (.cells #[] 33)) = .ok v1 W1 ∧ (Builtin.append_ #[40, 40] 40 #[v1, vb]).run Tryz.prog W1 = .ok (.slice (some ⟨g, 0, none⟩) (bk.length + 1) c) W2 ∧ LC W2 (.slice (some ⟨g, 0, none⟩) (bk.length + 1) c) (u :: bk) ∧ Below W.heap.size W W2 := fun v2 W2 r2 o2 B2 => by
  obtain ⟨g, c, rfl, _, _⟩ := o2.form (by omega);rw [show 0 + 1 + bk.length = bk.length + 1 by omega] at r2 o2;refine ⟨_, W1, g, c, W2, r1, r2, ?_, B2⟩;have hown : OwnR W2 W.heap.size (.slice (some ⟨g, 0, none⟩) (bk.length + 1) c) (ts1 ++ ts2) := by
   unfold OwnR;rw [List.length_append, l1, l2, show 1 + bk.length = bk.length + 1 by omega, cCh, List.flatMap_append];simpa [cCh] using o2
  rw [← em];exact hown.LC (dd W2 B2)
 rcases hvb with rfl | ⟨av, nv, cv, rfl⟩
 ·have hbk := n2 0 0 rfl;subst hbk;have ht2 : ts2 = [] := List.length_eq_zero_iff.1 l2;subst ht2;exact hfin _ _ (run_append_owned_none (P := Tryz.prog) W1 W.heap.size 40 40 33 i0 13 Tryz.underlying40 hi _ _ _ o1) (by simpa [cCh] using o1) B1
 ·obtain ⟨hn, hb⟩ : nv = bk.length ∧ (bk ≠ [] → av.block < W.heap.size) := by
   rcases h2 with ⟨h, a, c, e⟩ | ⟨_, b, o, c, e, _, h, _⟩
   ·injection e with _ e _; exact ⟨by rw [e, h]; rfl, fun h3 => absurd h h3⟩
   ·injection e with e e3 _; injection e with e; rw [e]; exact ⟨e3, fun _ => h⟩
  subst hn;obtain ⟨v2, W2, r2, o2, gr2, _, _⟩ := run_append_own_at (P := Tryz.prog) W1 W.heap.size 40 40 33 i0 _ 13 136 Tryz.underlying40 hi hz0 hz1 hz2 rfl (by omega) _ _ _ o1 av bk.length cv (cCh ts2) (by rw [cCh_len, l2]) (fun j x hx => by
   have hne : bk ≠ [] := fun e => by rw [e] at l2; have : ts2 = [] := List.length_eq_zero_iff.1 l2; rw [this] at hx; simp [cCh] at hx
   have hc := c2 av bk.length cv rfl j x hx;rw [B1.cell (p := av.add j) (show (av.add j).block < W.heap.size by unfold Addr.add; split <;> exact hb hne)];exact hc) (cCh_one ts2 d2) (by unfold maxLen; omega) (by omega) B1.size
  exact hfin _ _ r2 o2 (B1.grown gr2 B1.size (fun k hk => (own_row o1 k hk).1))
/-- a row of changes stays when a graph's box is written -/
theorem LC.shut0 {W : World} {v : Value} {l : List Ch} {q : Nat} {a b c : Option Addr} {n1 n2 n3 d1 d2 d3 : Nat} (h : LC W v l) (hq : W.heap[q]? = some (.cells #[.slice a n1 d1, .slice b n2 d2, .slice c n3 d3] 26 (0, 0))) (cs : Array Value) : LC (W.setRow q cs) v l := by
 rcases h with h | ⟨h0, b', o, c', rfl, h3, h4, h5⟩
 ·exact .inl h
 ·have hb : b' ≠ q := fun e => by
   subst e;cases l with
   | nil => exact h0 rfl
   | cons u l' =>
    obtain ⟨x, y, q1, _, _⟩ := h5 0 u rfl;exact not_int hq (noInt3 _ _ _ _ _ _ _ _ _) (q1 0 _ rfl)
  refine .inr ⟨h0, b', o, c', rfl, h3, by simpa using h4, fun j e he => ?_⟩;obtain ⟨x, y, q1, q2, q3⟩ := h5 j e he;exact ⟨x, y, fun i u hu => by rw [keep_cell (setRow_other W q b' cs hb)]; exact q1 i u hu, q2.apart hq (noInt3 _ _ _ _ _ _ _ _ _) (fun k hk => setRow_other _ _ _ _ hk) (by simp), q3.apart hq (noInt3 _ _ _ _ _ _ _ _ _) (fun k hk => setRow_other _ _ _ _ hk) (by simp)⟩
end Go.Proofs.YtlaldnlgapeckaaGreat
