/- Lists of edges: parts, appends to a full row; where an edge is inserted or deleted (as Rd and Rf have it for vertices). -/
import Derived.Test.YtlaldnlgapeckaaGreatYRs
set_option maxRecDepth 100000
set_option maxHeartbeats 4000000
namespace Go.Proofs.YtlaldnlgapeckaaGreat
open Go.RowKit
/-- a part of a list of vertices -/
theorem EL.tail {W : World} {b o n c i : Nat} {l : List Ed} (h : EL W (.slice (some ⟨b, o, none⟩) n c) l) (hn : n = l.length) (hi : i ≤ n) : EL W (.slice (some ⟨b, o + i * 6, none⟩) (n - i) (c - i)) (l.drop i) := by
 rcases h with ⟨rfl, _⟩ | ⟨h0, b', o', c', e, h2, h3, h4⟩
 ·exact .inl ⟨by simp, some ⟨b, o + i * 6, none⟩, c - i, by rw [hn]; simp⟩
 ·injection e with e1 e2 e3
  injection e1 with e1
  injection e1 with e1 e4 _
  subst e1 e4 e3;by_cases hd : l.drop i = []
  ·have : l.length ≤ i := List.drop_eq_nil_iff.1 hd;exact .inl ⟨hd, _, _, by rw [show n - i = 0 by omega]⟩
  ·refine .inr ⟨hd, _, _, _, by rw [List.length_drop, hn], by rw [List.length_drop]; omega, h3, fun j x hx => ?_⟩;rw [List.getElem?_drop] at hx;have := h4 (i + j) x hx;rw [show o + i * 6 + j * 6 = o + (i + j) * 6 by omega];exact this

/-- parts of a list of vertices whose address may be nil -/
theorem EL.tail' {W : World} {bo : Option Addr} {n c i : Nat} {l : List Ed} (h : EL W (.slice bo n c) l) (hn : n = l.length) (hi : i ≤ n) : ∃ bo', sliced bo i n c 6 = .slice bo' (n - i) (c - i) ∧ EL W (.slice bo' (n - i) (c - i)) (l.drop i) := by
 refine ⟨_, rfl, ?_⟩;by_cases hd : l.drop i = []
 ·have : l.length ≤ i := List.drop_eq_nil_iff.1 hd;exact .inl ⟨hd, _, _, by rw [show n - i = 0 by omega]⟩
 ·have hlt : i < l.length := by
   apply Classical.byContradiction;intro h2;exact hd (List.drop_eq_nil_iff.2 (by omega))
  obtain ⟨b, o, c', e, h2, h3, h4⟩ := h.own (fun e => by rw [e] at hlt; simp at hlt);injection e with e1 e2 e3
  subst e1 e3;have ht := EL.tail (i := i) (show EL W (.slice (some ⟨b, o, none⟩) n c) l from h) hn hi;rw [if_neg (by omega)];rw [Option.map_some, Addr.add_lit];exact ht

theorem EL.take' {W : World} {bo : Option Addr} {n c i : Nat} {l : List Ed} (h : EL W (.slice bo n c) l) (hi : i ≤ l.length) : EL W (.slice bo i i) (l.take i) := by
 by_cases hd : l.take i = []
 ·have : i = 0 := by
   have := congrArg List.length hd;rw [List.length_take, List.length_nil] at this; omega
  exact .inl ⟨hd, _, _, by rw [this]⟩
 ·have hne : l ≠ [] := fun e => hd (by rw [e]; simp);obtain ⟨b, o, c', e, h2, h3, h4⟩ := h.own hne;injection e with e1 e2 e3
  subst e1;have hti : (l.take i).length = i := by rw [List.length_take]; omega
  refine .inr ⟨hd, b, o, i, by rw [hti], by rw [hti]; exact Nat.le_refl _, h3, fun j x hx => ?_⟩;have hj : j < i := by
   have := (List.getElem?_eq_some_iff.1 hx).1;rw [hti] at this; exact this
  rw [List.getElem?_take_of_lt hj] at hx;exact h4 j x hx

theorem EL.cells {W : World} {bo : Option Addr} {n c : Nat} {l : List Ed} (h : EL W (.slice bo n c) l) : ∀ b, bo = some b → ∀ j u, (cEd l)[j]? = some u → W.cell? (b.add j) = some u := fun b hb => by
 rcases h with ⟨rfl, _⟩ | ⟨_, b', o', c', e, _, _, h4⟩
 ·simp [cEd]
 ·injection e with e _ _
  rw [e] at hb; injection hb with hb
  subst hb;exact lieE_cells h4

theorem EL.none_nil {W : World} {bo : Option Addr} {n c : Nat} {l : List Ed} (h : EL W (.slice bo n c) l) : bo = none → l.length = 0 := fun hb => by
 rcases h with ⟨rfl, _⟩ | ⟨_, b', o', c', e, _⟩
 ·rfl
 ·injection e with e _ _
  rw [hb] at e; cases e

/-- append(x, y...) of two lists of vertices, x full -/
theorem app_Eo (W : World) (bo : Option Addr) (n : Nat) (l m : List Ed) (h1 : EL W (.slice bo n n) l) (hn : n = l.length) (src : Value) (h2 : EL W src m) (hl : l.length ≤ 500000) (hm : m.length ≤ 500000) :
  ∃ v' W', (Builtin.append_ #[23, 23] 23 #[.slice bo n n, src]).run Tryz.prog W = .ok v' W' ∧ EL W' v' (l ++ m) ∧ (∀ j, v'.ownBlock = some j → (m = [] ∧ v' = .slice bo n n) ∨ W.heap.size ≤ j) ∧ Below W.heap.size W W' := by
 obtain ⟨i0, hi2, hz0, hz1, hz2⟩ := info_parts info31;obtain ⟨a, c', rfl⟩ := h2.shape;rcases app_opt 23 31 i0 _ 6 48 Tryz.underlying23 hi2 hz0 hz1 hz2 rfl (by omega) (by omega) W bo n (fun e => by rw [hn]; exact h1.none_nil e) (cEd l) (by rw [cEd_len, hn]) h1.cells a m.length c' (cEd m) (cEd_len m) h2.cells h2.none_nil (cEd_one m) (by omega) with ⟨h0, hr⟩ | ⟨h0, v', W', hr, ho, hbl⟩
 ·have : m = [] := List.length_eq_zero_iff.1 h0;subst this;exact ⟨_, _, hr, by rw [List.append_nil]; exact h1, fun j _ => .inl ⟨rfl, rfl⟩, Below.refl _ _⟩
 ·refine ⟨v', W', hr, ?_, fun k hk => .inr (own_row ho k hk).1, hbl⟩;rw [← cEd_append, hn] at ho;have : OwnEd W' W.heap.size v' (l ++ m) := by unfold OwnEd; rw [List.length_append]; exact ho
  exact this.EL

theorem ins_atE (l : List Ed) (v : Ed) (h : Asc (keysE l)) (k : Nat) (hk : k ≤ l.length) (h1 : ∀ j (hj : j < l.length), j < k → l[j].id < v.id) (h2 : k = l.length ∨ ∃ hk : k < l.length, ¬ l[k].id < v.id) : insE l v = l.take k ++ v :: l.drop k := by
 have e1 : ∀ j (h : j < l.length), (keysE l)[j]'(by simpa [keysE] using h) = l[j].id := fun j h => by simp [keysE]
 have hl : (keysE l).length = l.length := by simp [keysE]
 have : posK (keysE l) v.id = k := by
  refine posK_eq _ _ k (by omega) (fun j hj hjk => ?_) (fun j hj hjk => ?_)
  ·rw [e1 j (by omega)]; exact h1 j (by omega) hjk
  ·rw [e1 j (by omega)];rcases h2 with h2 | ⟨hk2, h2⟩
   ·omega
   ·rcases Nat.eq_or_lt_of_le hjk with rfl | hlt
    ·exact h2
    ·have := List.pairwise_iff_getElem.1 h k j (by omega) hj hlt;rw [e1 k hk2, e1 j (by omega)] at this;omega
 rw [insE_eq l v h, this]

theorem pos_delE (l : List Ed) (x : Int) (h : Asc (keysE l)) (p : Nat) (hp : p < l.length) (hx : l[p].id = x) : l.take p ++ l.drop (p + 1) = delE l x := by
 have hm : x ∈ keysE l := mem_keysE.2 ⟨_, List.getElem_mem hp, hx⟩;obtain ⟨hq, hqx⟩ := posE_lt l x h hm;have : posK (keysE l) x = p := by
  apply Classical.byContradiction;intro hne;have hh := List.pairwise_iff_getElem.1 h;have e1 : ∀ j (h : j < l.length), (keysE l)[j]'(by simpa [keysE] using h) = l[j].id := fun j h => by simp [keysE]
  rcases Nat.lt_or_gt_of_ne hne with hlt | hlt
  ·have := hh _ _ (by simpa [keysE] using hq) (by simpa [keysE] using hp) hlt;rw [e1 _ hq, e1 _ hp] at this;omega
  ·have := hh _ _ (by simpa [keysE] using hp) (by simpa [keysE] using hq) hlt;rw [e1 _ hp, e1 _ hq] at this;omega
 rw [delE_eq l x h hm, this]

end Go.Proofs.YtlaldnlgapeckaaGreat
