/- The reference's act where a vertex is split: what its loops say. -/
import Derived.Test.YtlaldnlgapeckaaGreatYRk7
import Derived.Test.YtlaldnlgapeckaaGreatYP
set_option maxHeartbeats 4000000
namespace Go.Proofs.YtlaldnlgapeckaaGreat
open Go.RowKit
theorem endV_iff (es : List Ed) (h : Asc (keysE es)) (a n : Int) (ha : 0 ≤ a) (hpos : ∀ e ∈ es, 0 ≤ e.id) : endV es n = a ↔ n ∈ endsF es a := by
 rw [mem_endsF]; unfold endV;by_cases h0 : n < 0
 ·rw [if_pos h0];exact ⟨fun e => by omega, by rintro ⟨e, he, (⟨_, e1⟩ | ⟨_, e1⟩)⟩ <;> have := hpos e he <;> omega⟩
 rw [if_neg h0];by_cases hk : n / 2 ∈ keysE es
 ·rw [if_pos hk];obtain ⟨g1, g2⟩ := getE_mem es _ hk;constructor
  ·intro e;refine ⟨_, g1, ?_⟩
   split at e
   ·exact .inl ⟨e, by omega⟩
   ·exact .inr ⟨e, by omega⟩
  ·rintro ⟨x, hx, (⟨e1, e2⟩ | ⟨e1, e2⟩)⟩
   ·rw [show n / 2 = x.id by omega, getE_of es h x hx, if_pos (by omega)]; exact e1
   ·rw [show n / 2 = x.id by omega, getE_of es h x hx, if_neg (by omega)]; exact e1
 ·rw [if_neg hk];exact ⟨fun e => by omega, by
   rintro ⟨x, hx, (⟨_, e2⟩ | ⟨_, e2⟩)⟩
   ·exact absurd (mem_keysE.2 ⟨x, hx, by omega⟩) hk
   ·exact absurd (mem_keysE.2 ⟨x, hx, by omega⟩) hk⟩
theorem Ok.id0 {g : Gr} (h : Ok g) {a : Int} (ha : a ∈ keysV g.vs) : 0 ≤ a := by
 obtain ⟨v, hv, rfl⟩ := mem_keysV.1 ha;have := h.vok v hv;unfold Vx.ok at this;simp only [Bool.and_eq_true, inB_iff] at this;exact this.1.1
theorem Ok.eid0 {g : Gr} (h : Ok g) : ∀ e ∈ g.es, 0 ≤ e.id := fun e he => ((Ed.okIn_iff _ _).1 (h.eok e he)).1.1
theorem act8_no (g : Gr) (c : Ch) (hok : Ok g) (j : Nat) (hj : j < c.ends.length) (h : endV g.es c.ends[j] ≠ c.id ∨ ∃ h0 : 0 < j, ¬ c.ends[j - 1] < c.ends[j]) : act8 g c = none := by
 unfold act8;rw [if_neg];intro hc;simp only [Bool.and_eq_true, List.all_eq_true, decide_eq_true_eq, ascI] at hc;obtain ⟨⟨hm, _⟩, ha, hall⟩ := hc;rcases h with h | ⟨h0, h⟩
 ·exact h ((endV_iff _ hok.easc _ _ (hok.id0 hm) hok.eid0).2 (hall _ (List.getElem_mem hj)))
 ·exact h (List.pairwise_iff_getElem.1 ha (j - 1) j (by omega) hj (by omega))
theorem act8_pass (g : Gr) (c : Ch) (hok : Ok g) (hm : c.id ∈ keysV g.vs) (h : ∀ j (hj : j < c.ends.length), endV g.es c.ends[j] = c.id ∧ ∀ h0 : 0 < j, c.ends[j - 1] < c.ends[j]) : (ascI c.ends && c.ends.all fun n => decide (n ∈ endsF g.es c.id)) = true := by
 simp only [Bool.and_eq_true, List.all_eq_true, decide_eq_true_eq, ascI];constructor
 ·refine List.pairwise_iff_getElem.2 fun i j hi hj hij => ?_;clear hm
  induction j with
  | zero => omega
  | succ j ih =>
   have h1 := (h (j + 1) hj).2 (by omega);by_cases e : i = j
   ·subst e; exact h1
   ·have := ih (by omega) (by omega);have h2 : c.ends[j + 1 - 1] = c.ends[j] := rfl;rw [h2] at h1;omega
 ·intro n hn;obtain ⟨j, hj, rfl⟩ := List.getElem_of_mem hn;exact (endV_iff _ hok.easc _ _ (hok.id0 hm) hok.eid0).1 (h j hj).1
theorem mv_step (es : List Ed) (h : Asc (keysE es)) (t : List Int) (n y : Int) (p : Nat) (hp : p < es.length) (hid : es[p].id = n / 2) : es.map (mvE (t ++ [n]) y) = (es.map (mvE t y)).set p (if n % 2 = 0 then { mvE t y es[p] with src := y } else { mvE t y es[p] with dst := y }) := by
 apply List.ext_getElem (by simp);intro j h1 h2;have hj : j < es.length := by simpa using h1
 simp only [List.getElem_map, List.getElem_set];by_cases e : p = j
 ·subst e;rw [if_pos rfl];by_cases e2 : n % 2 = 0
  ·rw [if_pos e2];have a1 : 2 * es[p].id = n := by omega
   have a2 : ¬ n + 1 = n := by omega
   simp [mvE, a1, a2]
  ·rw [if_neg e2];have a1 : ¬ 2 * es[p].id = n := by omega
   have a2 : 2 * es[p].id + 1 = n := by omega
   simp [mvE, a1, a2]
 ·rw [if_neg e];have hne : es[j].id ≠ n / 2 := fun e1 => by
   have lp : p < (keysE es).length := by simpa [keysE] using hp
   have lj : j < (keysE es).length := by simpa [keysE] using hj
   have k1 : (keysE es)[p] = es[p].id := by simp only [keysE, List.getElem_map]
   have k2 : (keysE es)[j] = es[j].id := by simp only [keysE, List.getElem_map]
   rcases Nat.lt_or_gt_of_ne e with hl | hl
   ·have := List.pairwise_iff_getElem.1 h p j lp lj hl; omega
   ·have := List.pairwise_iff_getElem.1 h j p lj lp hl; omega
  have a1 : ¬ 2 * es[j].id = n := by omega
  have a2 : ¬ 2 * es[j].id + 1 = n := by omega
  simp [mvE, a1, a2]
/-- a row of edges in the block gb that is written, while new memory is made -/
structure EdW (wb : World) (gb B0 : Nat) (w0 : World) (L : List Ed) (W : World) : Prop where
 row : L ≠ [] → ∃ cur, W.heap[gb]? = some (.cells cur 31 (0, 0))
 lie : LieE W gb 0 L
 oth : ∀ j, j < wb.heap.size → j ≠ gb → W.heap[j]? = wb.heap[j]?
 size : wb.heap.size ≤ W.heap.size
 bel : Below B0 w0 W
theorem EdS.wide {wb w0 W : World} {gb B0 : Nat} {L : List Ed} (h : EdS wb gb B0 w0 L W) : EdW wb gb B0 w0 L W := ⟨h.row, h.lie, fun j _ hj => h.oth j hj, by rw [h.size]; exact Nat.le_refl _, h.bel⟩
theorem EdW.below {wb w0 W W' : World} {gb B0 : Nat} {L : List Ed} (h : EdW wb gb B0 w0 L W) (hb : Below W.heap.size W W') (hB : B0 ≤ wb.heap.size) : EdW wb gb B0 w0 L W' := by
 refine ⟨fun e => ?_, ?_, fun j hj hjb => (hb.block j (Nat.lt_of_lt_of_le hj h.size)).trans (h.oth j hj hjb), Nat.le_trans h.size hb.size, h.bel.trans (hb.mono (Nat.le_trans hB h.size))⟩
 ·obtain ⟨cur, hc⟩ := h.row e;exact ⟨cur, (hb.block gb (Array.getElem?_eq_some_iff.1 hc).1).trans hc⟩
 ·by_cases e : L = []
  ·subst e; intro j x hx; simp at hx
  ·obtain ⟨cur, hc⟩ := h.row e;exact LieE.below h.lie (Array.getElem?_eq_some_iff.1 hc).1 hb
theorem EdW.drew {wb w0 W : World} {gb B0 : Nat} {L : List Ed} (h : EdW wb gb B0 w0 L W) : EdW wb gb B0 w0 L W.drew := ⟨h.row, h.lie, h.oth, h.size, h.bel.drew⟩
theorem EdW.set {wb w0 W : World} {gb B0 : Nat} {L : List Ed} (h : EdW wb gb B0 w0 L W) (hB : B0 ≤ gb) (p : Nat) (hp : p < L.length) (i : Nat) (hi : i < 6) (u : Value) (e' : Ed) (hc : edCells e' = (edCells L[p]).setIfInBounds i u) : EdW wb gb B0 w0 (L.set p e') (W.setCell ⟨gb, p * 6 + i, none⟩ u) := by
 have h1 := lieE_set h.lie p hp i hi u e' hc;simp only [Nat.zero_add] at h1;refine ⟨fun _ => ?_, h1, fun j hj hjb => (heap_setCell_other W _ j _ hjb).trans (h.oth j hj hjb), by simpa using h.size, h.bel.setCell (by exact hB) _⟩;obtain ⟨cur, hcur⟩ := h.row (fun e => by rw [e] at hp; simp at hp);exact ⟨_, heap_setCell_same W gb _ _ 31 _ hcur⟩
theorem EdW.cells {wb w0 W : World} {gb B0 p : Nat} {L : List Ed} (h : EdW wb gb B0 w0 L W) (hp : p < L.length) : EdAt W gb (p * 6) L[p] := by
 have := h.lie p _ (List.getElem?_eq_getElem hp);simpa using this
theorem edW_start {w w0 : World} {B0 n c : Nat} {b1 : Option Addr} {l : List Ed} (h : OwnEd w B0 (.slice b1 n c) l) (hn : n = l.length) (hb : Below B0 w0 w) (hB : B0 ≤ w.heap.size) :
  ∃ gb, B0 ≤ gb ∧ (l ≠ [] → b1 = some ⟨gb, 0, none⟩ ∧ gb < w.heap.size) ∧ (l = [] → gb = w.heap.size) ∧ (∀ j cur t, w.heap[j]? = some (.cells cur t (0, 0)) → t ≠ 31 → j ≠ gb) ∧ EdW w gb B0 w0 l w ∧ (∀ W L, L.length = n → EdW w gb B0 w0 L W → EL W (.slice b1 n c) L) := by
 by_cases hl : l = []
 ·subst hl;refine ⟨w.heap.size, hB, fun h => absurd rfl h, fun _ => rfl, fun j cur t h _ e => ?_, ⟨fun h => absurd rfl h, fun j x hx => by simp at hx, fun _ _ _ => rfl, Nat.le_refl _, hb⟩, fun W L hL _ => ?_⟩
  ·subst e; simp at h
  ·have : L = [] := List.length_eq_zero_iff.1 (by rw [hL, hn]; rfl);subst this;exact .inl ⟨rfl, _, _, by rw [hn]; rfl⟩
 ·obtain ⟨gb, cur, hab, hbb, hcur, hlie⟩ := h.at hl;have hlt : gb < w.heap.size := (Array.getElem?_eq_some_iff.1 hcur).1;refine ⟨gb, hbb, fun _ => ⟨hab, hlt⟩, fun e => absurd e hl, fun j cur2 t h2 ht e => ?_, ⟨fun _ => ⟨_, hcur⟩, hlie, fun _ _ _ => rfl, Nat.le_refl _, hb⟩, fun W L hL hS => ?_⟩
  ·subst e; rw [hcur] at h2; simp at h2; exact ht h2.2.symm
  ·have hL0 : L ≠ [] := fun e => hl (List.length_eq_zero_iff.1 (by rw [← hn, ← hL, e]; rfl));have hcap : n ≤ c := by
    obtain ⟨_, _, _, e, h, _⟩ := h.EL.own hl;injection e with _ _ e
    rw [e, hn]; exact h
   exact .inr ⟨hL0, gb, 0, _, by rw [hab, hL], by rw [hL]; exact hcap, Nat.lt_of_lt_of_le hlt hS.size, hS.lie⟩
/-- the numbers of a row that is only read -/
theorem DL.at' {w : World} {a : Option Addr} {n k : Nat} {l : List Int} (h : DL w (.slice a n k) l) (hl : l ≠ []) : ∃ eb eo, a = some ⟨eb, eo, none⟩ ∧ eb < w.heap.size ∧ ∀ W, Below w.heap.size w W → ∀ j (hj : j < l.length), W.cell? ⟨eb, eo + j, none⟩ = some (.int .i64 l[j]) := by
 rcases h with ⟨h, _⟩ | ⟨h0, b, o, c', e, h2, h3, h4⟩
 ·exact absurd h hl
 ·injection e with e _ _
  exact ⟨b, o, e, h3, fun W BB j hj => (keep_cell (BB.block b h3)).trans (h4 j _ (List.getElem?_eq_getElem hj))⟩
theorem mv_nil (es : List Ed) (y : Int) : es.map (mvE [] y) = es := by
 have : mvE [] y = id := by funext e; simp [mvE]
 rw [this, List.map_id]
theorem mv_find (es : List Ed) (a n : Int) (hpos : ∀ e ∈ es, 0 ≤ e.id) (hn : n ∈ endsF es a) : 0 ≤ n ∧ ∃ (p : Nat) (hp : p < es.length), plI (keysE es) (n / 2) = p ∧ es[p].id = n / 2 := by
 obtain ⟨e, he, h1⟩ := (mem_endsF _ _ _).1 hn;have h0 := hpos e he;have h2 : e.id = n / 2 := by rcases h1 with ⟨_, h1⟩ | ⟨_, h1⟩ <;> omega
 have hk : n / 2 ∈ keysE es := mem_keysE.2 ⟨e, he, h2⟩;obtain ⟨p, hp, e1, e2⟩ := plI_mem es _ hk;exact ⟨by rcases h1 with ⟨_, h1⟩ | ⟨_, h1⟩ <;> omega, p, hp, e1, by rw [e2]; exact (getE_mem es _ hk).2⟩
end Go.Proofs.YtlaldnlgapeckaaGreat
