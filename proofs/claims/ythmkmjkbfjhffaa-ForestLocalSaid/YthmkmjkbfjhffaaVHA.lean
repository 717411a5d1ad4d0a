/- Contracts and facts. -/
import Derived.Deep.LoopGhost
import Derived.Handy
import Derived.WalkMore
import Derived.BigRegion
import Derived.Laws.EntriesVeiled
import Derived.Test.YthmkmjkbfjhffaaVGJ
set_option linter.unusedSimpArgs false
set_option maxRecDepth 100000
set_option maxHeartbeats 4000000
namespace Go.Proofs.Ythmkmjkbfjhffaa
open Go.RowKit
def bstep (L : List Nm) (t : Int × Int × Int) : List Nm :=
  let k := (pk t.1 L.length).toNat
  let q := (L[k]?).getD (0, [])
  let n := (pk t.2.1 ((q.2.length : Int) + 1)).toNat
  if n = q.2.length then
    let m := (pk t.2.2 L.length).toNat
    let p := (L[m]?).getD (0, [])
    if pk t.2.2 5 = 0 ∧ 0 < n then L.set k (q.1, q.2.take (n - 1))
    else (L.set k (q.1, p.2)).set m (p.1, q.2)
  else if pk t.2.2 3 = 0 then L.set k (q.1, q.2.set n (pk t.2.2 12 - 2))
  else L.set k (q.1, q.2.set n (q.2.getD n 0 + pk t.2.2 5 - 2))
def bentF (L : List Nm) (x : List (Int × Int × Int)) : List Nm := (x.take 4).foldl bstep L
def Bd (b : Int) (L : List Nm) : Prop := ∀ x ∈ L, x.2.length ≤ 1000 ∧ ∀ v ∈ x.2, -b ≤ v ∧ v ≤ b
theorem Bd.set {b : Int} {L : List Nm} {x : Nm} (h : Bd b L) (hx : x.2.length ≤ 1000 ∧ ∀ v ∈ x.2, -b ≤ v ∧ v ≤ b) (k : Nat) : Bd b (L.set k x) := fun y hy => by
  rcases List.mem_or_eq_of_mem_set hy with h1 | rfl
  · exact h y h1
  · exact hx
theorem Bd.mono {b c : Int} {L : List Nm} (h : Bd b L) (hc : b ≤ c) : Bd c L := fun x hx => ⟨(h x hx).1, fun v hv => by have := (h x hx).2 v hv; omega⟩
theorem Bd.getD {b : Int} {L : List Nm} (h : Bd b L) (k : Nat) : ((L[k]?).getD (0, [])).2.length ≤ 1000 ∧ ∀ v ∈ ((L[k]?).getD (0, [])).2, -b ≤ v ∧ v ≤ b := by
  cases hk : L[k]? with
  | none => simp
  | some x => exact h x (List.mem_of_getElem? hk)
theorem bstep_len (L : List Nm) (t : Int × Int × Int) : (bstep L t).length = L.length := by
  unfold bstep
  dsimp only
  split
  · split <;> simp
  · split <;> simp
theorem bstep_bd {b : Int} {L : List Nm} (h : Bd b L) (hb : 20 ≤ b) (t : Int × Int × Int) : Bd (b + 10) (bstep L t) := by
  have h0 := h.mono (show b ≤ b + 10 by omega)
  have hq := h.getD (pk t.1 L.length).toNat
  have hq0 := h0.getD (pk t.1 L.length).toNat
  have hm0 := h0.getD (pk t.2.2 L.length).toNat
  have a1 := pk_lo t.2.2 12 (by omega)
  have a2 := pk_lt t.2.2 12 (by omega)
  have a3 := pk_lo t.2.2 5 (by omega)
  have a4 := pk_lt t.2.2 5 (by omega)
  unfold bstep
  dsimp only
  generalize (L[(pk t.1 L.length).toNat]?).getD (0, []) = q at *
  generalize (L[(pk t.2.2 L.length).toNat]?).getD (0, []) = p at *
  have hset : ∀ (n : Nat) (a : Int), -(b + 10) ≤ a → a ≤ b + 10 → (q.2.set n a).length ≤ 1000 ∧ ∀ v ∈ q.2.set n a, -(b + 10) ≤ v ∧ v ≤ b + 10 := fun n a x1 x2 => ⟨by rw [List.length_set]; exact hq.1, fun v hv => by
    rcases List.mem_or_eq_of_mem_set hv with h1 | rfl
    · exact hq0.2 v h1
    · exact ⟨x1, x2⟩⟩
  split
  · split
    · exact h0.set ⟨by simp; omega, fun v hv => hq0.2 v (List.mem_of_mem_take hv)⟩ _
    · exact (h0.set (x := (q.1, p.2)) ⟨hm0.1, hm0.2⟩ _).set (x := (p.1, q.2)) ⟨hq0.1, hq0.2⟩ _
  · split
    · exact h0.set (hset _ _ (by omega) (by omega)) _
    · refine h0.set (hset _ _ ?_ ?_) _
      · rw [List.getD_eq_getElem?_getD]
        cases hg : q.2[(pk t.2.1 ((q.2.length : Int) + 1)).toNat]? with
        | none => simp; omega
        | some z => have := hq.2 z (List.mem_of_getElem? hg); simp; omega
      · rw [List.getD_eq_getElem?_getD]
        cases hg : q.2[(pk t.2.1 ((q.2.length : Int) + 1)).toNat]? with
        | none => simp; omega
        | some z => have := hq.2 z (List.mem_of_getElem? hg); simp; omega
theorem cN_ids : ∀ (L L' : List Nm) (vs : List Value), L.map (·.1) = L'.map (·.1) → cN L vs = cN L' vs := by
  intro L
  induction L with
  | nil => intro L' vs h; cases L' with
    | nil => rfl
    | cons _ _ => simp at h
  | cons x L ih => intro L' vs h; cases L' with
    | nil => simp at h
    | cons y L' =>
      simp at h
      cases vs with
      | nil => rfl
      | cons u vs => simp only [cN]; rw [h.1, ih L' vs (by simpa using h.2)]
theorem cN_set : ∀ (L : List Nm) (vs : List Value) (k : Nat) (u : Value), (cN L vs).set (k * 2 + 1) u = cN L (vs.set k u) := by
  intro L
  induction L with
  | nil => intro vs k u; cases vs <;> simp [cN]
  | cons x L ih => intro vs k u; cases vs with
    | nil => simp [cN]
    | cons z vs => cases k with
      | zero => simp [cN]
      | succ k =>
        rw [show (k + 1) * 2 + 1 = k * 2 + 1 + 1 + 1 by omega]
        simp only [cN, List.set_cons_succ, ih]
theorem ids_set {L : List Nm} {k : Nat} {x : Nm} {l : List Int} (h : L[k]? = some x) : (L.set k (x.1, l)).map (·.1) = L.map (·.1) := by
  rw [List.map_set]
  apply List.ext_getElem?
  intro j
  rw [List.getElem?_set]
  by_cases e : k = j
  · subst e
    have h1 := (List.getElem?_eq_some_iff.1 h).1
    have h2 := (List.getElem?_eq_some_iff.1 h).2
    simp [h1, h2]
  · simp [e]
/-- the block of a row of labels that are told, and its labels' blocks -/
theorem OwnN'.block {W : World} {base R N cap : Nat} {L : List Nm} {vs : List Value} (h : OwnN' W base (.slice (some ⟨R, 0, none⟩) N cap) L vs) : ∃ cur, W.heap[R]? = some (.cells cur 54 (0, 0)) ∧ N = L.length ∧ cur.toList.take (L.length * 2) = cN L vs ∧ base ≤ R ∧ L.length ≤ cap ∧ cap ≤ maxLen ∧ cur.size = cap * 2 := by
  rcases h.row.2 with ⟨h0, _⟩ | ⟨g, cap', cur, he, h1, h2, h3, h4, h5, h6⟩
  · cases h0
  · injection he with e1 e2 e3
    injection e1 with e1
    injection e1 with e1
    subst e1 e3
    exact ⟨cur, h2, e2, h6, h1, h3, h4, h5⟩
theorem OwnN'.setLab {W : World} {base R N cap g m c : Nat} {L : List Nm} {vs : List Value} (h : OwnN' W base (.slice (some ⟨R, 0, none⟩) N cap) L vs) {k : Nat} {x : Nm} (hx : L[k]? = some x) (hv : vs[k]? = some (.slice (some ⟨g, 0, none⟩) m c)) (i : Nat) (a : Int) :
    OwnN' (W.setCell ⟨g, i, none⟩ (.int .i64 a)) base (.slice (some ⟨R, 0, none⟩) N cap) (L.set k (x.1, x.2.set i a)) vs := by
  have hk := h.lab k x _ hx hv
  have hm : x.2.length = m := by
    rcases hk.2 with ⟨h0, _⟩ | ⟨g', cap', cur, he, _⟩
    · cases h0
    · injection he with _ e2; exact e2.symm
  obtain ⟨_, cur, hg⟩ := own_row hk g rfl
  have gr : W.grownBy (W.setCell ⟨g, i, none⟩ (.int .i64 a)) (some g) := ⟨rfl, rfl, rfl, by simp, fun j _ hne => by
    rw [heap_setCell_other _ _ _ _ (by intro e; exact hne (congrArg some e))]⟩
  refine ⟨by rw [List.length_set]; exact h.len, ?_, fun j y u h1 h2 => ?_, h.ap⟩
  · rw [List.length_set, cN_ids _ L vs (ids_set hx)]
    exact own_apartG h.row gr (fun b hb e => by
      obtain ⟨_, cur2, k2⟩ := own_row h.row b hb
      cases e
      exact absurd (two_types hg k2) (by decide))
  · by_cases e : k = j
    · subst e
      rw [hv] at h2; cases h2
      rw [List.getElem?_set, if_pos rfl, if_pos (List.getElem?_eq_some_iff.1 hx).1] at h1
      cases h1
      exact OwnI.set hk hm i a
    · rw [List.getElem?_set, if_neg e] at h1
      exact own_apart (h.lab j y u h1 h2) gr (fun b hb e2 => by
        cases e2
        exact h.ap k j _ u hv h2 e g rfl hb)
theorem OwnN'.setRow1 {W : World} {base R N cap : Nat} {L : List Nm} {vs : List Value} (h : OwnN' W base (.slice (some ⟨R, 0, none⟩) N cap) L vs) (k : Nat) (u : Value) :
    (W.setCell ⟨R, k * 2 + 1, none⟩ u).ownsRow base 54 2 (.slice (some ⟨R, 0, none⟩) N cap) L.length (cN L (vs.set k u)) ∧ (∀ (v : Value) (l : List Int), OwnI W base v l → OwnI (W.setCell ⟨R, k * 2 + 1, none⟩ u) base v l) := by
  obtain ⟨cur, h1, h2, h3, h4, h5, h6, h7⟩ := h.block
  have gr : W.grownBy (W.setCell ⟨R, k * 2 + 1, none⟩ u) (some R) := ⟨rfl, rfl, rfl, by simp, fun j _ hne => by
    rw [heap_setCell_other _ _ _ _ (by intro e; exact hne (congrArg some e))]⟩
  refine ⟨⟨?_, .inr ⟨R, cap, _, by rw [h2], h4, heap_setCell_same W R (k * 2 + 1) cur 54 _ h1, h5, h6, by simpa using h7, ?_⟩⟩, fun v l ho => own_apart ho gr (fun b hb e => ?_)⟩
  · rw [← cN_set, List.length_set]; exact h.row.1
  · rw [Array.toList_setIfInBounds, List.take_set, h3, cN_set]
  · obtain ⟨_, cur2, k2⟩ := own_row ho b hb
    cases e
    exact absurd (two_types h1 k2) (by decide)
theorem OwnN'.cut {W : World} {base R N cap n c m : Nat} {f : Option Addr} {L : List Nm} {vs : List Value} (h : OwnN' W base (.slice (some ⟨R, 0, none⟩) N cap) L vs) {k : Nat} {x : Nm} (hx : L[k]? = some x) (hv : vs[k]? = some (.slice f n c)) (hn : n = x.2.length) (hm : m ≤ n) :
    OwnN' (W.setCell ⟨R, k * 2 + 1, none⟩ (.slice f m c)) base (.slice (some ⟨R, 0, none⟩) N cap) (L.set k (x.1, x.2.take m)) (vs.set k (.slice f m c)) := by
  obtain ⟨h1, h2⟩ := h.setRow1 k (.slice f m c)
  refine ⟨by rw [List.length_set, List.length_set]; exact h.len, ?_, fun j y u a b => ?_, fun i j u u' a b hij bb hb => ?_⟩
  · rw [List.length_set, cN_ids _ L _ (ids_set hx)]; exact h1
  · by_cases e : k = j
    · subst e
      rw [List.getElem?_set, if_pos rfl, if_pos (List.getElem?_eq_some_iff.1 hx).1] at a
      rw [List.getElem?_set, if_pos rfl, if_pos (List.getElem?_eq_some_iff.1 hv).1] at b
      cases a; cases b
      exact h2 _ _ (OwnI.cut (h.lab k x _ hx hv) hn hm)
    · rw [List.getElem?_set, if_neg e] at a b
      exact h2 _ _ (h.lab j y u a b)
  · have key : ∀ (j : Nat) (u : Value), (vs.set k (.slice f m c))[j]? = some u → ∃ u0, vs[j]? = some u0 ∧ u0.ownBlock = u.ownBlock := fun j u hu => by
      by_cases e : k = j
      · subst e
        rw [List.getElem?_set, if_pos rfl, if_pos (List.getElem?_eq_some_iff.1 hv).1] at hu
        cases hu
        exact ⟨_, hv, ownB_len _ _ _ _ _⟩
      · rw [List.getElem?_set, if_neg e] at hu
        exact ⟨u, hu, rfl⟩
    obtain ⟨a0, a1, a2⟩ := key i u a
    obtain ⟨b0, b1, b2⟩ := key j u' b
    rw [← b2]
    exact h.ap i j a0 b0 a1 b1 hij bb (by rw [a2]; exact hb)
theorem OwnN'.swap {W : World} {base R N cap : Nat} {L : List Nm} {vs : List Value} (h : OwnN' W base (.slice (some ⟨R, 0, none⟩) N cap) L vs) {k m : Nat} {x y : Nm} {u u' : Value} (hx : L[k]? = some x) (hv : vs[k]? = some u) (hy : L[m]? = some y) (hw : vs[m]? = some u') :
    OwnN' ((W.setCell ⟨R, k * 2 + 1, none⟩ u').setCell ⟨R, m * 2 + 1, none⟩ u) base (.slice (some ⟨R, 0, none⟩) N cap) ((L.set k (x.1, y.2)).set m (y.1, x.2)) ((vs.set k u').set m u) := by
  obtain ⟨cur, h1, h2, h3, h4, h5, h6, h7⟩ := h.block
  have gr : W.grownBy ((W.setCell ⟨R, k * 2 + 1, none⟩ u').setCell ⟨R, m * 2 + 1, none⟩ u) (some R) := ⟨rfl, rfl, rfl, by simp, fun j _ hne => by
    rw [heap_setCell_other _ _ _ _ (by intro e; exact hne (congrArg some e)), heap_setCell_other _ _ _ _ (by intro e; exact hne (congrArg some e))]⟩
  have keep : ∀ (v : Value) (l : List Int), OwnI W base v l → OwnI ((W.setCell ⟨R, k * 2 + 1, none⟩ u').setCell ⟨R, m * 2 + 1, none⟩ u) base v l := fun v l ho => own_apart ho gr (fun b hb e => by
    obtain ⟨_, cur2, k2⟩ := own_row ho b hb
    cases e
    exact absurd (two_types h1 k2) (by decide))
  have hk := (List.getElem?_eq_some_iff.1 hx).1
  have hm := (List.getElem?_eq_some_iff.1 hy).1
  have hkv := (List.getElem?_eq_some_iff.1 hv).1
  have hmv := (List.getElem?_eq_some_iff.1 hw).1
  have hy2 : ((L.set k (x.1, y.2)).map (·.1)) = L.map (·.1) := ids_set hx
  have hids : ((L.set k (x.1, y.2)).set m (y.1, x.2)).map (·.1) = L.map (·.1) := by
    rw [List.map_set, hy2]
    apply List.ext_getElem?
    intro j
    rw [List.getElem?_set]
    by_cases e : m = j
    · subst e; have h2 := (List.getElem?_eq_some_iff.1 hy).2; simp [hm, h2]
    · simp [e]
  refine ⟨by simp [h.len], ⟨?_, .inr ⟨R, cap, _, by simp [h2], h4, heap_setCell_same _ R (m * 2 + 1) _ 54 _ (heap_setCell_same W R (k * 2 + 1) cur 54 _ h1), by simp; exact h5, h6, by simpa using h7, ?_⟩⟩, fun j z w a b => ?_, fun i j w w' a b hij bb hb => ?_⟩
  · rw [cN_ids _ L _ hids, ← cN_set, ← cN_set]; simp; exact h.row.1
  · rw [cN_ids _ L _ hids, ← cN_set, ← cN_set]
    simp only [List.length_set]
    rw [Array.toList_setIfInBounds, Array.toList_setIfInBounds, List.take_set, List.take_set, h3]
  · rw [List.getElem?_set, List.length_set] at a b
    by_cases e : m = j
    · subst e
      rw [if_pos rfl, if_pos hm] at a
      rw [if_pos rfl, if_pos hmv] at b
      cases a; cases b
      exact keep _ _ (h.lab k x _ hx hv)
    · rw [if_neg e, List.getElem?_set] at a b
      by_cases e2 : k = j
      · subst e2
        rw [if_pos rfl, if_pos hk] at a
        rw [if_pos rfl, if_pos hkv] at b
        cases a; cases b
        exact keep _ _ (h.lab m y _ hy hw)
      · rw [if_neg e2] at a b
        exact keep _ _ (h.lab j z w a b)
  · have key : ∀ (j : Nat) (w : Value), ((vs.set k u').set m u)[j]? = some w → vs[if j = m then k else if j = k then m else j]? = some w := fun j w hw2 => by
      rw [List.getElem?_set, List.length_set] at hw2
      by_cases e : m = j
      · subst e
        rw [if_pos rfl, if_pos hmv] at hw2
        rw [if_pos rfl]; cases hw2; exact hv
      · rw [if_neg e, List.getElem?_set] at hw2
        rw [if_neg (fun h => e h.symm)]
        by_cases e2 : k = j
        · subst e2
          rw [if_pos rfl, if_pos hkv] at hw2
          rw [if_pos rfl]; cases hw2; exact hw
        · rw [if_neg e2] at hw2
          rw [if_neg (fun h => e2 h.symm)]; exact hw2
    exact h.ap _ _ _ _ (key i w a) (key j w' b) (by split <;> split <;> (try split) <;> (try split) <;> omega) bb hb

end Go.Proofs.Ythmkmjkbfjhffaa
/- Contracts and facts. -/
set_option linter.unusedSimpArgs false
set_option maxRecDepth 100000
set_option maxHeartbeats 4000000
namespace Go.Proofs.Ythmkmjkbfjhffaa
open Go.RowKit

abbrev T3 := Int × Int × Int
def L3 (W : World) (v : Value) (l : List T3) : Prop :=
  (l = [] ∧ ∃ a c, v = .slice a 0 c) ∨ (l ≠ [] ∧ ∃ b o c, v = .slice (some ⟨b, o, none⟩) l.length c ∧ l.length ≤ c ∧ b < W.heap.size ∧ ∀ j r, l[j]? = some r → W.cell? ⟨b, o + j * 3, none⟩ = some (.int .i64 r.1) ∧ W.cell? ⟨b, o + j * 3 + 1, none⟩ = some (.int .i64 r.2.1) ∧ W.cell? ⟨b, o + j * 3 + 2, none⟩ = some (.int .i64 r.2.2))
theorem L3.shape {W : World} {v : Value} {l : List T3} (h : L3 W v l) : ∃ a c, v = .slice a l.length c := by
  rcases h with ⟨rfl, a, c, rfl⟩ | ⟨_, b, o, c, rfl, _⟩
  · exact ⟨_, _, rfl⟩
  · exact ⟨_, _, rfl⟩
theorem L3.below {W W' : World} {v : Value} {l : List T3} (h : L3 W v l) (B : Below W.heap.size W W') : L3 W' v l := by
  rcases h with h | ⟨h1, b, o, c, h2, h3, h4, h5⟩
  · exact .inl h
  · refine .inr ⟨h1, b, o, c, h2, h3, Nat.lt_of_lt_of_le h4 B.size, fun j r hj => ?_⟩
    obtain ⟨k1, k2, k3⟩ := h5 j r hj
    exact ⟨by rw [B.cell (p := ⟨b, o + j * 3, none⟩) h4]; exact k1, by rw [B.cell (p := ⟨b, o + j * 3 + 1, none⟩) h4]; exact k2, by rw [B.cell (p := ⟨b, o + j * 3 + 2, none⟩) h4]; exact k3⟩
theorem L3.cells {w : World} {a : Option Addr} {c n : Nat} {l : List T3} (h : L3 w (.slice a n c) l) : ∀ (k : Nat) (_ : k < l.length), ∃ b o, a = some ⟨b, o, none⟩ ∧ ∀ W, Below w.heap.size w W → W.cell? ⟨b, o + k * 3, none⟩ = some (.int .i64 l[k].1) ∧ W.cell? ⟨b, o + k * 3 + 1, none⟩ = some (.int .i64 l[k].2.1) ∧ W.cell? ⟨b, o + k * 3 + 2, none⟩ = some (.int .i64 l[k].2.2) := fun k hk => by
  rcases h with ⟨rfl, _⟩ | ⟨_, b, o, c', h2, h3, h4, h5⟩
  · simp at hk
  · injection h2 with h2
    subst h2
    refine ⟨b, o, rfl, fun W B => ?_⟩
    obtain ⟨k1, k2, k3⟩ := h5 k l[k] (List.getElem?_eq_getElem hk)
    exact ⟨by rw [B.cell (p := ⟨b, o + k * 3, none⟩) h4]; exact k1, by rw [B.cell (p := ⟨b, o + k * 3 + 1, none⟩) h4]; exact k2, by rw [B.cell (p := ⟨b, o + k * 3 + 2, none⟩) h4]; exact k3⟩
theorem bstep_eq {L : List Nm} {t : T3} {k n m : Nat} {q p : Nm} (hk : pk t.1 L.length = (k : Int)) (hq : L[k]? = some q) (hn : pk t.2.1 ((q.2.length : Int) + 1) = (n : Int)) (hm : pk t.2.2 L.length = (m : Int)) (hp : L[m]? = some p) :
    bstep L t = if n = q.2.length then (if pk t.2.2 5 = 0 ∧ 0 < n then L.set k (q.1, q.2.take (n - 1)) else (L.set k (q.1, p.2)).set m (p.1, q.2)) else if pk t.2.2 3 = 0 then L.set k (q.1, q.2.set n (pk t.2.2 12 - 2)) else L.set k (q.1, q.2.set n (q.2.getD n 0 + pk t.2.2 5 - 2)) := by
  unfold bstep
  simp [hk, hq, hn, hm, hp]
theorem OwnN'.cellAt {W : World} {base R N cap : Nat} {L : List Nm} {vs : List Value} (h : OwnN' W base (.slice (some ⟨R, 0, none⟩) N cap) L vs) {k : Nat} {u : Value} (hu : vs[k]? = some u) : W.cell? ⟨R, k * 2 + 1, none⟩ = some u ∧ W.frozen? ⟨R, k * 2 + 1, none⟩ = false := by
  obtain ⟨cur, h1, h2, h3, h4, h5, h6, h7⟩ := h.block
  have hk := (List.getElem?_eq_some_iff.1 hu).1
  rw [h.len] at hk
  obtain ⟨_, k2⟩ := cN_at L vs k _ u (List.getElem?_eq_getElem hk) hu
  rw [← h3, List.getElem?_take_of_lt (by omega)] at k2
  refine ⟨?_, frozen_of_row _ _ _ _ _ h1⟩
  rw [cell_of_row _ _ _ _ _ _ h1]
  simpa using k2
theorem pk_nat (c : Int) (n : Nat) (h : 0 < n) : ∃ k : Nat, pk c n = (k : Int) ∧ k < n := by
  have h1 := pk_lo c n (by omega)
  have h2 := pk_lt c n (by omega)
  exact ⟨(pk c n).toNat, by omega, by omega⟩
def BentR (w : World) (L : List Nm) (e : Ending) (w' : World) : Prop := ∃ lb, e = .returned lb ∧ OwnN w' w.heap.size lb L ∧ Below w.heap.size w w'
def i64T (t : T3) : Prop := (-9223372036854775808 ≤ t.1 ∧ t.1 ≤ 9223372036854775807) ∧ (-9223372036854775808 ≤ t.2.1 ∧ t.2.1 ≤ 9223372036854775807) ∧ (-9223372036854775808 ≤ t.2.2 ∧ t.2.2 ≤ 9223372036854775807)
noncomputable def sfxB (n : Nat) : Code := dropC n (Try.f22.body.getD .skip)
theorem setCell_row_other {W : World} {R k base : Nat} {u : Value} {w : World} (h : Below base w W) (hb : base ≤ R) : Below base w (W.setCell ⟨R, k, none⟩ u) := h.setCell (p := ⟨R, k, none⟩) hb _
theorem OwnN'.storeOk {W : World} {base R N cap : Nat} {L : List Nm} {vs : List Value} (h : OwnN' W base (.slice (some ⟨R, 0, none⟩) N cap) L vs) (k : Nat) (u : Value) {m : Nat} (hm : m < L.length) :
    (∃ y, (W.setCell ⟨R, k * 2 + 1, none⟩ u).cell? ⟨R, m * 2 + 1, none⟩ = some y) ∧ (W.setCell ⟨R, k * 2 + 1, none⟩ u).frozen? ⟨R, m * 2 + 1, none⟩ = false := by
  obtain ⟨cur, h1, h2, h3, h4, h5, h6, h7⟩ := h.block
  have h8 := heap_setCell_same W R (k * 2 + 1) cur 54 u h1
  refine ⟨⟨_, by rw [cell_of_row _ _ _ _ _ _ h8]; exact Array.getElem?_eq_getElem (by simp; omega)⟩, frozen_of_row _ _ _ _ _ h8⟩
set_option maxRecDepth 1000000 in
set_option maxHeartbeats 16000000 in
theorem bent_loop (q0 q2 q3 q4 q6 q7 q8 q9 q10 q11 q12 q13 q14 q15 q16 q17 q18 q19 q20 q21 q22 q23 q24 q25 q26 q27 q28 q29 q30 q31 q32 q33 q34 q35 q36 q37 q38 q39 q40 q41 q42 q43 q44 q45 q46 q47 q48 q49 q50 q51 q52 q53 q54 q55 q56 q57 q58 q59 q60 q61 q62 q63 q64 q65 q66 q67 q68 q69 q70 q71 q72 q73 q74 q75 q76 q77 q78 q79 q80 q81 q82 q83 q84 q85 q86 q87 q88 q89 q90 q91 q92 q93 q94 q95 q96 q97 q98 q99 q100 q101 q102 q103 q104 q105 q106 q107 q108 q109 q110 q111 q112 q113 q114 q115 q116 q117 q118 q119 q120 q121 q122 q123 q124 q125 q126 q127 q128 q129 q130 q131 q132 q133 q134 q135 q136 q137 q138 q139 q140 q141 q142 q143 q144 q145 q146 q147 q148 q149 q150 q151 q152 q153 q154 q155 q156 q157 q158 q159 q160 q161 q162 q163 q164 q165 q166 q167 q168 q169 q170 : Value) (w wA : World) (R N cap : Nat) (xa : Option Addr) (X xc : Nat) (L : List Nm) (x : List T3) (vs0 : List Value)
    (hN : Hid (N = L.length)) (hN0 : 0 < N) (hX : Hid (X = x.length)) (hNl : N ≤ 1000000) (hXl : X ≤ 9223372036854775807) (hx : Hid (L3 w (.slice xa X xc) x)) (hxi : Hid (∀ t ∈ x, i64T t)) (hbd : Hid (Bd 1000000 L))
    (hbel : Hid (Below w.heap.size w wA)) (H : Hid (OwnN' wA w.heap.size (.slice (some ⟨R, 0, none⟩) N cap) L vs0)) :
    Code.wp Try.prog (sfxB 3) (bodyPost Try.prog Try.f22 (BentR w (bentF L x))) ⟨(q0 :: .slice xa X xc :: q2 :: q3 :: q4 :: .slice (some ⟨R, 0, none⟩) N cap :: q6 :: q7 :: q8 :: q9 :: q10 :: q11 :: q12 :: q13 :: q14 :: q15 :: q16 :: q17 :: q18 :: q19 :: q20 :: q21 :: q22 :: q23 :: q24 :: q25 :: q26 :: q27 :: q28 :: q29 :: q30 :: q31 :: q32 :: q33 :: q34 :: q35 :: q36 :: q37 :: q38 :: q39 :: q40 :: q41 :: q42 :: q43 :: q44 :: q45 :: q46 :: q47 :: q48 :: q49 :: q50 :: q51 :: q52 :: q53 :: q54 :: q55 :: q56 :: q57 :: q58 :: q59 :: q60 :: q61 :: q62 :: q63 :: q64 :: q65 :: q66 :: q67 :: q68 :: q69 :: q70 :: q71 :: q72 :: q73 :: q74 :: q75 :: q76 :: q77 :: q78 :: q79 :: q80 :: q81 :: q82 :: q83 :: q84 :: q85 :: q86 :: q87 :: q88 :: q89 :: q90 :: q91 :: q92 :: q93 :: q94 :: q95 :: q96 :: q97 :: q98 :: q99 :: q100 :: q101 :: q102 :: q103 :: q104 :: q105 :: q106 :: q107 :: q108 :: q109 :: q110 :: q111 :: q112 :: q113 :: q114 :: q115 :: q116 :: q117 :: q118 :: q119 :: q120 :: q121 :: q122 :: q123 :: q124 :: q125 :: q126 :: q127 :: q128 :: q129 :: q130 :: q131 :: q132 :: q133 :: q134 :: q135 :: q136 :: q137 :: q138 :: q139 :: q140 :: q141 :: q142 :: q143 :: q144 :: q145 :: q146 :: q147 :: q148 :: q149 :: q150 :: q151 :: q152 :: q153 :: q154 :: q155 :: q156 :: q157 :: q158 :: q159 :: q160 :: q161 :: q162 :: q163 :: q164 :: q165 :: q166 :: q167 :: q168 :: q169 :: q170 :: []).toArray, []⟩ wA := by
  obtain ⟨RR, hRR⟩ : ∃ R, Hid (R = bentF L x) := ⟨_, rfl⟩
  rw [← hRR.out]
  conv => arg 2; whnf
  obtain ⟨A, hA⟩ : ∃ A : Nat → List Nm, ∀ k, A k = (x.take k).foldl bstep L := ⟨_, fun _ => rfl⟩
  have hA0 : Hid (A 0 = L) := by show _ = _; rw [hA]; rfl
  have hAs := Lib.hid (fun (k : Nat) (hk : k < x.length) => (show A (k + 1) = bstep (A k) x[k] by
    rw [hA, hA, List.take_succ_eq_append_getElem hk, List.foldl_append]; rfl))
  have hAl := Lib.hid (fun k => (show (A k).length = N by
    rw [hA, hN.out]
    generalize x.take k = l
    clear hA hAs hA0
    suffices ∀ (l : List T3) (M : List Nm), (l.foldl bstep M).length = M.length from this l L
    intro l
    induction l with
    | nil => intro M; rfl
    | cons t l ih => intro M; rw [List.foldl_cons, ih, bstep_len]))
  have hAb := Lib.hid (fun k => (show k ≤ x.length → Bd (1000000 + 10 * (k : Int)) (A k) by
    intro hk
    induction k with
    | zero => rw [hA0.out]; exact hbd.out.mono (by omega)
    | succ k ih =>
      rw [hAs.out k (by omega)]
      have := bstep_bd (ih (by omega)) (by omega) x[k]
      exact this.mono (by omega)))
  obtain ⟨M, hM⟩ : ∃ M, M = min X 4 := ⟨_, rfl⟩
  have hAe : Hid (A M = RR) := by
    show _ = _
    rw [hA, hRR.out, hM, hX.out]
    unfold bentF
    congr 1
    by_cases h : x.length ≤ 4
    · rw [Nat.min_eq_left h, List.take_of_length_le (Nat.le_refl _), List.take_of_length_le h]
    · rw [Nat.min_eq_right (by omega)]
  have hM1 : M ≤ X := by omega
  have hM4 : M ≤ 4 := by omega
  have hMe : M = X ∨ M = 4 := by omega
  have cellX := Lib.hid (hx.out.cells)
  clear hA hM
  go_wp2_with fail
  go_loopg [7] M (fun q kv wr => ∃ (i : Nat) (vs : List Value), i + q = M ∧ kv = .int .i64 i ∧ OwnN' wr w.heap.size (.slice (some ⟨R, 0, none⟩) N cap) (A i) vs ∧ Below w.heap.size w wr)
  case atStart => exact ⟨0, vs0, by omega, rfl, by rw [hA0.out]; exact H.out, hbel.out⟩
  case round =>
  obtain ⟨i, vs, hi, rfl, hS, hB⟩ := hrel
  obtain ⟨wo, rfl⟩ : ∃ x, x = wr := ⟨_, rfl⟩
  clear H hA0 hbel
  have nn : (0 : Int) < (N : Int) := by omega
  cases gk with
  | zero =>
    have hi2 : M = i := by omega
    subst hi2
    rw [hAe.out] at hS
    have hS2 := Lib.hid hS
    have hB2 := Lib.hid hB
    rcases hMe with h | h
    · have i1 : ¬ (M : Int) < (X : Int) := by omega
      clear hS hB h hi hAs hAl hAb hAe cellX hM1 hM4
      go_wp2_with fail
      go_ret
      exact ⟨_, rfl, ⟨vs, hS2.out⟩, hB2.out⟩
    · by_cases hlt : M < X
      · have i1 : (M : Int) < (X : Int) := by omega
        have i2 : ¬ (M : Int) < 4 := by omega
        clear hS hB h hi hAs hAl hAb hAe cellX hM1 hM4 hlt
        go_wp2_with fail
        go_ret
        exact ⟨_, rfl, ⟨vs, hS2.out⟩, hB2.out⟩
      · have i1 : ¬ (M : Int) < (X : Int) := by omega
        clear hS hB h hi hAs hAl hAb hAe cellX hM1 hM4 hlt
        go_wp2_with fail
        go_ret
        exact ⟨_, rfl, ⟨vs, hS2.out⟩, hB2.out⟩
  | succ ga =>
    have hlt : i < M := by omega
    have hil : i < x.length := by rw [← hX.out]; omega
    have i0 : (0 : Int) ≤ (i : Int) := by omega
    have i1 : (i : Int) < (X : Int) := by omega
    have i2 : (i : Int) < 4 := by omega
    have hle : Hid (i + 1 + ga = M) := by show _ = _; omega
    obtain ⟨bx, ox, rfl, cx⟩ := cellX.out i hil
    have hti := hxi.out x[i] (List.getElem_mem hil)
    have hst0 := hAs.out i hil
    have hbi := hAb.out i (by omega)
    have hln := hAl.out i
    generalize x[i] = t at *
    generalize A i = Li at *
    obtain ⟨t0, t1, t2⟩ := t
    simp only at cx hti
    obtain ⟨k, hk, hkN⟩ := pk_nat t0 N hN0
    obtain ⟨m, hm, hmN⟩ := pk_nat t2 N hN0
    have hqk : Li[k]? = some Li[k] := List.getElem?_eq_getElem (by omega)
    have hpm : Li[m]? = some Li[m] := List.getElem?_eq_getElem (by omega)
    obtain ⟨q, hq⟩ : ∃ q, Li[k] = q := ⟨_, rfl⟩
    obtain ⟨p, hp⟩ : ∃ p, Li[m] = p := ⟨_, rfl⟩
    rw [hq] at hqk
    rw [hp] at hpm
    have hbq := hbi q (List.mem_of_getElem? hqk)
    obtain ⟨n, hn, hnm⟩ := pk_nat t1 (q.2.length + 1) (by omega)
    have hst := bstep_eq (t := (t0, t1, t2)) (by rw [hln]; exact hk) hqk (by rw [← hn]; rfl) (by rw [hln]; exact hm) hpm
    rw [← hst0] at hst
    have hkv : k < vs.length := by rw [hS.len]; omega
    have hmv : m < vs.length := by rw [hS.len]; omega
    have hvk : vs[k]? = some vs[k] := List.getElem?_eq_getElem (by rw [hS.len]; omega)
    have hvm : vs[m]? = some vs[m] := List.getElem?_eq_getElem (by rw [hS.len]; omega)
    obtain ⟨u, hu⟩ : ∃ u, vs[k] = u := ⟨_, rfl⟩
    obtain ⟨u', hu'⟩ : ∃ u, vs[m] = u := ⟨_, rfl⟩
    rw [hu] at hvk
    rw [hu'] at hvm
    obtain ⟨f, c, rfl, hfc, hf⟩ := OwnI.form (hS.lab k q u hqk hvk)
    obtain ⟨lk, hlk⟩ : ∃ l, Hid (l = q.2.length) := ⟨_, rfl⟩
    obtain ⟨f', c', rfl, _, _⟩ := OwnI.form (hS.lab m p u' hpm hvm)
    obtain ⟨lm, hlm⟩ : ∃ l, Hid (l = p.2.length) := ⟨_, rfl⟩
    have hcl := Lib.hid (fun W (b : Below wo.heap.size wo W) => (show W.cell? ⟨R, k * 2 + 1, none⟩ = some (.slice f lk c) ∧ W.frozen? ⟨R, k * 2 + 1, none⟩ = false ∧ W.cell? ⟨R, m * 2 + 1, none⟩ = some (.slice f' lm c') ∧ W.frozen? ⟨R, m * 2 + 1, none⟩ = false ∧ W.cell? ⟨bx, ox + i * 3, none⟩ = some (.int .i64 t0) ∧ W.cell? ⟨bx, ox + i * 3 + 1, none⟩ = some (.int .i64 t1) ∧ W.cell? ⟨bx, ox + i * 3 + 2, none⟩ = some (.int .i64 t2) from by
      have h := hS.below b
      obtain ⟨z0, z1, z2⟩ := cx W (hB.trans (b.mono hB.size))
      rw [hlk.out, hlm.out]
      exact ⟨(h.cellAt hvk).1, (h.cellAt hvk).2, (h.cellAt hvm).1, (h.cellAt hvm).2, z0, z1, z2⟩))
    have hS2 := Lib.hid (fun W (b : Below wo.heap.size wo W) => hS.below b)
    have hB2 := Lib.hid (fun W (b : Below wo.heap.size wo W) => hB.trans (b.mono hB.size))
    have hp1 := Lib.hid (fun W => pick59_any t0 N W hti.1.1 hti.1.2 (by omega) (by omega))
    have hp2 := Lib.hid (fun W => pick59_any t1 ((q.2.length : Int) + 1) W hti.2.1.1 hti.2.1.2 (by omega) (by have := hbq.1; omega))
    have hp3 := Lib.hid (fun W => pick59_any t2 N W hti.2.2.1 hti.2.2.2 (by omega) (by omega))
    obtain ⟨P5, hP5⟩ : ∃ z, Hid (z = pk t2 5) := ⟨_, rfl⟩
    obtain ⟨P3, hP3⟩ : ∃ z, Hid (z = pk t2 3) := ⟨_, rfl⟩
    obtain ⟨P12, hP12⟩ : ∃ z, Hid (z = pk t2 12) := ⟨_, rfl⟩
    have hpb : Hid ((0 ≤ P5 ∧ P5 < 5) ∧ (0 ≤ P12 ∧ P12 < 12)) := by
      show _ ∧ _
      rw [hP5.out, hP12.out]
      exact ⟨⟨pk_lo _ _ (by omega), pk_lt _ _ (by omega)⟩, ⟨pk_lo _ _ (by omega), pk_lt _ _ (by omega)⟩⟩
    rw [← hP5.out, ← hP3.out, ← hP12.out] at hst
    have hp5 := Lib.hid (fun W => pick59_any t2 5 W hti.2.2.1 hti.2.2.2 (by omega) (by omega))
    have hp3b := Lib.hid (fun W => pick59_any t2 3 W hti.2.2.1 hti.2.2.2 (by omega) (by omega))
    have hp12 := Lib.hid (fun W => pick59_any t2 12 W hti.2.2.1 hti.2.2.2 (by omega) (by omega))
    rw [← hP5.out] at hp5
    rw [← hP3.out] at hp3b
    rw [← hP12.out] at hp12
    have hkL : Hid (k < Li.length ∧ m < Li.length) := by show _ ∧ _; omega
    have hn' : pk t1 ((q.2.length : Int) + 1) = (n : Int) := by rw [← hn]; rfl
    rw [hk] at hp1
    rw [hn', ← hlk.out] at hp2
    rw [hm] at hp3
    rw [← hlk.out] at hst hf hfc
    have hfc2 : (lk : Int) ≤ (c : Int) := by omega
    have hnl : n ≤ lk := by rw [hlk.out]; omega
    have hll : lk ≤ 1000 := by rw [hlk.out]; exact hbq.1
    have hlab := Lib.hid (fun (j : Nat) (hj : j < lk) => (show ∃ a, q.2[j]? = some a ∧ -2000000 ≤ a ∧ a ≤ 2000000 from by
      have hj2 : j < q.2.length := by rw [← hlk.out]; exact hj
      have := hbq.2 q.2[j] (List.getElem_mem hj2)
      exact ⟨_, List.getElem?_eq_getElem hj2, by omega, by omega⟩))
    have hres := Lib.hid (show ∀ W', (∃ vs', OwnN' W' w.heap.size (.slice (some ⟨R, 0, none⟩) N cap) (A (i + 1)) vs') → Below w.heap.size w W' → ∃ (j : Nat) (vs : List Value), j + ga = M ∧ (.int .i64 ((i : Int) + 1) : Value) = .int .i64 j ∧ OwnN' W' w.heap.size (.slice (some ⟨R, 0, none⟩) N cap) (A j) vs ∧ Below w.heap.size w W' from fun W' ⟨vs', h1⟩ h2 => ⟨i + 1, vs', hle.out, by go_num, h1, h2⟩)
    have hRb : Hid (w.heap.size ≤ R) := by obtain ⟨_, _, _, _, h, _⟩ := hS.block; exact h
    have hSk := Lib.hid hS
    replace hst := Lib.hid hst
    replace hq := Lib.hid hqk
    replace hp := Lib.hid hpm
    have hvk2 := Lib.hid hvk
    have hvm2 := Lib.hid hvm
    replace hf := Lib.hid hf
    have hmn : (0 : Int) ≤ (m : Int) ∧ (m : Int) < (N : Int) := by omega
    have hkn : (0 : Int) ≤ (k : Int) ∧ (k : Int) < (N : Int) := by omega
    obtain ⟨m0, m1⟩ := hmn
    obtain ⟨k0, k1⟩ := hkn
    obtain ⟨y0, y1, y2, y3, y4, y5, y6⟩ := hcl.out wo (Below.refl _ _)
    clear hkv hmv cx hti hst0 hbi hln hk hm hkN hmN hqk hpm hbq hn hn' hnm hvk hvm hu hu' hfc hS hB hAs hAl hAb hAe cellX hi hlt hil hM1 hM4 hMe hxi hbd hRR hx
    go_upto_region 9 with (fail)
    go_wp2_with fail
    refine (hp1.out _).mono ?_
    rintro e w1 ⟨rfl, rfl⟩
    clear y0 y1 y2 y3 y4 y5 y6 hp1
    have m2 : IntKind.i64.wrap ((lk : Int) + 1) = (lk : Int) + 1 := IntWalk.i64_in _ (by omega)
    go_upto_region 10 with (fail)
    refine q_region (fun W => Below wo.heap.size wo W) (by kernel_rfl) (by kernel_rfl) ((Below.refl _ wo).drew) ?_
    repeat (first | (refine q_skip (by rfl) ?_; try simp only [Act.put, zT, z0, zS]) | (refine q_take (v := ?_) (by rfl) ?_ ?_; rotate_left; (first | ((intro w h; clear h; go_simp) <;> with_reducible rfl) | ((intro w h; obtain ⟨y0, y1, y2, y3, y4, y5, y6⟩ := hcl.out w h; clear h; go_simp) <;> with_reducible rfl)); try simp only [Act.put, zT, z0, zS]))
    refine q_call (v := _) Try.f44 (by rfl) rfl Try.func44 (by kernel_rfl) (by kernel_rfl) #[.int .i64 t1, .int .i64 ((lk : Int) + 1)] (by simp [Act.eval]) (fun w h => (hp2.out w).mono fun e w3 ⟨he, hb⟩ => ⟨he, hb ▸ h⟩) ?_; try simp only [Act.put, zT, z0, zS]
    repeat (first | (refine q_skip (by rfl) ?_; try simp only [Act.put, zT, z0, zS]) | (refine q_take (v := ?_) (by rfl) ?_ ?_; rotate_left; (first | ((intro w h; clear h; go_simp) <;> with_reducible rfl) | ((intro w h; obtain ⟨y0, y1, y2, y3, y4, y5, y6⟩ := hcl.out w h; clear h; go_simp) <;> with_reducible rfl)); try simp only [Act.put, zT, z0, zS]))
    refine q_nil ?_
    intro w3 B3
    clear m2 hp2
    have hcl3 := Lib.hid (fun W (b : Below w3.heap.size w3 W) => hcl.out W (B3.trans (b.mono B3.size)))
    have hS3 := Lib.hid (fun W (b : Below w3.heap.size w3 W) => hS2.out W (B3.trans (b.mono B3.size)))
    have hB3 := Lib.hid (fun W (b : Below w3.heap.size w3 W) => hB2.out W (B3.trans (b.mono B3.size)))
    clear hcl hS2 hB2 B3 hSk
    obtain ⟨y0, y1, y2, y3, y4, y5, y6⟩ := hcl3.out w3 (Below.refl _ _)
    by_cases hnk : n = lk
    · have hst1 : Hid (A (i + 1) = if P5 = 0 ∧ 0 < n then Li.set k (q.1, q.2.take (n - 1)) else (Li.set k (q.1, p.2)).set m (p.1, q.2)) := by
        show _ = _
        rw [hst.out, if_pos (by rw [hnk, hlk.out])]
      have hlkn := hlk
      subst hnk
      clear hst hp3b hp12
      go_upto_region 12 with (fail)
      go_wp2_with fail
      refine (hp3.out _).mono ?_
      rintro e w1 ⟨rfl, rfl⟩
      clear y0 y1 y2 y3 y4 y5 y6
      obtain ⟨y0, y1, y2, y3, y4, y5, y6⟩ := hcl3.out w3 (Below.refl _ _)
      go_upto_region 13 with (fail)
      go_wp2_with fail
      refine (hp5.out _).mono ?_
      rintro e w1 ⟨rfl, rfl⟩
      by_cases h5 : P5 = 0
      · subst h5
        by_cases hn0 : 0 < n
        · have hst2 : Hid (A (i + 1) = Li.set k (q.1, q.2.take (n - 1))) := by show _ = _; rw [hst1.out, if_pos ⟨rfl, hn0⟩]
          obtain ⟨g, rfl⟩ := hf.out hn0
          have n0 : (0 : Int) < (n : Int) := by omega
          obtain ⟨n1, hn1⟩ : ∃ n1, n1 = n - 1 := ⟨_, rfl⟩
          have hwa : IntKind.i64.wrap ((n : Int) - 1) = (n1 : Int) := by rw [IntWalk.i64_in _ (by omega)]; omega
          have j1 : (0 : Int) ≤ (n1 : Int) := by omega
          have j2 : (n1 : Int) ≤ (c : Int) := by omega
          have hS4 := Lib.hid ((hS3.out w3 (Below.refl _ _)).cut (m := n1) hq.out hvk2.out rfl (by rw [← hlkn.out]; omega))
          have hB4 := Lib.hid ((hB3.out w3 (Below.refl _ _)).setCell (p := ⟨R, k * 2 + 1, none⟩) hRb.out (.slice (some ⟨g, 0, none⟩) n1 c))
          rw [← hn1] at hst2
          replace hn1 := Lib.hid hn1
          clear hst1 hn0
          go_upto_region 14 with (fail)
          go_wp2_with fail
          go_roundg ga
          case measure => omega
          case rel => exact ⟨i + 1, _, hle.out, by go_num, by rw [hst2.out]; exact hS4.out, hB4.out⟩
        · have hst2 : Hid (A (i + 1) = (Li.set k (q.1, p.2)).set m (p.1, q.2)) := by show _ = _; rw [hst1.out, if_neg (fun h => hn0 h.2)]
          have n0 : ¬ (0 : Int) < (n : Int) := by omega
          clear hst1 hn0
          go_upto_region 15 with (fail)
          refine Rel.c_region (fun i => i == 2 || i == 3) w3 [some (.slice (some ⟨R, 0, none⟩) N cap), some (.int .i64 k), some (.slice (some ⟨R, 0, none⟩) N cap), some (.int .i64 m), some (.slice (some ⟨R, 0, none⟩) N cap), some (.int .i64 m), some (.pointer (some ⟨R, m * 2, none⟩)), some (.pointer (some ⟨R, m * 2 + 1, none⟩)), some (.slice f' lm c'), some (.slice (some ⟨R, 0, none⟩) N cap), some (.int .i64 k), some (.pointer (some ⟨R, k * 2, none⟩)), some (.pointer (some ⟨R, k * 2 + 1, none⟩)), some (.slice f n c), some (.pointer (some ⟨R, k * 2, none⟩)), some (.pointer (some ⟨R, k * 2 + 1, none⟩)), none, none, none, none] (fun _ _ _ => True)
            (fun i vals W => (i = 17 → vals 17 = .pointer (some ⟨R, m * 2, none⟩)) ∧ (i = 18 → vals 18 = .pointer (some ⟨R, m * 2 + 1, none⟩)) ∧ ∃ W0, Below w3.heap.size w3 W0 ∧ (i ≤ 18 → W = W0.setCell ⟨R, k * 2 + 1, none⟩ (.slice f' lm c')) ∧ (i = 19 → W = (W0.setCell ⟨R, k * 2 + 1, none⟩ (.slice f' lm c')).setCell ⟨R, m * 2 + 1, none⟩ (.slice f n c))) 16 (by kernel_rfl) (by kernel_rfl)
            (fun i hi => by rcases Bool.or_eq_true _ _ ▸ hi with h | h <;> (rw [show i = _ from by simpa using h]; rfl)) (fun j hj => by simp only [List.getD_eq_getElem?_getD]; rcases Nat.lt_or_ge j 20 with h | h; (obtain rfl | rfl | rfl | rfl : j = 16 ∨ j = 17 ∨ j = 18 ∨ j = 19 := by omega); rfl; rfl; rfl; rfl; rw [List.getElem?_eq_none (by simp; omega)]; rfl) (by decide) (fun i v W W' h Bl => trivial) ((Below.refl _ w3).drew) (fun vals hO => ?_)
          refine Rel.c_pure rfl (.slice (some ⟨R, 0, none⟩) N cap) rfl (by decide) (hO 0 _ rfl) (by rfl) (fun w hC hd => ?_) ?_
          · clear hd hO; go_simp
          try simp only [Act.put, zT, z0, zS]
          refine Rel.c_pure rfl (.int .i64 k) rfl (by decide) (hO 1 _ rfl) (by rfl) (fun w hC hd => ?_) ?_
          · clear hd hO; go_simp
          try simp only [Act.put, zT, z0, zS]
          refine Rel.c_late (.slice (some ⟨R, 0, none⟩) N cap) rfl (by decide) (hO 2 _ rfl) (by rfl) (fun w => ?_) ?_
          · clear hO; go_simp
          try simp only [Act.put, zT, z0, zS]
          refine Rel.c_late (.int .i64 m) rfl (by decide) (hO 3 _ rfl) (by rfl) (fun w => ?_) ?_
          · clear hO; go_simp
          try simp only [Act.put, zT, z0, zS]
          refine Rel.c_pure rfl (.slice (some ⟨R, 0, none⟩) N cap) rfl (by decide) (hO 4 _ rfl) (by rfl) (fun w hC hd => ?_) ?_
          · clear hd hO; go_simp
          try simp only [Act.put, zT, z0, zS]
          refine Rel.c_pure rfl (.int .i64 m) rfl (by decide) (hO 5 _ rfl) (by rfl) (fun w hC hd => ?_) ?_
          · clear hd hO; go_simp
          try simp only [Act.put, zT, z0, zS]
          refine Rel.c_pure rfl (.pointer (some ⟨R, m * 2, none⟩)) rfl (by decide) (hO 6 _ rfl) (by rfl) (fun w hC hd => ?_) ?_
          · clear hd hO; go_simp
          try simp only [Act.put, zT, z0, zS]
          refine Rel.c_pure rfl (.pointer (some ⟨R, m * 2 + 1, none⟩)) rfl (by decide) (hO 7 _ rfl) (by rfl) (fun w hC hd => ?_) ?_
          · clear hd hO; go_simp
          try simp only [Act.put, zT, z0, zS]
          refine Rel.c_pure rfl (.slice f' lm c') rfl (by decide) (hO 8 _ rfl) (by rfl) (fun w hC hd => ?_) ?_
          · obtain ⟨y0, y1, y2, y3, y4, y5, y6⟩ := hcl3.out w hC; clear hd hO; go_simp
          try simp only [Act.put, zT, z0, zS]
          refine Rel.c_pure rfl (.slice (some ⟨R, 0, none⟩) N cap) rfl (by decide) (hO 9 _ rfl) (by rfl) (fun w hC hd => ?_) ?_
          · clear hd hO; go_simp
          try simp only [Act.put, zT, z0, zS]
          refine Rel.c_pure rfl (.int .i64 k) rfl (by decide) (hO 10 _ rfl) (by rfl) (fun w hC hd => ?_) ?_
          · clear hd hO; go_simp
          try simp only [Act.put, zT, z0, zS]
          refine Rel.c_pure rfl (.pointer (some ⟨R, k * 2, none⟩)) rfl (by decide) (hO 11 _ rfl) (by rfl) (fun w hC hd => ?_) ?_
          · clear hd hO; go_simp
          try simp only [Act.put, zT, z0, zS]
          refine Rel.c_pure rfl (.pointer (some ⟨R, k * 2 + 1, none⟩)) rfl (by decide) (hO 12 _ rfl) (by rfl) (fun w hC hd => ?_) ?_
          · clear hd hO; go_simp
          try simp only [Act.put, zT, z0, zS]
          refine Rel.c_pure rfl (.slice f n c) rfl (by decide) (hO 13 _ rfl) (by rfl) (fun w hC hd => ?_) ?_
          · obtain ⟨y0, y1, y2, y3, y4, y5, y6⟩ := hcl3.out w hC; clear hd hO; go_simp
          try simp only [Act.put, zT, z0, zS]
          refine Rel.c_pure rfl (.pointer (some ⟨R, k * 2, none⟩)) rfl (by decide) (hO 14 _ rfl) (by rfl) (fun w hC hd => ?_) ?_
          · clear hd hO; go_simp
          try simp only [Act.put, zT, z0, zS]
          refine Rel.c_pure rfl (.pointer (some ⟨R, k * 2 + 1, none⟩)) rfl (by decide) (hO 15 _ rfl) (by rfl) (fun w hC hd => ?_) ?_
          · clear hd hO; go_simp
          try simp only [Act.put, zT, z0, zS]
          refine Rel.c_tail0 rfl rfl (by rfl) (fun w hC hd => ?_) ?_
          · refine post_skip' (w.setCell ⟨R, k * 2 + 1, none⟩ (.slice f' lm c')) ?_ ⟨fun h => absurd h (by decide), fun h => absurd h (by decide), w, hC, fun _ => rfl, fun h => absurd h (by decide)⟩
            obtain ⟨y0, y1, y2, y3, y4, y5, y6⟩ := hcl3.out w hC
            clear hd hO hC; go_simp
          try simp only [Act.put, zT, z0, zS]
          refine Rel.c_tail rfl 16 rfl (by decide) (by rfl) (fun w hF => ?_) ?_
          · obtain ⟨_, _, W0, h1, h2, _⟩ := hF
            refine post_value (.pointer (some ⟨R, m * 2, none⟩)) w ?_ ⟨fun _ => by simp [Rel.upd], fun h => absurd h (by decide), W0, h1, fun _ => h2 (by decide), fun h => absurd h (by decide)⟩
            clear hO h1 h2; go_simp
          try simp only [Act.put, zT, z0, zS]
          refine Rel.c_tail rfl 17 rfl (by decide) (by rfl) (fun w hF => ?_) ?_
          · obtain ⟨h0, _, W0, h1, h2, _⟩ := hF
            have h0 := h0 rfl
            refine post_value (.pointer (some ⟨R, m * 2 + 1, none⟩)) w ?_ ⟨fun h => absurd h (by decide), fun _ => by simp [Rel.upd], W0, h1, fun _ => h2 (by decide), fun h => absurd h (by decide)⟩
            rw [h0]
            clear hO h1 h2 h0; go_simp
          try simp only [Act.put, zT, z0, zS]
          refine Rel.c_tail rfl 18 rfl (by decide) (by rfl) (fun w hF => ?_) ?_
          · obtain ⟨_, h0, W0, h1, h2, _⟩ := hF
            have h0 := h0 rfl
            have h2 := h2 (by decide)
            subst h2
            refine post_skip' ((W0.setCell ⟨R, k * 2 + 1, none⟩ (.slice f' lm c')).setCell ⟨R, m * 2 + 1, none⟩ (.slice f n c)) ?_ ⟨fun h => absurd h (by decide), fun h => absurd h (by decide), W0, h1, fun h => absurd h (by decide), fun _ => rfl⟩
            obtain ⟨⟨z, z1⟩, z2⟩ := (hS3.out W0 h1).storeOk k (.slice f' lm c') hkL.out.2
            obtain ⟨W1, hW1⟩ : ∃ W1, W1 = W0.setCell ⟨R, k * 2 + 1, none⟩ (.slice f' lm c') := ⟨_, rfl⟩
            rw [← hW1] at z1 z2 ⊢
            rw [h0]
            clear hO h1 h0 hW1; go_simp
          try simp only [Act.put, zT, z0, zS]
          refine Rel.c_end ?_
          intro w4 hF
          obtain ⟨_, _, W0, h1, _, h2⟩ := hF
          replace h2 := h2 rfl
          subst h2
          have hS4 := Lib.hid ((hS3.out W0 h1).swap hq.out hvk2.out hp.out hvm2.out)
          have hB4 := Lib.hid (((hB3.out W0 h1).setCell (p := ⟨R, k * 2 + 1, none⟩) hRb.out (.slice f' p.2.length c')).setCell (p := ⟨R, m * 2 + 1, none⟩) hRb.out (.slice f q.2.length c))
          rw [← hlk.out, ← hlm.out] at hS4 hB4
          clear hO h1
          go_wp2_with fail
          go_roundg ga
          case measure => omega
          case rel => exact ⟨i + 1, _, hle.out, by go_num, by rw [hst2.out]; exact hS4.out, hB4.out⟩
      · have hst2 : Hid (A (i + 1) = (Li.set k (q.1, p.2)).set m (p.1, q.2)) := by show _ = _; rw [hst1.out, if_neg (fun h => h5 h.1)]
        have h5b : (P5 == 0) = false := by simpa using h5
        clear hst1 h5
        go_upto_region 15 with (fail)
        refine Rel.c_region (fun i => i == 2 || i == 3) w3 [some (.slice (some ⟨R, 0, none⟩) N cap), some (.int .i64 k), some (.slice (some ⟨R, 0, none⟩) N cap), some (.int .i64 m), some (.slice (some ⟨R, 0, none⟩) N cap), some (.int .i64 m), some (.pointer (some ⟨R, m * 2, none⟩)), some (.pointer (some ⟨R, m * 2 + 1, none⟩)), some (.slice f' lm c'), some (.slice (some ⟨R, 0, none⟩) N cap), some (.int .i64 k), some (.pointer (some ⟨R, k * 2, none⟩)), some (.pointer (some ⟨R, k * 2 + 1, none⟩)), some (.slice f n c), some (.pointer (some ⟨R, k * 2, none⟩)), some (.pointer (some ⟨R, k * 2 + 1, none⟩)), none, none, none, none] (fun _ _ _ => True)
          (fun i vals W => (i = 17 → vals 17 = .pointer (some ⟨R, m * 2, none⟩)) ∧ (i = 18 → vals 18 = .pointer (some ⟨R, m * 2 + 1, none⟩)) ∧ ∃ W0, Below w3.heap.size w3 W0 ∧ (i ≤ 18 → W = W0.setCell ⟨R, k * 2 + 1, none⟩ (.slice f' lm c')) ∧ (i = 19 → W = (W0.setCell ⟨R, k * 2 + 1, none⟩ (.slice f' lm c')).setCell ⟨R, m * 2 + 1, none⟩ (.slice f n c))) 16 (by kernel_rfl) (by kernel_rfl)
          (fun i hi => by rcases Bool.or_eq_true _ _ ▸ hi with h | h <;> (rw [show i = _ from by simpa using h]; rfl)) (fun j hj => by simp only [List.getD_eq_getElem?_getD]; rcases Nat.lt_or_ge j 20 with h | h; (obtain rfl | rfl | rfl | rfl : j = 16 ∨ j = 17 ∨ j = 18 ∨ j = 19 := by omega); rfl; rfl; rfl; rfl; rw [List.getElem?_eq_none (by simp; omega)]; rfl) (by decide) (fun i v W W' h Bl => trivial) ((Below.refl _ w3).drew) (fun vals hO => ?_)
        refine Rel.c_pure rfl (.slice (some ⟨R, 0, none⟩) N cap) rfl (by decide) (hO 0 _ rfl) (by rfl) (fun w hC hd => ?_) ?_
        · clear hd hO; go_simp
        try simp only [Act.put, zT, z0, zS]
        refine Rel.c_pure rfl (.int .i64 k) rfl (by decide) (hO 1 _ rfl) (by rfl) (fun w hC hd => ?_) ?_
        · clear hd hO; go_simp
        try simp only [Act.put, zT, z0, zS]
        refine Rel.c_late (.slice (some ⟨R, 0, none⟩) N cap) rfl (by decide) (hO 2 _ rfl) (by rfl) (fun w => ?_) ?_
        · clear hO; go_simp
        try simp only [Act.put, zT, z0, zS]
        refine Rel.c_late (.int .i64 m) rfl (by decide) (hO 3 _ rfl) (by rfl) (fun w => ?_) ?_
        · clear hO; go_simp
        try simp only [Act.put, zT, z0, zS]
        refine Rel.c_pure rfl (.slice (some ⟨R, 0, none⟩) N cap) rfl (by decide) (hO 4 _ rfl) (by rfl) (fun w hC hd => ?_) ?_
        · clear hd hO; go_simp
        try simp only [Act.put, zT, z0, zS]
        refine Rel.c_pure rfl (.int .i64 m) rfl (by decide) (hO 5 _ rfl) (by rfl) (fun w hC hd => ?_) ?_
        · clear hd hO; go_simp
        try simp only [Act.put, zT, z0, zS]
        refine Rel.c_pure rfl (.pointer (some ⟨R, m * 2, none⟩)) rfl (by decide) (hO 6 _ rfl) (by rfl) (fun w hC hd => ?_) ?_
        · clear hd hO; go_simp
        try simp only [Act.put, zT, z0, zS]
        refine Rel.c_pure rfl (.pointer (some ⟨R, m * 2 + 1, none⟩)) rfl (by decide) (hO 7 _ rfl) (by rfl) (fun w hC hd => ?_) ?_
        · clear hd hO; go_simp
        try simp only [Act.put, zT, z0, zS]
        refine Rel.c_pure rfl (.slice f' lm c') rfl (by decide) (hO 8 _ rfl) (by rfl) (fun w hC hd => ?_) ?_
        · obtain ⟨y0, y1, y2, y3, y4, y5, y6⟩ := hcl3.out w hC; clear hd hO; go_simp
        try simp only [Act.put, zT, z0, zS]
        refine Rel.c_pure rfl (.slice (some ⟨R, 0, none⟩) N cap) rfl (by decide) (hO 9 _ rfl) (by rfl) (fun w hC hd => ?_) ?_
        · clear hd hO; go_simp
        try simp only [Act.put, zT, z0, zS]
        refine Rel.c_pure rfl (.int .i64 k) rfl (by decide) (hO 10 _ rfl) (by rfl) (fun w hC hd => ?_) ?_
        · clear hd hO; go_simp
        try simp only [Act.put, zT, z0, zS]
        refine Rel.c_pure rfl (.pointer (some ⟨R, k * 2, none⟩)) rfl (by decide) (hO 11 _ rfl) (by rfl) (fun w hC hd => ?_) ?_
        · clear hd hO; go_simp
        try simp only [Act.put, zT, z0, zS]
        refine Rel.c_pure rfl (.pointer (some ⟨R, k * 2 + 1, none⟩)) rfl (by decide) (hO 12 _ rfl) (by rfl) (fun w hC hd => ?_) ?_
        · clear hd hO; go_simp
        try simp only [Act.put, zT, z0, zS]
        refine Rel.c_pure rfl (.slice f n c) rfl (by decide) (hO 13 _ rfl) (by rfl) (fun w hC hd => ?_) ?_
        · obtain ⟨y0, y1, y2, y3, y4, y5, y6⟩ := hcl3.out w hC; clear hd hO; go_simp
        try simp only [Act.put, zT, z0, zS]
        refine Rel.c_pure rfl (.pointer (some ⟨R, k * 2, none⟩)) rfl (by decide) (hO 14 _ rfl) (by rfl) (fun w hC hd => ?_) ?_
        · clear hd hO; go_simp
        try simp only [Act.put, zT, z0, zS]
        refine Rel.c_pure rfl (.pointer (some ⟨R, k * 2 + 1, none⟩)) rfl (by decide) (hO 15 _ rfl) (by rfl) (fun w hC hd => ?_) ?_
        · clear hd hO; go_simp
        try simp only [Act.put, zT, z0, zS]
        refine Rel.c_tail0 rfl rfl (by rfl) (fun w hC hd => ?_) ?_
        · refine post_skip' (w.setCell ⟨R, k * 2 + 1, none⟩ (.slice f' lm c')) ?_ ⟨fun h => absurd h (by decide), fun h => absurd h (by decide), w, hC, fun _ => rfl, fun h => absurd h (by decide)⟩
          obtain ⟨y0, y1, y2, y3, y4, y5, y6⟩ := hcl3.out w hC
          clear hd hO hC; go_simp
        try simp only [Act.put, zT, z0, zS]
        refine Rel.c_tail rfl 16 rfl (by decide) (by rfl) (fun w hF => ?_) ?_
        · obtain ⟨_, _, W0, h1, h2, _⟩ := hF
          refine post_value (.pointer (some ⟨R, m * 2, none⟩)) w ?_ ⟨fun _ => by simp [Rel.upd], fun h => absurd h (by decide), W0, h1, fun _ => h2 (by decide), fun h => absurd h (by decide)⟩
          clear hO h1 h2; go_simp
        try simp only [Act.put, zT, z0, zS]
        refine Rel.c_tail rfl 17 rfl (by decide) (by rfl) (fun w hF => ?_) ?_
        · obtain ⟨h0, _, W0, h1, h2, _⟩ := hF
          have h0 := h0 rfl
          refine post_value (.pointer (some ⟨R, m * 2 + 1, none⟩)) w ?_ ⟨fun h => absurd h (by decide), fun _ => by simp [Rel.upd], W0, h1, fun _ => h2 (by decide), fun h => absurd h (by decide)⟩
          rw [h0]
          clear hO h1 h2 h0; go_simp
        try simp only [Act.put, zT, z0, zS]
        refine Rel.c_tail rfl 18 rfl (by decide) (by rfl) (fun w hF => ?_) ?_
        · obtain ⟨_, h0, W0, h1, h2, _⟩ := hF
          have h0 := h0 rfl
          have h2 := h2 (by decide)
          subst h2
          refine post_skip' ((W0.setCell ⟨R, k * 2 + 1, none⟩ (.slice f' lm c')).setCell ⟨R, m * 2 + 1, none⟩ (.slice f n c)) ?_ ⟨fun h => absurd h (by decide), fun h => absurd h (by decide), W0, h1, fun h => absurd h (by decide), fun _ => rfl⟩
          obtain ⟨⟨z, z1⟩, z2⟩ := (hS3.out W0 h1).storeOk k (.slice f' lm c') hkL.out.2
          obtain ⟨W1, hW1⟩ : ∃ W1, W1 = W0.setCell ⟨R, k * 2 + 1, none⟩ (.slice f' lm c') := ⟨_, rfl⟩
          rw [← hW1] at z1 z2 ⊢
          rw [h0]
          clear hO h1 h0 hW1; go_simp
        try simp only [Act.put, zT, z0, zS]
        refine Rel.c_end ?_
        intro w4 hF
        obtain ⟨_, _, W0, h1, _, h2⟩ := hF
        replace h2 := h2 rfl
        subst h2
        have hS4 := Lib.hid ((hS3.out W0 h1).swap hq.out hvk2.out hp.out hvm2.out)
        have hB4 := Lib.hid (((hB3.out W0 h1).setCell (p := ⟨R, k * 2 + 1, none⟩) hRb.out (.slice f' p.2.length c')).setCell (p := ⟨R, m * 2 + 1, none⟩) hRb.out (.slice f q.2.length c))
        rw [← hlk.out, ← hlm.out] at hS4 hB4
        clear hO h1
        go_wp2_with fail
        go_roundg ga
        case measure => omega
        case rel => exact ⟨i + 1, _, hle.out, by go_num, by rw [hst2.out]; exact hS4.out, hB4.out⟩
    · have hst1 : Hid (A (i + 1) = if P3 = 0 then Li.set k (q.1, q.2.set n (P12 - 2)) else Li.set k (q.1, q.2.set n (q.2.getD n 0 + P5 - 2))) := by
        show _ = _
        rw [hst.out, if_neg hnk]
      have hne : ((n : Int) == (lk : Int)) = false := by
        rw [beq_eq_false_iff_ne]; omega
      have hnl2 : n < lk := by omega
      obtain ⟨g, rfl⟩ := hf.out (by omega)
      obtain ⟨a, ha, ha1, ha2⟩ := hlab.out n hnl2
      have hla := Lib.hid (fun W (b : Below w3.heap.size w3 W) => OwnI.at_ ((hS3.out W b).lab k q _ hq.out (by rw [hvk2.out])) n a ha)
      have hgb : Hid (w.heap.size ≤ g) := (OwnI.base ((hS3.out w3 (Below.refl _ _)).lab k q _ hq.out (by rw [hvk2.out])) g rfl).1
      have hga : Hid (q.2.getD n 0 = a) := by show _ = _; rw [List.getD_eq_getElem?_getD, ha]; rfl
      have n0 : (0 : Int) ≤ (n : Int) := by omega
      have n1 : (n : Int) < (lk : Int) := by omega
      obtain ⟨⟨v0, v1⟩, ⟨v2, v3⟩⟩ := hpb.out
      replace ha := Lib.hid ha
      clear hst hp3 hnk
      go_upto_region 16 with (fail)
      go_wp2_with fail
      refine (hp3b.out _).mono ?_
      rintro e w1 ⟨rfl, rfl⟩
      clear y0 y1 y2 y3 y4 y5 y6
      by_cases h3 : P3 = 0
      · have hst2 : Hid (A (i + 1) = Li.set k (q.1, q.2.set n (P12 - 2))) := by show _ = _; rw [hst1.out, if_pos h3]
        subst h3
        have m3 : IntKind.i64.wrap (P12 - 2) = P12 - 2 := IntWalk.i64_in _ (by omega)
        clear hst1 hp5
        go_upto_region 17 with (fail)
        refine Rel.c_region (fun _ => false) w3 [some (.slice (some ⟨R, 0, none⟩) N cap), some (.int .i64 k), some (.pointer (some ⟨R, k * 2, none⟩)), some (.pointer (some ⟨R, k * 2 + 1, none⟩)), some (.slice (some ⟨g, 0, none⟩) lk c), some (.int .i64 n), some (.slice (some ⟨bx, ox, none⟩) X xc), some (.int .i64 i), some (.pointer (some ⟨bx, ox + i * 3, none⟩)), some (.pointer (some ⟨bx, ox + i * 3 + 2, none⟩)), some (.int .i64 t2), none, some (.int .i64 (P12 - 2)), some (.pointer (some ⟨g, n, none⟩)), none] (fun i v _ => i = 11 → v = .int .i64 P12)
          (fun i vals W => ∃ W0, Below w3.heap.size w3 W0 ∧ W = W0.setCell ⟨g, n, none⟩ (.int .i64 (P12 - 2))) 14 (by kernel_rfl) (by kernel_rfl) (fun i hi => by cases hi)
          (fun j hj => by simp only [List.getD_eq_getElem?_getD]; rcases Nat.eq_or_lt_of_le hj with rfl | hj2; rfl; rw [List.getElem?_eq_none (by simp; omega)]; rfl) (by decide) (fun i v W W' h Bl => h) ((Below.refl _ w3).drew) (fun vals hO => ?_)
        refine Rel.c_pure rfl (.slice (some ⟨R, 0, none⟩) N cap) rfl (by decide) (hO 0 _ rfl) (by rfl) (fun w hC hd => ?_) ?_
        · clear hd hO; go_simp
        try simp only [Act.put, zT, z0, zS]
        refine Rel.c_pure rfl (.int .i64 k) rfl (by decide) (hO 1 _ rfl) (by rfl) (fun w hC hd => ?_) ?_
        · clear hd hO; go_simp
        try simp only [Act.put, zT, z0, zS]
        refine Rel.c_pure rfl (.pointer (some ⟨R, k * 2, none⟩)) rfl (by decide) (hO 2 _ rfl) (by rfl) (fun w hC hd => ?_) ?_
        · clear hd hO; go_simp
        try simp only [Act.put, zT, z0, zS]
        refine Rel.c_pure rfl (.pointer (some ⟨R, k * 2 + 1, none⟩)) rfl (by decide) (hO 3 _ rfl) (by rfl) (fun w hC hd => ?_) ?_
        · clear hd hO; go_simp
        try simp only [Act.put, zT, z0, zS]
        refine Rel.c_pure rfl (.slice (some ⟨g, 0, none⟩) lk c) rfl (by decide) (hO 4 _ rfl) (by rfl) (fun w hC hd => ?_) ?_
        · obtain ⟨y0, y1, y2, y3, y4, y5, y6⟩ := hcl3.out w hC; clear hd hO; go_simp
        try simp only [Act.put, zT, z0, zS]
        refine Rel.c_pure rfl (.int .i64 n) rfl (by decide) (hO 5 _ rfl) (by rfl) (fun w hC hd => ?_) ?_
        · clear hd hO; go_simp
        try simp only [Act.put, zT, z0, zS]
        refine Rel.c_pure rfl (.slice (some ⟨bx, ox, none⟩) X xc) rfl (by decide) (hO 6 _ rfl) (by rfl) (fun w hC hd => ?_) ?_
        · clear hd hO; go_simp
        try simp only [Act.put, zT, z0, zS]
        refine Rel.c_pure rfl (.int .i64 i) rfl (by decide) (hO 7 _ rfl) (by rfl) (fun w hC hd => ?_) ?_
        · clear hd hO; go_simp
        try simp only [Act.put, zT, z0, zS]
        refine Rel.c_pure rfl (.pointer (some ⟨bx, ox + i * 3, none⟩)) rfl (by decide) (hO 8 _ rfl) (by rfl) (fun w hC hd => ?_) ?_
        · clear hd hO; go_simp
        try simp only [Act.put, zT, z0, zS]
        refine Rel.c_pure rfl (.pointer (some ⟨bx, ox + i * 3 + 2, none⟩)) rfl (by decide) (hO 9 _ rfl) (by rfl) (fun w hC hd => ?_) ?_
        · clear hd hO; go_simp
        try simp only [Act.put, zT, z0, zS]
        refine Rel.c_pure rfl (.int .i64 t2) rfl (by decide) (hO 10 _ rfl) (by rfl) (fun w hC hd => ?_) ?_
        · obtain ⟨y0, y1, y2, y3, y4, y5, y6⟩ := hcl3.out w hC; clear hd hO; go_simp
        try simp only [Act.put, zT, z0, zS]
        refine Rel.c_rel rfl rfl (by decide) (by rfl) (fun w hC hd => ?_) ?_
        · refine post_call Try.f44 rfl Try.func44 (by kernel_rfl) (by kernel_rfl) #[.int .i64 t2, .int .i64 12] (by simp [Act.eval]) ((hp12.out w).mono ?_)
          rintro e w5 ⟨rfl, rfl⟩
          exact ⟨_, rfl, Below.refl _ _, fun _ => rfl⟩
        try simp only [Act.put, zT, z0, zS]
        refine Rel.c_pure rfl (.int .i64 (P12 - 2)) rfl (by decide) (hO 12 _ rfl) (by rfl) (fun w hC hd => ?_) ?_
        · have h11 : vals 11 = .int .i64 P12 := hd 11 (by decide) rfl; rw [h11]; clear hd hO; go_simp
        try simp only [Act.put, zT, z0, zS]
        refine Rel.c_pure rfl (.pointer (some ⟨g, n, none⟩)) rfl (by decide) (hO 13 _ rfl) (by rfl) (fun w hC hd => ?_) ?_
        · clear hd hO; go_simp
        try simp only [Act.put, zT, z0, zS]
        refine Rel.c_tail0 rfl rfl (by rfl) (fun w hC hd => ?_) ?_
        · refine post_skip' (w.setCell ⟨g, n, none⟩ (.int .i64 (P12 - 2))) ?_ ⟨w, hC, rfl⟩
          obtain ⟨yl, yf⟩ := hla.out w hC
          clear hd hO hC; go_simp
        try simp only [Act.put, zT, z0, zS]
        refine Rel.c_end ?_
        intro w4 hF
        obtain ⟨W0, h1, rfl⟩ := hF
        have hS4 := Lib.hid ((hS3.out W0 h1).setLab hq.out (by rw [hvk2.out, ← hlk.out]) n ((P12 - 2)))
        have hB4 := Lib.hid ((hB3.out W0 h1).setCell (p := ⟨g, n, none⟩) hgb.out (.int .i64 ((P12 - 2))))
        clear hO h1
        go_wp2_with fail
        go_roundg ga
        case measure => omega
        case rel => exact ⟨i + 1, _, hle.out, by go_num, by rw [hst2.out]; exact hS4.out, hB4.out⟩
      · have hst2 : Hid (A (i + 1) = Li.set k (q.1, q.2.set n (a + P5 - 2))) := by show _ = _; rw [hst1.out, if_neg h3, hga.out]
        have h3b : (P3 == 0) = false := by simpa using h3
        have m3 : IntKind.i64.wrap (a + P5) = a + P5 := IntWalk.i64_in _ (by omega)
        have m4 : IntKind.i64.wrap (a + P5 - 2) = a + P5 - 2 := IntWalk.i64_in _ (by omega)
        clear hst1 h3 hp12
        go_upto_region 18 with (fail)
        refine Rel.c_region (fun _ => false) w3 [some (.slice (some ⟨R, 0, none⟩) N cap), some (.int .i64 k), some (.pointer (some ⟨R, k * 2, none⟩)), some (.pointer (some ⟨R, k * 2 + 1, none⟩)), some (.slice (some ⟨g, 0, none⟩) lk c), some (.int .i64 n), some (.slice (some ⟨R, 0, none⟩) N cap), some (.int .i64 k), some (.pointer (some ⟨R, k * 2, none⟩)), some (.pointer (some ⟨R, k * 2 + 1, none⟩)), some (.slice (some ⟨g, 0, none⟩) lk c), some (.int .i64 n), some (.pointer (some ⟨g, n, none⟩)), some (.int .i64 a), some (.slice (some ⟨bx, ox, none⟩) X xc), some (.int .i64 i), some (.pointer (some ⟨bx, ox + i * 3, none⟩)), some (.pointer (some ⟨bx, ox + i * 3 + 2, none⟩)), some (.int .i64 t2), none, some (.int .i64 (a + P5)), some (.int .i64 (a + P5 - 2)), some (.pointer (some ⟨g, n, none⟩)), none] (fun i v _ => i = 19 → v = .int .i64 P5)
          (fun i vals W => ∃ W0, Below w3.heap.size w3 W0 ∧ W = W0.setCell ⟨g, n, none⟩ (.int .i64 (a + P5 - 2))) 23 (by kernel_rfl) (by kernel_rfl) (fun i hi => by cases hi)
          (fun j hj => by simp only [List.getD_eq_getElem?_getD]; rcases Nat.eq_or_lt_of_le hj with rfl | hj2; rfl; rw [List.getElem?_eq_none (by simp; omega)]; rfl) (by decide) (fun i v W W' h Bl => h) ((Below.refl _ w3).drew) (fun vals hO => ?_)
        refine Rel.c_pure rfl (.slice (some ⟨R, 0, none⟩) N cap) rfl (by decide) (hO 0 _ rfl) (by rfl) (fun w hC hd => ?_) ?_
        · clear hd hO; go_simp
        try simp only [Act.put, zT, z0, zS]
        refine Rel.c_pure rfl (.int .i64 k) rfl (by decide) (hO 1 _ rfl) (by rfl) (fun w hC hd => ?_) ?_
        · clear hd hO; go_simp
        try simp only [Act.put, zT, z0, zS]
        refine Rel.c_pure rfl (.pointer (some ⟨R, k * 2, none⟩)) rfl (by decide) (hO 2 _ rfl) (by rfl) (fun w hC hd => ?_) ?_
        · clear hd hO; go_simp
        try simp only [Act.put, zT, z0, zS]
        refine Rel.c_pure rfl (.pointer (some ⟨R, k * 2 + 1, none⟩)) rfl (by decide) (hO 3 _ rfl) (by rfl) (fun w hC hd => ?_) ?_
        · clear hd hO; go_simp
        try simp only [Act.put, zT, z0, zS]
        refine Rel.c_pure rfl (.slice (some ⟨g, 0, none⟩) lk c) rfl (by decide) (hO 4 _ rfl) (by rfl) (fun w hC hd => ?_) ?_
        · obtain ⟨y0, y1, y2, y3, y4, y5, y6⟩ := hcl3.out w hC; clear hd hO; go_simp
        try simp only [Act.put, zT, z0, zS]
        refine Rel.c_pure rfl (.int .i64 n) rfl (by decide) (hO 5 _ rfl) (by rfl) (fun w hC hd => ?_) ?_
        · clear hd hO; go_simp
        try simp only [Act.put, zT, z0, zS]
        refine Rel.c_pure rfl (.slice (some ⟨R, 0, none⟩) N cap) rfl (by decide) (hO 6 _ rfl) (by rfl) (fun w hC hd => ?_) ?_
        · clear hd hO; go_simp
        try simp only [Act.put, zT, z0, zS]
        refine Rel.c_pure rfl (.int .i64 k) rfl (by decide) (hO 7 _ rfl) (by rfl) (fun w hC hd => ?_) ?_
        · clear hd hO; go_simp
        try simp only [Act.put, zT, z0, zS]
        refine Rel.c_pure rfl (.pointer (some ⟨R, k * 2, none⟩)) rfl (by decide) (hO 8 _ rfl) (by rfl) (fun w hC hd => ?_) ?_
        · clear hd hO; go_simp
        try simp only [Act.put, zT, z0, zS]
        refine Rel.c_pure rfl (.pointer (some ⟨R, k * 2 + 1, none⟩)) rfl (by decide) (hO 9 _ rfl) (by rfl) (fun w hC hd => ?_) ?_
        · clear hd hO; go_simp
        try simp only [Act.put, zT, z0, zS]
        refine Rel.c_pure rfl (.slice (some ⟨g, 0, none⟩) lk c) rfl (by decide) (hO 10 _ rfl) (by rfl) (fun w hC hd => ?_) ?_
        · obtain ⟨y0, y1, y2, y3, y4, y5, y6⟩ := hcl3.out w hC; clear hd hO; go_simp
        try simp only [Act.put, zT, z0, zS]
        refine Rel.c_pure rfl (.int .i64 n) rfl (by decide) (hO 11 _ rfl) (by rfl) (fun w hC hd => ?_) ?_
        · clear hd hO; go_simp
        try simp only [Act.put, zT, z0, zS]
        refine Rel.c_pure rfl (.pointer (some ⟨g, n, none⟩)) rfl (by decide) (hO 12 _ rfl) (by rfl) (fun w hC hd => ?_) ?_
        · clear hd hO; go_simp
        try simp only [Act.put, zT, z0, zS]
        refine Rel.c_pure rfl (.int .i64 a) rfl (by decide) (hO 13 _ rfl) (by rfl) (fun w hC hd => ?_) ?_
        · obtain ⟨yl, yf⟩ := hla.out w hC; clear hd hO; go_simp
        try simp only [Act.put, zT, z0, zS]
        refine Rel.c_pure rfl (.slice (some ⟨bx, ox, none⟩) X xc) rfl (by decide) (hO 14 _ rfl) (by rfl) (fun w hC hd => ?_) ?_
        · clear hd hO; go_simp
        try simp only [Act.put, zT, z0, zS]
        refine Rel.c_pure rfl (.int .i64 i) rfl (by decide) (hO 15 _ rfl) (by rfl) (fun w hC hd => ?_) ?_
        · clear hd hO; go_simp
        try simp only [Act.put, zT, z0, zS]
        refine Rel.c_pure rfl (.pointer (some ⟨bx, ox + i * 3, none⟩)) rfl (by decide) (hO 16 _ rfl) (by rfl) (fun w hC hd => ?_) ?_
        · clear hd hO; go_simp
        try simp only [Act.put, zT, z0, zS]
        refine Rel.c_pure rfl (.pointer (some ⟨bx, ox + i * 3 + 2, none⟩)) rfl (by decide) (hO 17 _ rfl) (by rfl) (fun w hC hd => ?_) ?_
        · clear hd hO; go_simp
        try simp only [Act.put, zT, z0, zS]
        refine Rel.c_pure rfl (.int .i64 t2) rfl (by decide) (hO 18 _ rfl) (by rfl) (fun w hC hd => ?_) ?_
        · obtain ⟨y0, y1, y2, y3, y4, y5, y6⟩ := hcl3.out w hC; clear hd hO; go_simp
        try simp only [Act.put, zT, z0, zS]
        refine Rel.c_rel rfl rfl (by decide) (by rfl) (fun w hC hd => ?_) ?_
        · refine post_call Try.f44 rfl Try.func44 (by kernel_rfl) (by kernel_rfl) #[.int .i64 t2, .int .i64 5] (by simp [Act.eval]) ((hp5.out w).mono ?_)
          rintro e w5 ⟨rfl, rfl⟩
          exact ⟨_, rfl, Below.refl _ _, fun _ => rfl⟩
        try simp only [Act.put, zT, z0, zS]
        refine Rel.c_pure rfl (.int .i64 (a + P5)) rfl (by decide) (hO 20 _ rfl) (by rfl) (fun w hC hd => ?_) ?_
        · have h11 : vals 19 = .int .i64 P5 := hd 19 (by decide) rfl; rw [h11]; clear hd hO; go_simp
        try simp only [Act.put, zT, z0, zS]
        refine Rel.c_pure rfl (.int .i64 (a + P5 - 2)) rfl (by decide) (hO 21 _ rfl) (by rfl) (fun w hC hd => ?_) ?_
        · clear hd hO; go_simp
        try simp only [Act.put, zT, z0, zS]
        refine Rel.c_pure rfl (.pointer (some ⟨g, n, none⟩)) rfl (by decide) (hO 22 _ rfl) (by rfl) (fun w hC hd => ?_) ?_
        · clear hd hO; go_simp
        try simp only [Act.put, zT, z0, zS]
        refine Rel.c_tail0 rfl rfl (by rfl) (fun w hC hd => ?_) ?_
        · refine post_skip' (w.setCell ⟨g, n, none⟩ (.int .i64 (a + P5 - 2))) ?_ ⟨w, hC, rfl⟩
          obtain ⟨yl, yf⟩ := hla.out w hC
          clear hd hO hC; go_simp
        try simp only [Act.put, zT, z0, zS]
        refine Rel.c_end ?_
        intro w4 hF
        obtain ⟨W0, h1, rfl⟩ := hF
        have hS4 := Lib.hid ((hS3.out W0 h1).setLab hq.out (by rw [hvk2.out, ← hlk.out]) n ((a + P5 - 2)))
        have hB4 := Lib.hid ((hB3.out W0 h1).setCell (p := ⟨g, n, none⟩) hgb.out (.int .i64 ((a + P5 - 2))))
        clear hO h1
        go_wp2_with fail
        go_roundg ga
        case measure => omega
        case rel => exact ⟨i + 1, _, hle.out, by go_num, by rw [hst2.out]; exact hS4.out, hB4.out⟩

end Go.Proofs.Ythmkmjkbfjhffaa
/- Contracts and facts. -/
set_option linter.unusedSimpArgs false
set_option maxRecDepth 100000
set_option maxHeartbeats 4000000
namespace Go.Proofs.Ythmkmjkbfjhffaa
open Go.RowKit

theorem bentF_nil (x : List T3) : bentF [] x = [] := by
  unfold bentF
  generalize x.take 4 = l
  induction l with
  | nil => rfl
  | cons t l ih =>
    rw [List.foldl_cons, show bstep [] t = [] from List.length_eq_zero_iff.1 (by rw [bstep_len]; rfl)]
    exact ih
set_option maxRecDepth 1000000 in
theorem bent_nil (q0 q2 q3 q4 q6 q7 q8 q9 q10 q11 q12 q13 q14 q15 q16 q17 q18 q19 q20 q21 q22 q23 q24 q25 q26 q27 q28 q29 q30 q31 q32 q33 q34 q35 q36 q37 q38 q39 q40 q41 q42 q43 q44 q45 q46 q47 q48 q49 q50 q51 q52 q53 q54 q55 q56 q57 q58 q59 q60 q61 q62 q63 q64 q65 q66 q67 q68 q69 q70 q71 q72 q73 q74 q75 q76 q77 q78 q79 q80 q81 q82 q83 q84 q85 q86 q87 q88 q89 q90 q91 q92 q93 q94 q95 q96 q97 q98 q99 q100 q101 q102 q103 q104 q105 q106 q107 q108 q109 q110 q111 q112 q113 q114 q115 q116 q117 q118 q119 q120 q121 q122 q123 q124 q125 q126 q127 q128 q129 q130 q131 q132 q133 q134 q135 q136 q137 q138 q139 q140 q141 q142 q143 q144 q145 q146 q147 q148 q149 q150 q151 q152 q153 q154 q155 q156 q157 q158 q159 q160 q161 q162 q163 q164 q165 q166 q167 q168 q169 q170 : Value) (w wA : World) (xa : Option Addr) (X xc : Nat) (x : List T3) (hXl : X ≤ 9223372036854775807) (ra : Option Addr) (rc : Nat) (hS : Hid (OwnN wA w.heap.size (.slice ra 0 rc) [])) (hbel : Hid (Below w.heap.size w wA)) :
    Code.wp Try.prog (sfxB 3) (bodyPost Try.prog Try.f22 (BentR w (bentF [] x))) ⟨(q0 :: .slice xa X xc :: q2 :: q3 :: q4 :: .slice ra 0 rc :: q6 :: q7 :: q8 :: q9 :: q10 :: q11 :: q12 :: q13 :: q14 :: q15 :: q16 :: q17 :: q18 :: q19 :: q20 :: q21 :: q22 :: q23 :: q24 :: q25 :: q26 :: q27 :: q28 :: q29 :: q30 :: q31 :: q32 :: q33 :: q34 :: q35 :: q36 :: q37 :: q38 :: q39 :: q40 :: q41 :: q42 :: q43 :: q44 :: q45 :: q46 :: q47 :: q48 :: q49 :: q50 :: q51 :: q52 :: q53 :: q54 :: q55 :: q56 :: q57 :: q58 :: q59 :: q60 :: q61 :: q62 :: q63 :: q64 :: q65 :: q66 :: q67 :: q68 :: q69 :: q70 :: q71 :: q72 :: q73 :: q74 :: q75 :: q76 :: q77 :: q78 :: q79 :: q80 :: q81 :: q82 :: q83 :: q84 :: q85 :: q86 :: q87 :: q88 :: q89 :: q90 :: q91 :: q92 :: q93 :: q94 :: q95 :: q96 :: q97 :: q98 :: q99 :: q100 :: q101 :: q102 :: q103 :: q104 :: q105 :: q106 :: q107 :: q108 :: q109 :: q110 :: q111 :: q112 :: q113 :: q114 :: q115 :: q116 :: q117 :: q118 :: q119 :: q120 :: q121 :: q122 :: q123 :: q124 :: q125 :: q126 :: q127 :: q128 :: q129 :: q130 :: q131 :: q132 :: q133 :: q134 :: q135 :: q136 :: q137 :: q138 :: q139 :: q140 :: q141 :: q142 :: q143 :: q144 :: q145 :: q146 :: q147 :: q148 :: q149 :: q150 :: q151 :: q152 :: q153 :: q154 :: q155 :: q156 :: q157 :: q158 :: q159 :: q160 :: q161 :: q162 :: q163 :: q164 :: q165 :: q166 :: q167 :: q168 :: q169 :: q170 :: []).toArray, []⟩ wA := by
  rw [bentF_nil]
  conv => arg 2; whnf
  go_wp2_with fail
  go_loopg [7] 0 (fun q kv wr => q = 0 ∧ kv = .int .i64 0 ∧ OwnN wr w.heap.size (.slice ra 0 rc) [] ∧ Below w.heap.size w wr)
  case atStart => exact ⟨rfl, rfl, hS.out, hbel.out⟩
  case round =>
    obtain ⟨rfl, rfl, hS1, hB⟩ := hrel
    have hS2 := Lib.hid hS1
    have hB2 := Lib.hid hB
    clear hB hbel hS hS1
    by_cases hX : X = 0
    · subst hX
      go_wp2_with fail
      go_ret
      exact ⟨_, rfl, hS2.out, hB2.out⟩
    · have i1 : (0 : Int) < (X : Int) := by omega
      clear hX
      go_wp2_with fail
      go_ret
      exact ⟨_, rfl, hS2.out, hB2.out⟩
set_option maxRecDepth 1000000 in
set_option maxHeartbeats 8000000 in
theorem Bent_any (lv xv : Value) (L : List Nm) (x : List T3) (w : World) (hL : NL w lv L) (hx : L3 w xv x) (hLn : L.length ≤ 1000000) (hXl : x.length ≤ 9223372036854775807) (hxi : ∀ t ∈ x, i64T t) (hbd : Bd 1000000 L) :
    Calls Try.prog 22 #[lv, xv] w (BentR w (bentF L x)) := by
  obtain ⟨la, lc, rfl⟩ := hL.shape
  obtain ⟨xa, xc, rfl⟩ := hx.shape
  obtain ⟨RR, hRR⟩ : ∃ R, Hid (R = bentF L x) := ⟨_, rfl⟩
  rw [← hRR.out]
  obtain ⟨N, hN⟩ : ∃ N, Hid (N = L.length) := ⟨_, rfl⟩
  obtain ⟨X, hX⟩ : ∃ N, Hid (N = x.length) := ⟨_, rfl⟩
  have hL2 := Lib.hid hL
  have hx2 := Lib.hid hx
  rw [← hX.out] at hx2
  have hbd2 := Lib.hid hbd
  have hxi2 := Lib.hid hxi
  have cellL := Lib.hid hL.cells
  rw [← hN.out] at hLn ⊢
  rw [← hX.out] at hXl ⊢
  obtain ⟨A, hA⟩ : ∃ A : Nat → List Nm, ∀ k, A k = L.take k := ⟨_, fun _ => rfl⟩
  have hA0 : Hid (A 0 = []) := by show _ = _; rw [hA]; rfl
  have hAs := Lib.hid (fun (k : Nat) (hk : k < L.length) => (show A (k + 1) = A k ++ [L[k]] by rw [hA, hA, List.take_succ_eq_append_getElem hk]))
  have hAe : Hid (A N = L) := by show _ = _; rw [hA, hN.out, List.take_of_length_le (Nat.le_refl _)]
  have hAl := Lib.hid (fun k (hk : k ≤ N) => (show (A k).length = k by rw [hA, List.length_take]; have := hN.out; omega))
  have hxl := Lib.hid (fun (k : Nat) (hk : k < L.length) => (hbd L[k] (List.getElem_mem hk)).1)
  clear hL hx hbd hxi hA
  go_enter Try.func22, Try.ntmps22
  go_wp2_with fail
  go_loopg [5, 6] N (fun q ov kv wr => ∃ k : Nat, k + q = N ∧ kv = .int .i64 k ∧ OwnN wr w.heap.size ov (A k) ∧ Below w.heap.size w wr)
  case atStart => exact ⟨0, by omega, rfl, by rw [hA0.out]; exact OwnN.nil _ _, Below.refl _ _⟩
  case round =>
  obtain ⟨k, hk, rfl, hS, hB⟩ := hrel
  obtain ⟨wo, rfl⟩ : ∃ x, x = wr := ⟨_, rfl⟩
  clear hA0
  cases gk with
  | zero =>
    have hk2 : N = k := by omega
    have i1 : ¬ (k : Int) < (N : Int) := by omega
    rw [← hk2, hAe.out] at hS
    clear hk
    have hS2 := Lib.hid hS
    have hB2 := Lib.hid hB
    rename_i Ka hKa J1 Kb hJ1 hJ2
    have hK1 := Lib.hid hKa
    clear hKa hS hB
    obtain ⟨a1, a2, rfl⟩ := hS2.out.NL.shape
    by_cases hN0 : N = 0
    · have hLe : L = [] := List.length_eq_zero_iff.1 (by rw [← hN.out]; exact hN0)
      subst hLe
      clear hN0 hk2
      simp only [List.length_nil] at hS2 ⊢
      go_wp2_with fail
      refine hK1.out _ _ ?_
      refine wp_eq (D := sfxB 3) (by kernel_rfl) ?_
      rw [hRR.out]
      exact bent_nil _ _ _ _ _ _ _ _ _ _ _ _ _ _ _ _ _ _ _ _ _ _ _ _ _ _ _ _ _ _ _ _ _ _ _ _ _ _ _ _ _ _ _ _ _ _ _ _ _ _ _ _ _ _ _ _ _ _ _ _ _ _ _ _ _ _ _ _ _ _ _ _ _ _ _ _ _ _ _ _ _ _ _ _ _ _ _ _ _ _ _ _ _ _ _ _ _ _ _ _ _ _ _ _ _ _ _ _ _ _ _ _ _ _ _ _ _ _ _ _ _ _ _ _ _ _ _ _ _ _ _ _ _ _ _ _ _ _ _ _ _ _ _ _ _ _ _ _ _ _ _ _ _ _ _ _ _ _ _ _ _ _ _ _ _ _ _ _ _ w _ xa X xc x hXl a1 a2 hS2 hB2
    · obtain ⟨vs, hv⟩ := hS2.out
      rcases hv.row.2 with ⟨h0, h1⟩ | ⟨R, cap, cur, h0, _⟩
      · exact absurd (hN.out.trans h1) hN0
      · injection h0 with h0 _ h1
        subst h0 h1
        have hv2 := Lib.hid hv
        have hN0' : 0 < N := by omega
        rw [← hN.out] at hv2
        clear hv hS2 hN0 hk2
        rw [← hN.out]
        go_wp2_with fail
        refine hK1.out _ _ ?_
        refine wp_eq (D := sfxB 3) (by kernel_rfl) ?_
        rw [hRR.out]
        exact bent_loop _ _ _ _ _ _ _ _ _ _ _ _ _ _ _ _ _ _ _ _ _ _ _ _ _ _ _ _ _ _ _ _ _ _ _ _ _ _ _ _ _ _ _ _ _ _ _ _ _ _ _ _ _ _ _ _ _ _ _ _ _ _ _ _ _ _ _ _ _ _ _ _ _ _ _ _ _ _ _ _ _ _ _ _ _ _ _ _ _ _ _ _ _ _ _ _ _ _ _ _ _ _ _ _ _ _ _ _ _ _ _ _ _ _ _ _ _ _ _ _ _ _ _ _ _ _ _ _ _ _ _ _ _ _ _ _ _ _ _ _ _ _ _ _ _ _ _ _ _ _ _ _ _ _ _ _ _ _ _ _ _ _ _ _ _ _ _ _ _ w _ R N a2 xa X xc L x vs hN hN0' hX hLn hXl hx2 hxi2 hbd2 hB2 hv2
  | succ ga =>
    have hlt : k < N := by omega
    have hkl : k < L.length := by rw [← hN.out]; exact hlt
    obtain ⟨bv, ov, lvk, rfl, cv⟩ := cellL.out k hkl
    have j0 : (0 : Int) ≤ (k : Int) := by omega
    have j1 : (k : Int) < (N : Int) := by omega
    have hle : Hid (k + 1 + ga = N) := by show _ = _; omega
    have hst := Lib.hid (hAs.out k hkl)
    have hln := hAl.out k (by omega)
    have hlN : Hid (k ≤ 1000000) := by show _ ≤ _; omega
    have hxk := Lib.hid (hxl.out k hkl)
    generalize L[k] = x at *
    obtain ⟨o1, o2, rfl⟩ := hS.NL.shape
    obtain ⟨vs, hvs⟩ := hS
    have hcW := Lib.hid (fun W (q : Below wo.heap.size wo W) => (show W.cell? ⟨bv, ov + k * 2, none⟩ = some (.int .i64 x.1) ∧ W.cell? ⟨bv, ov + k * 2 + 1, none⟩ = some lvk ∧ DL W lvk x.2 from ⟨(cv W (hB.trans (q.mono hB.size))).1, (cv W (hB.trans (q.mono hB.size))).2.1, (cv W (hB.trans (q.mono hB.size))).2.2⟩))
    have hsW := Lib.hid (fun W (q : Below wo.heap.size wo W) => hvs.below q)
    have hlt2 := Lib.hid (fun (j : Nat) (u : Value) (hu : vs[j]? = some u) (b : Nat) (hb : u.ownBlock = some b) => hvs.lt j u hu b hb)
    have hbase : Hid (w.heap.size ≤ wo.heap.size) := hB.size
    have hB2 := Lib.hid hB
    obtain ⟨la1, la2, hlv⟩ := (hcW.out wo (Below.refl _ _)).2.2.shape
    subst hlv
    generalize A k = Lk at *
    have hkk := Lib.hid hln
    rw [hln] at hsW ⊢
    clear cv hvs hB hlt hkl hk hAs hAl hAe cellL hxl hln
    go_upto_region 5 with (fail)
    refine Rel.c_region (fun _ => false) wo [some (.slice o1 k o2), some (.slice (some ⟨bv, ov, none⟩) N lc), some (.int .i64 k), some (.pointer (some ⟨bv, ov + k * 2, none⟩)), some (.pointer (some ⟨bv, ov + k * 2, none⟩)), some (.int .i64 x.1), none, some (.slice (some ⟨bv, ov, none⟩) N lc), some (.int .i64 k), some (.pointer (some ⟨bv, ov + k * 2, none⟩)), some (.pointer (some ⟨bv, ov + k * 2 + 1, none⟩)), some (.slice la1 x.2.length la2), none, none, none, none, none]
      (fun i v W => match i with
        | 6 => ∃ q, v = .slice (some ⟨q, 0, none⟩) 0 0 ∧ W.heap[q]? = some (.cells #[] 3 (0, 0)) ∧ wo.heap.size ≤ q
        | 12 => ∃ f c, v = .slice f x.2.length c ∧ OwnI W w.heap.size v x.2 ∧ ∀ bb, v.ownBlock = some bb → wo.heap.size ≤ bb
        | 13 => ∃ f c, v = .agg #[.int .i64 x.1, .slice f x.2.length c] ∧ OwnI W w.heap.size (.slice f x.2.length c) x.2 ∧ ∀ bb, (Value.slice f x.2.length c).ownBlock = some bb → wo.heap.size ≤ bb
        | 14 => ∃ q f c, v = .slice (some ⟨q, 0, none⟩) 1 1 ∧ W.heap[q]? = some (.cells #[.int .i64 x.1, .slice f x.2.length c] 54 (0, 0)) ∧ OwnI W w.heap.size (.slice f x.2.length c) x.2 ∧ ∀ bb, (Value.slice f x.2.length c).ownBlock = some bb → wo.heap.size ≤ bb
        | _ => True)
      (fun i vals W => Below w.heap.size w W ∧ ∃ f m c, vals i = .slice f m c ∧ vals 15 = .slice f m c ∧ OwnN W w.heap.size (.slice f m c) (Lk ++ [x])) 15 (by kernel_rfl) (by kernel_rfl) (fun i hi => by cases hi)
      (fun j hj => by simp only [List.getD_eq_getElem?_getD]; rcases Nat.lt_or_ge j 17 with h | h; (obtain rfl | rfl : j = 15 ∨ j = 16 := by omega); rfl; rfl; rw [List.getElem?_eq_none (by simp; omega)]; rfl) (by decide) (fun i v W W' h Bl => by
        split at h
        · obtain ⟨q, h1, h2, h3⟩ := h; exact ⟨q, h1, (Bl.block _ (Array.getElem?_eq_some_iff.1 h2).1).trans h2, h3⟩
        · obtain ⟨f, c, h1, h2, h3⟩ := h; exact ⟨f, c, h1, own_below h2 Bl, h3⟩
        · obtain ⟨f, c, h1, h2, h3⟩ := h; exact ⟨f, c, h1, own_below h2 Bl, h3⟩
        · obtain ⟨q, f, c, h1, h2, h3, h4⟩ := h; exact ⟨q, f, c, h1, (Bl.block _ (Array.getElem?_eq_some_iff.1 h2).1).trans h2, own_below h3 Bl, h4⟩
        · exact trivial) ((Below.refl _ wo).drew) (fun vals hO => ?_)
    refine Rel.c_pure rfl (.slice o1 k o2) rfl (by decide) (hO 0 _ rfl) (by rfl) (fun w hC hd => ?_) ?_
    · clear hd hO; go_simp
    try simp only [Act.put, zT, z0, zS]
    refine Rel.c_pure rfl (.slice (some ⟨bv, ov, none⟩) N lc) rfl (by decide) (hO 1 _ rfl) (by rfl) (fun w hC hd => ?_) ?_
    · clear hd hO; go_simp
    try simp only [Act.put, zT, z0, zS]
    refine Rel.c_pure rfl (.int .i64 k) rfl (by decide) (hO 2 _ rfl) (by rfl) (fun w hC hd => ?_) ?_
    · clear hd hO; go_simp
    try simp only [Act.put, zT, z0, zS]
    refine Rel.c_pure rfl (.pointer (some ⟨bv, ov + k * 2, none⟩)) rfl (by decide) (hO 3 _ rfl) (by rfl) (fun w hC hd => ?_) ?_
    · clear hd hO; go_simp
    try simp only [Act.put, zT, z0, zS]
    refine Rel.c_pure rfl (.pointer (some ⟨bv, ov + k * 2, none⟩)) rfl (by decide) (hO 4 _ rfl) (by rfl) (fun w hC hd => ?_) ?_
    · clear hd hO; go_simp
    try simp only [Act.put, zT, z0, zS]
    refine Rel.c_pure rfl (.int .i64 x.1) rfl (by decide) (hO 5 _ rfl) (by rfl) (fun w hC hd => ?_) ?_
    · obtain ⟨y0, y1, _⟩ := hcW.out w hC; clear hd hO; go_simp
    try simp only [Act.put, zT, z0, zS]
    refine Rel.c_rel rfl rfl (by decide) (by rfl) (fun w hC hd => ?_) ?_
    · refine post_value (.slice (some ⟨w.heap.size, 0, none⟩) 0 0) (w.alloc (.cells #[] 3)) ?_ ⟨(Below.refl _ w).alloc (Nat.le_refl _) _, _, rfl, heap_alloc_new w _, hC.size⟩
      clear hd hO; go_simp
    try simp only [Act.put, zT, z0, zS]
    refine Rel.c_pure rfl (.slice (some ⟨bv, ov, none⟩) N lc) rfl (by decide) (hO 7 _ rfl) (by rfl) (fun w hC hd => ?_) ?_
    · clear hd hO; go_simp
    try simp only [Act.put, zT, z0, zS]
    refine Rel.c_pure rfl (.int .i64 k) rfl (by decide) (hO 8 _ rfl) (by rfl) (fun w hC hd => ?_) ?_
    · clear hd hO; go_simp
    try simp only [Act.put, zT, z0, zS]
    refine Rel.c_pure rfl (.pointer (some ⟨bv, ov + k * 2, none⟩)) rfl (by decide) (hO 9 _ rfl) (by rfl) (fun w hC hd => ?_) ?_
    · clear hd hO; go_simp
    try simp only [Act.put, zT, z0, zS]
    refine Rel.c_pure rfl (.pointer (some ⟨bv, ov + k * 2 + 1, none⟩)) rfl (by decide) (hO 10 _ rfl) (by rfl) (fun w hC hd => ?_) ?_
    · clear hd hO; go_simp
    try simp only [Act.put, zT, z0, zS]
    refine Rel.c_pure rfl (.slice la1 x.2.length la2) rfl (by decide) (hO 11 _ rfl) (by rfl) (fun w hC hd => ?_) ?_
    · obtain ⟨y0, y1, _⟩ := hcW.out w hC; clear hd hO; go_simp
    try simp only [Act.put, zT, z0, zS]
    refine Rel.c_rel rfl rfl (by decide) (by rfl) (fun wz hC hd => ?_) ?_
    · obtain ⟨q, h0, h1, h2⟩ : ∃ q, vals 6 = .slice (some ⟨q, 0, none⟩) 0 0 ∧ wz.heap[q]? = some (.cells #[] 3 (0, 0)) ∧ wo.heap.size ≤ q := hd 6 (by decide)
      obtain ⟨f, c, w', k1, k2, k3, k4⟩ := appL wz q w.heap.size _ x.2 h1 (Nat.le_trans hbase.out h2) (hcW.out wz hC).2.2 (Nat.le_trans hxk.out (by omega)) (Nat.le_trans hbase.out hC.size)
      exact post_append (.tmp 23) (.tmp 28) 26 rfl (.slice (some ⟨q, 0, none⟩) 0 0) (.slice la1 x.2.length la2) h0 rfl _ w' k1 ⟨k3, f, c, rfl, k2, fun bb hbb => by
        rcases k4 bb hbb with rfl | h
        · exact h2
        · exact Nat.le_trans hC.size h⟩
    try simp only [Act.put, zT, z0, zS]
    refine Rel.c_rel rfl rfl (by decide) (by rfl) (fun wz hC hd => ?_) ?_
    · obtain ⟨f, c, h1, h2, h3⟩ : ∃ f c, vals 12 = .slice f x.2.length c ∧ OwnI wz w.heap.size (vals 12) x.2 ∧ ∀ bb, (vals 12).ownBlock = some bb → wo.heap.size ≤ bb := hd 12 (by decide)
      rw [h1] at h2 h3
      refine post_value (.agg #[.int .i64 x.1, .slice f x.2.length c]) wz ?_ ⟨Below.refl _ _, _, _, rfl, h2, h3⟩
      rw [h1]
      clear hd hO h1 h2 h3; go_simp
    try simp only [Act.put, zT, z0, zS]
    refine Rel.c_rel rfl rfl (by decide) (by rfl) (fun wz hC hd => ?_) ?_
    · obtain ⟨f, c, h1, h2, h3⟩ : ∃ f c, vals 13 = .agg #[.int .i64 x.1, .slice f x.2.length c] ∧ OwnI wz w.heap.size (.slice f x.2.length c) x.2 ∧ ∀ bb, (Value.slice f x.2.length c).ownBlock = some bb → wo.heap.size ≤ bb := hd 13 (by decide)
      refine post_value (.slice (some ⟨wz.heap.size, 0, none⟩) 1 1) (wz.alloc (.cells #[.int .i64 x.1, .slice f x.2.length c] 54)) ?_ ⟨(Below.refl _ wz).alloc (Nat.le_refl _) _, _, _, _, rfl, heap_alloc_new wz _, own_below h2 ((Below.refl _ wz).alloc (Nat.le_refl _) _), h3⟩
      rw [h1]
      clear hd hO h1 h2 h3; go_simp
    try simp only [Act.put, zT, z0, zS]
    refine Rel.c_tail0 rfl rfl (by rfl) (fun wz hC hd => ?_) ?_
    · obtain ⟨q, f, c, h1, h2, h3, h4⟩ : ∃ q f c, vals 14 = .slice (some ⟨q, 0, none⟩) 1 1 ∧ wz.heap[q]? = some (.cells #[.int .i64 x.1, .slice f x.2.length c] 54 (0, 0)) ∧ OwnI wz w.heap.size (.slice f x.2.length c) x.2 ∧ ∀ bb, (Value.slice f x.2.length c).ownBlock = some bb → wo.heap.size ≤ bb := hd 14 (by decide)
      have hs := hsW.out wz hC
      obtain ⟨v', w', k1, k2, k3⟩ := snocNG wz w.heap.size q _ Lk x f c vs h2 hs h3 (fun b hb j u hu e => by
        have := hlt2.out j u hu b e
        have := h4 b hb
        omega) (by rw [hkk.out]; exact hlN.out) (Nat.le_trans hbase.out hC.size)
      obtain ⟨f2, c2, rfl⟩ := k2.NL.shape
      exact post_append (.tmp 17) (.tmp 31) 46 rfl (.slice o1 k o2) (.slice (some ⟨q, 0, none⟩) 1 1) rfl h1 _ w' k1 ⟨(hB2.out.trans (hC.mono hB2.out.size)).grown k3 (Nat.le_trans hbase.out hC.size) (fun y hy => (own_row hs.row y hy).1), f2, _, c2, by simp [Rel.upd], by simp [Rel.upd], k2⟩
    try simp only [Act.put, zT, z0, zS]
    refine Rel.c_tail rfl 15 rfl (by decide) (by rfl) (fun w' hF => ?_) ?_
    · obtain ⟨h0, f, m, c, h1, h2, h3⟩ := hF
      refine post_value (.slice f m c) w' ?_ ⟨h0, f, m, c, by simp [Rel.upd], by simpa [Rel.upd] using h1, h3⟩
      rw [h1]
      clear hO h1 h2; go_simp
    try simp only [Act.put, zT, z0, zS]
    refine Rel.c_end ?_
    intro w3 hF
    obtain ⟨hb3, f, m, c, h1, h2, hF⟩ := hF
    have hV3 := Lib.hid hF
    have hB3 := Lib.hid hb3
    have e16 : vals (0 + 1 + 1 + 1 + 1 + 1 + 1 + 1 + 1 + 1 + 1 + 1 + 1 + 1 + 1 + 1 + 1) = .slice f m c := h1
    rw [e16]
    clear hF hO hb3 h1 h2 e16
    go_wp2_with fail
    go_roundg ga
    case measure => omega
    case rel => exact ⟨k + 1, hle.out, by go_num, by rw [hst.out]; exact hV3.out, hB3.out⟩

end Go.Proofs.Ythmkmjkbfjhffaa
