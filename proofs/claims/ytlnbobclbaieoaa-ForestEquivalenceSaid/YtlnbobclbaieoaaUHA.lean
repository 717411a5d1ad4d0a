/- Contracts and facts. -/
import Derived.Deep.LoopGhost
import Derived.Handy
import Derived.WalkMore
import Derived.BigRegion
import Derived.Laws.EntriesVeiled
import Derived.Test.YtlnbobclbaieoaaUGK
set_option linter.unusedSimpArgs false
set_option maxRecDepth 100000
set_option maxHeartbeats 4000000
namespace Go.Proofs.Ytlnbobclbaieoaa
open Go.RowKit
def bstep (L : List Nm) (t : Int × Int × Int) : List Nm :=
  let k := (pk t.1 L.length).toNat
  let q := (L[k]?).getD (0, [])
  let n := (pk t.2.1 ((q.2.length : Int) + 1)).toNat
  if n = q.2.length then
    let m := (pk t.2.2 L.length).toNat
    let p := (L[m]?).getD (0, [])
    if pk t.2.2 5 = 0 ∧ 0 < n then L.set k (q.1, q.2.take (n - 1))
    else (L.set k (q.1, p.2)).set m (p.1, q.2)
  else if pk t.2.2 3 = 0 then L.set k (q.1, q.2.set n (pk t.2.2 12 - 2))
  else L.set k (q.1, q.2.set n (q.2.getD n 0 + pk t.2.2 5 - 2))
def bentF (L : List Nm) (x : List (Int × Int × Int)) : List Nm := (x.take 4).foldl bstep L
def Bd (b : Int) (L : List Nm) : Prop := ∀ x ∈ L, x.2.length ≤ 1000 ∧ ∀ v ∈ x.2, -b ≤ v ∧ v ≤ b
theorem Bd.set {b : Int} {L : List Nm} {x : Nm} (h : Bd b L) (hx : x.2.length ≤ 1000 ∧ ∀ v ∈ x.2, -b ≤ v ∧ v ≤ b) (k : Nat) : Bd b (L.set k x) := fun y hy => by
  rcases List.mem_or_eq_of_mem_set hy with h1 | rfl
  · exact h y h1
  · exact hx
theorem Bd.mono {b c : Int} {L : List Nm} (h : Bd b L) (hc : b ≤ c) : Bd c L := fun x hx => ⟨(h x hx).1, fun v hv => by have := (h x hx).2 v hv; omega⟩
theorem Bd.getD {b : Int} {L : List Nm} (h : Bd b L) (k : Nat) : ((L[k]?).getD (0, [])).2.length ≤ 1000 ∧ ∀ v ∈ ((L[k]?).getD (0, [])).2, -b ≤ v ∧ v ≤ b := by
  cases hk : L[k]? with
  | none => simp
  | some x => exact h x (List.mem_of_getElem? hk)
theorem bstep_len (L : List Nm) (t : Int × Int × Int) : (bstep L t).length = L.length := by
  unfold bstep
  dsimp only
  split
  · split <;> simp
  · split <;> simp
theorem bstep_bd {b : Int} {L : List Nm} (h : Bd b L) (hb : 20 ≤ b) (t : Int × Int × Int) : Bd (b + 10) (bstep L t) := by
  have h0 := h.mono (show b ≤ b + 10 by omega)
  have hq := h.getD (pk t.1 L.length).toNat
  have hq0 := h0.getD (pk t.1 L.length).toNat
  have hm0 := h0.getD (pk t.2.2 L.length).toNat
  have a1 := pk_lo t.2.2 12 (by omega)
  have a2 := pk_lt t.2.2 12 (by omega)
  have a3 := pk_lo t.2.2 5 (by omega)
  have a4 := pk_lt t.2.2 5 (by omega)
  unfold bstep
  dsimp only
  generalize (L[(pk t.1 L.length).toNat]?).getD (0, []) = q at *
  generalize (L[(pk t.2.2 L.length).toNat]?).getD (0, []) = p at *
  have hset : ∀ (n : Nat) (a : Int), -(b + 10) ≤ a → a ≤ b + 10 → (q.2.set n a).length ≤ 1000 ∧ ∀ v ∈ q.2.set n a, -(b + 10) ≤ v ∧ v ≤ b + 10 := fun n a x1 x2 => ⟨by rw [List.length_set]; exact hq.1, fun v hv => by
    rcases List.mem_or_eq_of_mem_set hv with h1 | rfl
    · exact hq0.2 v h1
    · exact ⟨x1, x2⟩⟩
  split
  · split
    · exact h0.set ⟨by simp; omega, fun v hv => hq0.2 v (List.mem_of_mem_take hv)⟩ _
    · exact (h0.set (x := (q.1, p.2)) ⟨hm0.1, hm0.2⟩ _).set (x := (p.1, q.2)) ⟨hq0.1, hq0.2⟩ _
  · split
    · exact h0.set (hset _ _ (by omega) (by omega)) _
    · refine h0.set (hset _ _ ?_ ?_) _
      · rw [List.getD_eq_getElem?_getD]
        cases hg : q.2[(pk t.2.1 ((q.2.length : Int) + 1)).toNat]? with
        | none => simp; omega
        | some z => have := hq.2 z (List.mem_of_getElem? hg); simp; omega
      · rw [List.getD_eq_getElem?_getD]
        cases hg : q.2[(pk t.2.1 ((q.2.length : Int) + 1)).toNat]? with
        | none => simp; omega
        | some z => have := hq.2 z (List.mem_of_getElem? hg); simp; omega
theorem cN_ids : ∀ (L L' : List Nm) (vs : List Value), L.map (·.1) = L'.map (·.1) → cN L vs = cN L' vs := by
  intro L
  induction L with
  | nil => intro L' vs h; cases L' with
    | nil => rfl
    | cons _ _ => simp at h
  | cons x L ih => intro L' vs h; cases L' with
    | nil => simp at h
    | cons y L' =>
      simp at h
      cases vs with
      | nil => rfl
      | cons u vs => simp only [cN]; rw [h.1, ih L' vs (by simpa using h.2)]
theorem cN_set : ∀ (L : List Nm) (vs : List Value) (k : Nat) (u : Value), (cN L vs).set (k * 2 + 1) u = cN L (vs.set k u) := by
  intro L
  induction L with
  | nil => intro vs k u; cases vs <;> simp [cN]
  | cons x L ih => intro vs k u; cases vs with
    | nil => simp [cN]
    | cons z vs => cases k with
      | zero => simp [cN]
      | succ k =>
        rw [show (k + 1) * 2 + 1 = k * 2 + 1 + 1 + 1 by omega]
        simp only [cN, List.set_cons_succ, ih]
theorem ids_set {L : List Nm} {k : Nat} {x : Nm} {l : List Int} (h : L[k]? = some x) : (L.set k (x.1, l)).map (·.1) = L.map (·.1) := by
  rw [List.map_set]
  apply List.ext_getElem?
  intro j
  rw [List.getElem?_set]
  by_cases e : k = j
  · subst e
    have h1 := (List.getElem?_eq_some_iff.1 h).1
    have h2 := (List.getElem?_eq_some_iff.1 h).2
    simp [h1, h2]
  · simp [e]
/-- the block of a row of labels that are told, and its labels' blocks -/
theorem OwnN'.block {W : World} {base R N cap : Nat} {L : List Nm} {vs : List Value} (h : OwnN' W base (.slice (some ⟨R, 0, none⟩) N cap) L vs) : ∃ cur, W.heap[R]? = some (.cells cur 54 (0, 0)) ∧ N = L.length ∧ cur.toList.take (L.length * 2) = cN L vs ∧ base ≤ R ∧ L.length ≤ cap ∧ cap ≤ maxLen ∧ cur.size = cap * 2 := by
  rcases h.row.2 with ⟨h0, _⟩ | ⟨g, cap', cur, he, h1, h2, h3, h4, h5, h6⟩
  · cases h0
  · injection he with e1 e2 e3
    injection e1 with e1
    injection e1 with e1
    subst e1 e3
    exact ⟨cur, h2, e2, h6, h1, h3, h4, h5⟩
theorem OwnN'.setLab {W : World} {base R N cap g m c : Nat} {L : List Nm} {vs : List Value} (h : OwnN' W base (.slice (some ⟨R, 0, none⟩) N cap) L vs) {k : Nat} {x : Nm} (hx : L[k]? = some x) (hv : vs[k]? = some (.slice (some ⟨g, 0, none⟩) m c)) (i : Nat) (a : Int) :
    OwnN' (W.setCell ⟨g, i, none⟩ (.int .i64 a)) base (.slice (some ⟨R, 0, none⟩) N cap) (L.set k (x.1, x.2.set i a)) vs := by
  have hk := h.lab k x _ hx hv
  have hm : x.2.length = m := by
    rcases hk.2 with ⟨h0, _⟩ | ⟨g', cap', cur, he, _⟩
    · cases h0
    · injection he with _ e2; exact e2.symm
  obtain ⟨_, cur, hg⟩ := own_row hk g rfl
  have gr : W.grownBy (W.setCell ⟨g, i, none⟩ (.int .i64 a)) (some g) := ⟨rfl, rfl, rfl, by simp, fun j _ hne => by
    rw [heap_setCell_other _ _ _ _ (by intro e; exact hne (congrArg some e))]⟩
  refine ⟨by rw [List.length_set]; exact h.len, ?_, fun j y u h1 h2 => ?_, h.ap⟩
  · rw [List.length_set, cN_ids _ L vs (ids_set hx)]
    exact own_apartG h.row gr (fun b hb e => by
      obtain ⟨_, cur2, k2⟩ := own_row h.row b hb
      cases e
      exact absurd (two_types hg k2) (by decide))
  · by_cases e : k = j
    · subst e
      rw [hv] at h2; cases h2
      rw [List.getElem?_set, if_pos rfl, if_pos (List.getElem?_eq_some_iff.1 hx).1] at h1
      cases h1
      exact OwnI.set hk hm i a
    · rw [List.getElem?_set, if_neg e] at h1
      exact own_apart (h.lab j y u h1 h2) gr (fun b hb e2 => by
        cases e2
        exact h.ap k j _ u hv h2 e g rfl hb)
theorem OwnN'.setRow1 {W : World} {base R N cap : Nat} {L : List Nm} {vs : List Value} (h : OwnN' W base (.slice (some ⟨R, 0, none⟩) N cap) L vs) (k : Nat) (u : Value) :
    (W.setCell ⟨R, k * 2 + 1, none⟩ u).ownsRow base 54 2 (.slice (some ⟨R, 0, none⟩) N cap) L.length (cN L (vs.set k u)) ∧ (∀ (v : Value) (l : List Int), OwnI W base v l → OwnI (W.setCell ⟨R, k * 2 + 1, none⟩ u) base v l) := by
  obtain ⟨cur, h1, h2, h3, h4, h5, h6, h7⟩ := h.block
  have gr : W.grownBy (W.setCell ⟨R, k * 2 + 1, none⟩ u) (some R) := ⟨rfl, rfl, rfl, by simp, fun j _ hne => by
    rw [heap_setCell_other _ _ _ _ (by intro e; exact hne (congrArg some e))]⟩
  refine ⟨⟨?_, .inr ⟨R, cap, _, by rw [h2], h4, heap_setCell_same W R (k * 2 + 1) cur 54 _ h1, h5, h6, by simpa using h7, ?_⟩⟩, fun v l ho => own_apart ho gr (fun b hb e => ?_)⟩
  · rw [← cN_set, List.length_set]; exact h.row.1
  · rw [Array.toList_setIfInBounds, List.take_set, h3, cN_set]
  · obtain ⟨_, cur2, k2⟩ := own_row ho b hb
    cases e
    exact absurd (two_types h1 k2) (by decide)
theorem OwnN'.cut {W : World} {base R N cap n c m : Nat} {f : Option Addr} {L : List Nm} {vs : List Value} (h : OwnN' W base (.slice (some ⟨R, 0, none⟩) N cap) L vs) {k : Nat} {x : Nm} (hx : L[k]? = some x) (hv : vs[k]? = some (.slice f n c)) (hn : n = x.2.length) (hm : m ≤ n) :
    OwnN' (W.setCell ⟨R, k * 2 + 1, none⟩ (.slice f m c)) base (.slice (some ⟨R, 0, none⟩) N cap) (L.set k (x.1, x.2.take m)) (vs.set k (.slice f m c)) := by
  obtain ⟨h1, h2⟩ := h.setRow1 k (.slice f m c)
  refine ⟨by rw [List.length_set, List.length_set]; exact h.len, ?_, fun j y u a b => ?_, fun i j u u' a b hij bb hb => ?_⟩
  · rw [List.length_set, cN_ids _ L _ (ids_set hx)]; exact h1
  · by_cases e : k = j
    · subst e
      rw [List.getElem?_set, if_pos rfl, if_pos (List.getElem?_eq_some_iff.1 hx).1] at a
      rw [List.getElem?_set, if_pos rfl, if_pos (List.getElem?_eq_some_iff.1 hv).1] at b
      cases a; cases b
      exact h2 _ _ (OwnI.cut (h.lab k x _ hx hv) hn hm)
    · rw [List.getElem?_set, if_neg e] at a b
      exact h2 _ _ (h.lab j y u a b)
  · have key : ∀ (j : Nat) (u : Value), (vs.set k (.slice f m c))[j]? = some u → ∃ u0, vs[j]? = some u0 ∧ u0.ownBlock = u.ownBlock := fun j u hu => by
      by_cases e : k = j
      · subst e
        rw [List.getElem?_set, if_pos rfl, if_pos (List.getElem?_eq_some_iff.1 hv).1] at hu
        cases hu
        exact ⟨_, hv, ownB_len _ _ _ _ _⟩
      · rw [List.getElem?_set, if_neg e] at hu
        exact ⟨u, hu, rfl⟩
    obtain ⟨a0, a1, a2⟩ := key i u a
    obtain ⟨b0, b1, b2⟩ := key j u' b
    rw [← b2]
    exact h.ap i j a0 b0 a1 b1 hij bb (by rw [a2]; exact hb)
theorem OwnN'.swap {W : World} {base R N cap : Nat} {L : List Nm} {vs : List Value} (h : OwnN' W base (.slice (some ⟨R, 0, none⟩) N cap) L vs) {k m : Nat} {x y : Nm} {u u' : Value} (hx : L[k]? = some x) (hv : vs[k]? = some u) (hy : L[m]? = some y) (hw : vs[m]? = some u') :
    OwnN' ((W.setCell ⟨R, k * 2 + 1, none⟩ u').setCell ⟨R, m * 2 + 1, none⟩ u) base (.slice (some ⟨R, 0, none⟩) N cap) ((L.set k (x.1, y.2)).set m (y.1, x.2)) ((vs.set k u').set m u) := by
  obtain ⟨cur, h1, h2, h3, h4, h5, h6, h7⟩ := h.block
  have gr : W.grownBy ((W.setCell ⟨R, k * 2 + 1, none⟩ u').setCell ⟨R, m * 2 + 1, none⟩ u) (some R) := ⟨rfl, rfl, rfl, by simp, fun j _ hne => by
    rw [heap_setCell_other _ _ _ _ (by intro e; exact hne (congrArg some e)), heap_setCell_other _ _ _ _ (by intro e; exact hne (congrArg some e))]⟩
  have keep : ∀ (v : Value) (l : List Int), OwnI W base v l → OwnI ((W.setCell ⟨R, k * 2 + 1, none⟩ u').setCell ⟨R, m * 2 + 1, none⟩ u) base v l := fun v l ho => own_apart ho gr (fun b hb e => by
    obtain ⟨_, cur2, k2⟩ := own_row ho b hb
    cases e
    exact absurd (two_types h1 k2) (by decide))
  have hk := (List.getElem?_eq_some_iff.1 hx).1
  have hm := (List.getElem?_eq_some_iff.1 hy).1
  have hkv := (List.getElem?_eq_some_iff.1 hv).1
  have hmv := (List.getElem?_eq_some_iff.1 hw).1
  have hy2 : ((L.set k (x.1, y.2)).map (·.1)) = L.map (·.1) := ids_set hx
  have hids : ((L.set k (x.1, y.2)).set m (y.1, x.2)).map (·.1) = L.map (·.1) := by
    rw [List.map_set, hy2]
    apply List.ext_getElem?
    intro j
    rw [List.getElem?_set]
    by_cases e : m = j
    · subst e; have h2 := (List.getElem?_eq_some_iff.1 hy).2; simp [hm, h2]
    · simp [e]
  refine ⟨by simp [h.len], ⟨?_, .inr ⟨R, cap, _, by simp [h2], h4, heap_setCell_same _ R (m * 2 + 1) _ 54 _ (heap_setCell_same W R (k * 2 + 1) cur 54 _ h1), by simp; exact h5, h6, by simpa using h7, ?_⟩⟩, fun j z w a b => ?_, fun i j w w' a b hij bb hb => ?_⟩
  · rw [cN_ids _ L _ hids, ← cN_set, ← cN_set]; simp; exact h.row.1
  · rw [cN_ids _ L _ hids, ← cN_set, ← cN_set]
    simp only [List.length_set]
    rw [Array.toList_setIfInBounds, Array.toList_setIfInBounds, List.take_set, List.take_set, h3]
  · rw [List.getElem?_set, List.length_set] at a b
    by_cases e : m = j
    · subst e
      rw [if_pos rfl, if_pos hm] at a
      rw [if_pos rfl, if_pos hmv] at b
      cases a; cases b
      exact keep _ _ (h.lab k x _ hx hv)
    · rw [if_neg e, List.getElem?_set] at a b
      by_cases e2 : k = j
      · subst e2
        rw [if_pos rfl, if_pos hk] at a
        rw [if_pos rfl, if_pos hkv] at b
        cases a; cases b
        exact keep _ _ (h.lab m y _ hy hw)
      · rw [if_neg e2] at a b
        exact keep _ _ (h.lab j z w a b)
  · have key : ∀ (j : Nat) (w : Value), ((vs.set k u').set m u)[j]? = some w → vs[if j = m then k else if j = k then m else j]? = some w := fun j w hw2 => by
      rw [List.getElem?_set, List.length_set] at hw2
      by_cases e : m = j
      · subst e
        rw [if_pos rfl, if_pos hmv] at hw2
        rw [if_pos rfl]; cases hw2; exact hv
      · rw [if_neg e, List.getElem?_set] at hw2
        rw [if_neg (fun h => e h.symm)]
        by_cases e2 : k = j
        · subst e2
          rw [if_pos rfl, if_pos hkv] at hw2
          rw [if_pos rfl]; cases hw2; exact hw
        · rw [if_neg e2] at hw2
          rw [if_neg (fun h => e2 h.symm)]; exact hw2
    exact h.ap _ _ _ _ (key i w a) (key j w' b) (by split <;> split <;> (try split) <;> (try split) <;> omega) bb hb

end Go.Proofs.Ytlnbobclbaieoaa
