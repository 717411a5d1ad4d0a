/- Contracts and facts. -/
import Derived.Deep.LoopGhost
import Derived.Handy
import Derived.WalkMore
import Derived.BigRegion
import Derived.Laws.EntriesVeiled
import Derived.Test.YthmkmjkbfjhffaaVHA
import Derived.Test.YthmkmjkbfjhffaaVGE
import Derived.Test.YthmkmjkbfjhffaaVGA
import Derived.Test.YthmkmjkbfjhffaaVGC
import Derived.Test.YthmkmjkbfjhffaaVFW
import Derived.Test.YthmkmjkbfjhffaaVFS
import Derived.Test.YthmkmjkbfjhffaaVGI
set_option linter.unusedSimpArgs false
set_option maxRecDepth 100000
set_option maxHeartbeats 4000000
namespace Go.Proofs.Ythmkmjkbfjhffaa
open Go.RowKit
def wantL : List Nm := [(0, [0, 0, -1]), (1, [1, 0, -1]), (2, [1, 1, 0]), (3, [1, 1, 4]), (5, [5, 0, -1])]
theorem ex_labels : labelsC exG = (wantL, 0) := by decide +kernel
theorem ex_conn : connF exG 2 3 = (true, 0) := by decide +kernel
theorem ex_not : connF exG 0 5 = (false, 0) := by decide +kernel
theorem ex_path : pathC exG 2 3 = ([0, 4], 0) := by decide +kernel
theorem ex_none : pathC exG 3 3 = ([], 0) := by decide +kernel
theorem ex_side : sideC exG 3 = ([1, 2, 3], 0) := by decide +kernel
theorem ex_bad : pathC exG 0 5 = ([], 70) := by decide +kernel
theorem ex_lab : labelsC ⟨[], [], [1]⟩ = ([], 70) := by decide +kernel
theorem ex_ck1 : ckPathC exG 2 3 [6] = true := by decide +kernel
theorem ex_ck2 : ckPathC exG 2 3 [0] = false := by decide +kernel
theorem ex_ck3 : ckSideC exG 0 5 [0, 1] = false := by decide +kernel
theorem ex_ck4 : ckSideC exG 0 5 [0] = true := by decide +kernel
theorem ex_at : (vxAt exG 3).id = 3 ∧ (vxAt exG 1).id = 1 := by decide +kernel
theorem ex_good : goodF 3 (atF exG.es 3) (readF (wantL.filter (keepV 3 (atF exG.es 3)))) = true := by decide +kernel
theorem ex_bent : goodF 3 (atF exG.es 3) (readF ((bentF wantL [(3, 1, 1)]).filter (keepV 3 (atF exG.es 3)))) = false := by decide +kernel
theorem ex_c0 : countF 3 (readF (wantL.filter (keepV 3 (atF exG.es 3)))) = 0 := by decide +kernel
theorem ex_c1 : countF 1 (readF (wantL.filter (keepV 1 (atF exG.es 1)))) = 1 := by decide +kernel
theorem ex_small : exG.small := by unfold Gr.small exG; simp
theorem lab_ex (v : Value) (W : World) (h : GV W v exG) : Calls Try.prog 17 #[v] W fun e w' => ∃ r, e = .returned (.tuple #[r, .int .i64 0]) ∧ OwnN w' W.heap.size r wantL ∧ Below W.heap.size W w' := by
  have := Labels_any v exG W h ex_small; rw [ex_labels] at this; exact this
theorem conn_ex (v : Value) (W : World) (h : GV W v exG) : Calls Try.prog 10 #[v, .int .i64 2, .int .i64 3] W fun e w' => e = .returned (.tuple #[.bool true, .int .i64 0]) ∧ Below W.heap.size W w' := by
  have := Connected_any v exG 2 3 W h ex_small; rw [ex_conn] at this; exact this
theorem not_ex (v : Value) (W : World) (h : GV W v exG) : Calls Try.prog 10 #[v, .int .i64 0, .int .i64 5] W fun e w' => e = .returned (.tuple #[.bool false, .int .i64 0]) ∧ Below W.heap.size W w' := by
  have := Connected_any v exG 0 5 W h ex_small; rw [ex_not] at this; exact this
theorem path_ex (v : Value) (W : World) (h : GV W v exG) : Calls Try.prog 11 #[v, .int .i64 2, .int .i64 3] W fun e w' => ∃ f c, e = .returned (.tuple #[.slice f 2 c, .int .i64 0]) ∧ DL w' (.slice f 2 c) [0, 4] ∧ Below W.heap.size W w' := by
  have := Path_any v exG 2 3 W h ex_small; rw [ex_path] at this
  refine this.mono ?_
  rintro e w' ⟨r, rfl, h1, h2⟩
  obtain ⟨f, c, rfl, _, _⟩ := OwnI.form h1
  exact ⟨f, c, rfl, OwnI.DL h1, h2⟩
theorem none_ex (v : Value) (W : World) (h : GV W v exG) : Calls Try.prog 11 #[v, .int .i64 3, .int .i64 3] W fun e w' => ∃ f c, e = .returned (.tuple #[.slice f 0 c, .int .i64 0]) ∧ Below W.heap.size W w' := by
  have := Path_any v exG 3 3 W h ex_small; rw [ex_none] at this
  refine this.mono ?_
  rintro e w' ⟨r, rfl, h1, h2⟩
  obtain ⟨f, c, rfl, _, _⟩ := OwnI.form h1
  exact ⟨f, c, rfl, h2⟩
theorem side_ex (v : Value) (W : World) (h : GV W v exG) : Calls Try.prog 14 #[v, .int .i64 3] W fun e w' => ∃ f c, e = .returned (.tuple #[.slice f 3 c, .int .i64 0]) ∧ DL w' (.slice f 3 c) [1, 2, 3] ∧ Below W.heap.size W w' := by
  have := Side_any v exG 3 W h ex_small; rw [ex_side] at this
  refine this.mono ?_
  rintro e w' ⟨r, rfl, h1, h2⟩
  obtain ⟨f, c, rfl, _, _⟩ := OwnI.form h1
  exact ⟨f, c, rfl, OwnI.DL h1, h2⟩
theorem bad_ex (v : Value) (W : World) (h : GV W v exG) : Calls Try.prog 11 #[v, .int .i64 0, .int .i64 5] W fun e w' => ∃ f c, e = .returned (.tuple #[.slice f 0 c, .int .i64 70]) ∧ Below W.heap.size W w' := by
  have := Path_any v exG 0 5 W h ex_small; rw [ex_bad] at this
  refine this.mono ?_
  rintro e w' ⟨r, rfl, h1, h2⟩
  obtain ⟨f, c, rfl, _, _⟩ := OwnI.form h1
  exact ⟨f, c, rfl, h2⟩
theorem lab0_ex (W : World) (b : Nat) (h : W.heap[b]? = some (.cells #[.int .i64 1] 3 (0, 0))) : Calls Try.prog 17 #[.agg #[.slice none 0 0, .slice none 0 0, .slice (some ⟨b, 0, none⟩) 1 1]] W fun e w' => ∃ r, e = .returned (.tuple #[r, .int .i64 70]) ∧ Below W.heap.size W w' := by
  have hd : DL W (.slice (some ⟨b, 0, none⟩) 1 1) [1] := .inr ⟨by simp, b, 0, 1, rfl, by simp, (Array.getElem?_eq_some_iff.1 h).1, fun j x hj => by
    rcases j with _ | j
    · simp at hj; subst hj; rw [cell_of_row _ _ _ _ _ _ h]; rfl
    · simp at hj⟩
  have := Labels_any (.agg #[.slice none 0 0, .slice none 0 0, .slice (some ⟨b, 0, none⟩) 1 1]) ⟨[], [], [1]⟩ W ⟨_, _, _, rfl, .inl ⟨rfl, _, _, rfl⟩, .inl ⟨rfl, _, _, rfl⟩, hd⟩ (by unfold Gr.small; simp); rw [ex_lab] at this
  refine this.mono ?_
  rintro e w' ⟨r, rfl, h1, h2⟩
  exact ⟨r, rfl, h2⟩
theorem ckp_ex (v vl : Value) (W : World) (l : List Int) (B : Bool) (h : GV W v exG) (hl : DL W vl l) (hm : l.length ≤ 1000) (hB : ckPathC exG 2 3 l = B) : Calls Try.prog 15 #[v, .int .i64 2, .int .i64 3, vl] W fun e w' => e = .returned (.bool B) ∧ Below W.heap.size W w' := by
  have := CheckPath_any v exG 2 3 vl l W h ex_small hl (by omega) (by unfold exG; simp); rw [hB] at this; exact this
theorem cks_ex (v vl : Value) (W : World) (l : List Int) (B : Bool) (h : GV W v exG) (hl : DL W vl l) (hm : l.length ≤ 1000) (hB : ckSideC exG 0 5 l = B) : Calls Try.prog 16 #[v, .int .i64 0, .int .i64 5, vl] W fun e w' => e = .returned (.bool B) ∧ Below W.heap.size W w' := by
  have := CheckSide_any v exG 0 5 vl l W h ex_small hl (by omega) (by unfold exG; simp); rw [hB] at this; exact this
theorem made1 {W : World} {b : Nat} {a : Int} (h : W.heap[b]? = some (.cells #[.int .i64 a] 3 (0, 0))) : DL W (.slice (some ⟨b, 0, none⟩) 1 1) [a] := .inr ⟨by simp, b, 0, 1, rfl, by simp, (Array.getElem?_eq_some_iff.1 h).1, fun j x hj => by
    rcases j with _ | j
    · simp at hj; subst hj; rw [cell_of_row _ _ _ _ _ _ h]; rfl
    · simp at hj⟩
theorem made2 {W : World} {b : Nat} {a c : Int} (h : W.heap[b]? = some (.cells #[.int .i64 a, .int .i64 c] 3 (0, 0))) : DL W (.slice (some ⟨b, 0, none⟩) 2 2) [a, c] := .inr ⟨by simp, b, 0, 2, rfl, by simp, (Array.getElem?_eq_some_iff.1 h).1, fun j x hj => by
    rcases j with _ | _ | j
    · simp at hj; subst hj; rw [cell_of_row _ _ _ _ _ _ h]; rfl
    · simp at hj; subst hj; rw [cell_of_row _ _ _ _ _ _ h]; rfl
    · simp at hj⟩
theorem made3 {W : World} {b : Nat} {a c d : Int} (h : W.heap[b]? = some (.cells #[.int .i64 a, .int .i64 c, .int .i64 d] 3 (0, 0))) : DL W (.slice (some ⟨b, 0, none⟩) 3 3) [a, c, d] := .inr ⟨by simp, b, 0, 3, rfl, by simp, (Array.getElem?_eq_some_iff.1 h).1, fun j x hj => by
    rcases j with _ | _ | _ | j
    · simp at hj; subst hj; rw [cell_of_row _ _ _ _ _ _ h]; rfl
    · simp at hj; subst hj; rw [cell_of_row _ _ _ _ _ _ h]; rfl
    · simp at hj; subst hj; rw [cell_of_row _ _ _ _ _ _ h]; rfl
    · simp at hj⟩

end Go.Proofs.Ythmkmjkbfjhffaa
/- Contracts and facts. -/
set_option linter.unusedSimpArgs false
set_option maxRecDepth 100000
set_option maxHeartbeats 4000000
namespace Go.Proofs.Ythmkmjkbfjhffaa
open Go.RowKit
theorem view_ex (v lv : Value) (W : World) (L : List Nm) (n m : Int) (h : GV W v exG) (hl : NL W lv L) (hLn : L.length ≤ 1000) (hLx : ∀ x ∈ L, x.2.length ≤ 1000) (hm : (vxAt exG n).id = m) :
    Calls Try.prog 19 #[v, lv, .int .i64 n] W fun e w' => ∃ sd d1 d2 d3 e1 e2 e3 l1 l2 l3, e = .returned (.agg #[.int .i64 m, .int .i64 sd, .slice d1 d2 d3, .slice e1 e2 e3, .slice l1 l2 l3]) ∧ OwnEd w' W.heap.size (.slice e1 e2 e3) (atF exG.es n) ∧ OwnN w' W.heap.size (.slice l1 l2 l3) (L.filter (keepV n (atF exG.es n))) ∧ Below W.heap.size W w' := by
  refine (View_any v lv exG L n W h hl ex_small (by unfold exG; simp) (by unfold exG; simp) (by omega) (fun x hx => by have := hLx x hx; omega)).mono ?_
  rintro e w' ⟨dv, ev, lb, rfl, h1, h2, h3, h4⟩
  obtain ⟨d1, d3, rfl⟩ := h1.DL.shape
  obtain ⟨e1, e3, rfl⟩ := h2.EL.shape
  obtain ⟨l1, l3, rfl⟩ := h3.NL.shape
  rw [hm]
  exact ⟨_, _, _, _, _, _, _, _, _, _, rfl, h2, h3, h4⟩
theorem good_ex (n sd : Int) (dv ev lv : Value) (es : List Ed) (L : List Nm) (W : World) (B : Bool) (he : EL W ev es) (hL : NL W lv L) (hn : es.length ≤ 1000) (hLn : L.length ≤ 1000) (hd : (gp (readF L) n).depth ≤ 1000) (hB : goodF n es (readF L) = B) :
    Calls Try.prog 26 #[.agg #[.int .i64 n, .int .i64 sd, dv, ev, lv]] W fun e w' => e = .returned (.bool B) ∧ Below W.heap.size W w' := by
  have := Good_any read_any n sd dv ev lv es L W he hL (by omega) (by omega) (by omega); rw [hB] at this; exact this
theorem count_ex (n sd : Int) (dv ev lv : Value) (L : List Nm) (W : World) (B : Int) (hL : NL W lv L) (hLn : L.length ≤ 1000) (hB : countF n (readF L) = B) :
    Calls Try.prog 18 #[.agg #[.int .i64 n, .int .i64 sd, dv, ev, lv]] W fun e w' => e = .returned (.int .i64 B) ∧ Below W.heap.size W w' := by
  have := Count_any n sd dv ev lv L W hL (by omega); rw [hB] at this; exact this
theorem same_ex (va vb : Value) (A : List Nm) (W : World) (ha : NL W va A) (hb : NL W vb A) (hAl : A.length ≤ 1000) (hAx : ∀ x ∈ A, x.2.length ≤ 1000) :
    Calls Try.prog 23 #[va, vb] W fun e w' => e = .returned (.bool true) ∧ Below W.heap.size W w' := by
  have := SameLabels_any va vb A A W ha hb (by omega) (fun x hx => by have := hAx x hx; omega) (fun x hx => by have := hAx x hx; omega); simpa using this
theorem ints_ex (va vb : Value) (A : List Int) (W : World) (ha : DL W va A) (hb : DL W vb A) (hAl : A.length ≤ 1000) :
    Calls Try.prog 25 #[va, vb] W fun e w' => e = .returned (.bool true) ∧ Below W.heap.size W w' := by
  have := Ints_any va vb A A W ha hb (by omega) (by omega); simpa using this
theorem want_len : wantL.length ≤ 1000 ∧ ∀ x ∈ wantL, x.2.length ≤ 1000 := by
  unfold wantL; constructor
  · simp
  · intro x hx; simp at hx; rcases hx with rfl | rfl | rfl | rfl | rfl <;> simp
theorem want_bd : Bd 1000000 wantL := by
  unfold wantL Bd
  intro x hx; simp at hx; rcases hx with rfl | rfl | rfl | rfl | rfl <;> simp <;> omega
theorem bent_len : (bentF wantL [(3, 1, 1)]).length ≤ 1000 ∧ ∀ x ∈ bentF wantL [(3, 1, 1)], x.2.length ≤ 1000 := by decide +kernel
theorem ex_len : (wantL.filter (keepV 3 (atF exG.es 3))).length ≤ 1000 ∧ ((bentF wantL [(3, 1, 1)]).filter (keepV 3 (atF exG.es 3))).length ≤ 1000 ∧ (wantL.filter (keepV 1 (atF exG.es 1))).length ≤ 1000 ∧ (atF exG.es 3).length ≤ 1000 := by decide +kernel
theorem ex_dep : (gp (readF (wantL.filter (keepV 3 (atF exG.es 3)))) 3).depth ≤ 1000 ∧ (gp (readF ((bentF wantL [(3, 1, 1)]).filter (keepV 3 (atF exG.es 3)))) 3).depth ≤ 1000 := by decide +kernel
theorem x311 {W : World} {b : Nat} (h : W.heap[b]? = some (.cells #[.int .i64 3, .int .i64 1, .int .i64 1] 64 (0, 0))) : L3 W (.slice (some ⟨b, 0, none⟩) 1 1) [(3, 1, 1)] := .inr ⟨by simp, b, 0, 1, rfl, by simp, (Array.getElem?_eq_some_iff.1 h).1, fun j x hj => by
    rcases j with _ | j
    · simp at hj; subst hj; exact ⟨by rw [cell_of_row _ _ _ _ _ _ h]; rfl, by rw [cell_of_row _ _ _ _ _ _ h]; rfl, by rw [cell_of_row _ _ _ _ _ _ h]; rfl⟩
    · simp at hj⟩
theorem bent_ex (lv : Value) (b : Nat) (W : World) (hl : NL W lv wantL) (hb : W.heap[b]? = some (.cells #[.int .i64 3, .int .i64 1, .int .i64 1] 64 (0, 0))) : Calls Try.prog 22 #[lv, .slice (some ⟨b, 0, none⟩) 1 1] W fun e w' => ∃ r, e = .returned r ∧ NL w' r (bentF wantL [(3, 1, 1)]) ∧ Below W.heap.size W w' := by
  refine (Bent_any lv _ wantL [(3, 1, 1)] W hl (x311 hb) (by have := want_len.1; omega) (by simp) (fun t ht => by simp at ht; subst ht; unfold i64T; simp) want_bd).mono ?_
  rintro e w' ⟨lb, rfl, h1, h2⟩
  exact ⟨lb, rfl, h1.NL, h2⟩
theorem box5 {W : World} {b : Nat} {x0 x1 x2 x3 x4 : Value} {t : TypeId} (h : W.heap[b]? = some (.cells #[x0, x1, x2, x3, x4] t (0, 0))) : W.cell? ⟨b, 0, none⟩ = some x0 ∧ W.cell? ⟨b, 1, none⟩ = some x1 ∧ W.cell? ⟨b, 2, none⟩ = some x2 ∧ W.cell? ⟨b, 3, none⟩ = some x3 ∧ W.cell? ⟨b, 4, none⟩ = some x4 :=
  ⟨by rw [cell_of_row _ _ _ _ _ _ h]; rfl, by rw [cell_of_row _ _ _ _ _ _ h]; rfl, by rw [cell_of_row _ _ _ _ _ _ h]; rfl, by rw [cell_of_row _ _ _ _ _ _ h]; rfl, by rw [cell_of_row _ _ _ _ _ _ h]; rfl⟩

end Go.Proofs.Ythmkmjkbfjhffaa
