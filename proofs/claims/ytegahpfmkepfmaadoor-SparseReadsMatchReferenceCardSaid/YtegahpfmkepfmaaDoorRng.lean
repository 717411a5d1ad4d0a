import Derived.Test.YtegahpfmkepfmaaDoorMix
import Derived.RangeFuncNested
import Derived.RangeFuncBound
import Derived.RangeFuncCalls
import Derived.RangeFuncLeaves
import Derived.Shelf.Abstract
import Derived.Shelf.RegionOpen
import Derived.OwnWalkIn
import Derived.TacticsInMore
import Derived.LoopNIn
import Derived.LoopIn
namespace Go.Proofs.YtegahpfmkepfmaaDoor
open Go.RowKit Go.Shelf
attribute [local go_sem] Oper.semAt_some

/-- J abides whatever is done at or beyond block B -/
def Apart {β : Type} (B : Nat) (J : β → World → Prop) : Prop :=
  ∀ s W W' row, J s W → W.grownBy W' row → (∀ r, row = some r → B ≤ r) → J s W'

/-- An iterator that writes memory of its own, whose rounds all go on. -/
def GivesOwn {α : Type} (F : Fence) (n : Nat) (P : Program) (g : Nat) (lb : Array Value) (encs : α → Array Value) (Kp : World → World → Prop) (S : List α → Prop) (N : Nat) (w : World) : Prop :=
  ∀ (l : Nat) (J : List α → World → Prop) (W : World), Below w.heap.size w W → Apart W.heap.size J →
    (∀ pre x W1, J pre W1 → pre.length < N → YieldAt F (n - 1) P l (encs x) W1 fun e W' => e = .returned (.bool true) ∧ J (pre ++ [x]) W' ∧ Kp W1 W') →
    J [] W →
    CallsIn F n P g (#[.func (.yield l) #[] #[]] ++ lb) W fun e W' => (∃ v, e = .returned v) ∧ ∃ xs, S xs ∧ J xs W'

theorem Apart.put {β : Type} {B : Nat} {J : β → World → Prop} (h : Apart B J) {s : β} {W : World} (l : Nat) (o : Obj) (hs : J s W) (hl : B ≤ l) : J s (W.putObj l o) :=
  h s W _ (some l) hs (grownBy_putObj' W l o) (fun r e => by cases e; exact hl)
theorem Apart.new {β : Type} {B : Nat} {J : β → World → Prop} (h : Apart B J) {s : β} {W : World} (o : Obj) (hs : J s W) : J s (W.alloc o) :=
  h s W _ none hs (World.grownBy_alloc W o none) (fun r e => by cases e)

/-- what a round's body pays -/
def RoundPaid {α : Type} (B : Nat) (Kp : World → World → Prop) (I : List α → World → Prop) (xs : List α) (W : World) : Exit → Act → World → Prop
  | .normal, _, W' => KeepsFrom B W W' ∧ Kp W W' ∧ I xs W'
  | _, _, _ => False

/-- A range over such an iterator, the body never leaving the loop. -/
theorem range_own {α : Type} {F : Fence} {n : Nat} {P : Program} {g : Operand} {ps : Array Tmp} {assign body : Code} {Q : Exit → Act → World → Prop} {a : Act} {w : World}
    (hro : F.round = none) (hn : 1 ≤ n) {gf : Nat} {lb : Array Value} (hg : a.eval g = .func (.func gf) #[] lb) (hF : F.fn gf) (eg : ∀ args w, (callFunc gf args).run P w = .ok (.enter gf args) w)
    {encs : α → Array Value} {Kp : World → World → Prop} {S : List α → Prop} {N : Nat} (hseq : GivesOwn F (n - 1) P gf lb encs Kp S N w)
    (trans : ∀ {A B C : World}, Kp A B → Kp B C → Kp A C) (puts : ∀ (W : World) (l : Nat) (o o' : Obj), W.heap[l]? = some o → o.isCells = false → Kp W (W.putObj l o')) (hps : ∀ x, (encs x).size = ps.size)
    (I : List α → World → Prop) (hI : Apart w.heap.size I) (h0 : I [] w)
    (round : ∀ (l : Nat) (pre : List α) (x : α) (W : World), w.heap.size ≤ l → I pre W → pre.length < N →
      assign.wpIn (F.inRound l) (n - 1 - 1) P (Exit.then (fun a1 W1 => KeepsFrom w.heap.size W W1 ∧ Kp W W1 ∧ I pre W1 ∧
        ∀ o o', W1.heap[l]? = some o → o.isCells = false → I pre (W1.putObj l o') → body.wpIn (F.inRound l) (n - 1 - 1) P (RoundPaid w.heap.size Kp I (pre ++ [x]) (W1.putObj l o')) a1 (W1.putObj l o')) (fun _ _ _ => False))
        { tmps := (ps.zip (encs x)).foldl (fun t (p, v) => t.setIfInBounds p v) a.tmps, defers := [] } W)
    (done : ∀ (D : Nat) (xs : List α) (W : World), w.heap.size ≤ D → S xs → I xs W → W.heap[D]? = some (.deferred (some [])) → Q .normal { a with defers := { target := .collected D, args := #[] } :: a.defers } W) :
    (Code.rangeFunc g ps assign body).wpIn F n P Q a w := by
  refine wpIn_rangeFunc fun fn hfn => ?_
  rw [hro]
  let m := w.heap.size
  have hm : m = w.heap.size := rfl
  let rc : LoopState → Loop := fun st => { state := st, pending := none, fn, tmps := a.tmps, params := ps, assign, body, defers := m }
  have hrc : ∀ st, rc st = { state := st, pending := none, fn, tmps := a.tmps, params := ps, assign, body, defers := m } := fun _ => rfl
  let V := (w.alloc (.deferred (some []))).alloc (.loop (rc .ready))
  have hV : V = (w.alloc (.deferred (some []))).alloc (.loop (rc .ready)) := rfl
  have Vsize : V.heap.size = m + 2 := by simp [hV, hm]
  have Vl : V.heap[m + 1]? = some (.loop (rc .ready)) := by rw [hV]; exact heap_alloc2_new _ _ _
  have Vd : V.heap[m]? = some (.deferred (some [])) := by rw [hV]; exact heap_alloc2_old _ _ _
  have VB : Below w.heap.size w V := by rw [hV]; exact ((Below.refl _ w).alloc (Nat.le_refl _) _).alloc (by simp) _
  refine ⟨m + 1, [{ target := .collected m, args := #[] }], V, { target := .fn (.func gf) lb, args := #[.func (.yield (m + 1)) #[] #[]] }, V, gf, #[.func (.yield (m + 1)) #[] #[]] ++ lb, V, run_enterLoop_outer _ _ _ _ _, ?_, ?_, ?_, fun _ => hn, ?_⟩
  · simp only [resolve, hg]; simp [go_sem]
  · intro f hf
    simp [Target.leads] at hf
    subst hf; exact hF
  · simp [invoke, go_sem, eg]
  -- the iterator's contract at I and the two blocks of the loop's own
  let J : List α → World → Prop := fun pre W => I pre W ∧ W.heap[m + 1]? = some (.loop (rc .ready)) ∧ W.heap[m]? = some (.deferred (some []))
  have hJ : Apart V.heap.size J := by
    rintro s X Y row ⟨i1, i2, i3⟩ hgr hrow
    have far : ∀ k, k < m + 2 → some k ≠ row := fun k hk e => by have := hrow k e.symm; omega
    refine ⟨hI s X Y row i1 hgr (fun r e => by have := hrow r e; omega), ?_, ?_⟩
    · rw [hgr.block _ (Array.getElem?_eq_some_iff.1 i2).1 (far _ (by omega))]; exact i2
    · rw [hgr.block _ (Array.getElem?_eq_some_iff.1 i3).1 (far _ (by omega))]; exact i3
  refine (hseq (m + 1) J V VB hJ ?_ ⟨hI.new _ (hI.new _ h0), Vl, Vd⟩).mono ?_
  · rintro pre x X ⟨i1, i2, i3⟩ hlen
    refine ⟨fn, _, assign, body, run_yield i2 (hps x), roundIn_of_wpIn hfn ?_⟩
    refine wpIn_mono (round (m + 1) pre x X (by omega) i1 hlen) ?_
    intro e a1 X1 h
    cases e with
    | normal =>
      obtain ⟨k1, p1, j1, hb⟩ := h
      have l1 := k1.same _ _ (by omega) i2 rfl
      have d1 := k1.same _ _ (Nat.le_refl _) i3 rfl
      refine ⟨_, run_beginRound l1 rfl, ?_⟩
      have lt1 := (Array.getElem?_eq_some_iff.1 l1).1
      refine wpIn_mono (hb _ (.loop { rc .ready with state := .busy }) l1 rfl (hI.put _ _ j1 (by omega))) ?_
      intro e2 a2 X2 h2
      cases e2 with
      | normal =>
        obtain ⟨k2, p2, j2⟩ := h2
        have l2 := k2.same (m + 1) _ (by omega) (World.putObj_heap_same lt1) rfl
        have d2 := k2.same m _ (Nat.le_refl _) ((World.putObj_heap_other (by omega)).trans d1) rfl
        have lt2 := (Array.getElem?_eq_some_iff.1 l2).1
        refine ⟨_, _, run_endRound none l2, rfl, ⟨hI.put _ _ j2 (by omega), World.putObj_heap_same lt2, (World.putObj_heap_other (by omega)).trans d2⟩, ?_⟩
        exact trans p1 (trans (puts _ _ _ _ l1 rfl) (trans p2 (puts _ _ _ _ l2 rfl)))
      | ret => exact h2.elim
      | exit id => exact h2.elim
      | goto t => exact h2.elim
      | panic c => exact h2.elim
      | outgrown => exact h2.elim
    | ret => exact h.elim
    | exit id => exact h.elim
    | goto t => exact h.elim
    | panic c => exact h.elim
    | outgrown => exact h.elim
  · rintro e X ⟨⟨v, rfl⟩, xs, hS, i1, i2, i3⟩
    refine ⟨none, _, run_endLoop i2 (by simp [hrc]), ?_⟩
    exact done m xs _ (Nat.le_refl _) hS (hI.put _ _ i1 (by omega)) ((World.putObj_heap_other (by omega)).trans i3)
end Go.Proofs.YtegahpfmkepfmaaDoor
