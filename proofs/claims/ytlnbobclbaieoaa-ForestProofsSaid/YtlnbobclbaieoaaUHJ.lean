/- An argument that is a list of integers, opened. -/
import Derived.Test.YtlnbobclbaieoaaUNVYPO
set_option maxRecDepth 100000
set_option maxHeartbeats 4000000
namespace Go.Proofs.Ytlnbobclbaieoaa
open Go.ChangeShapes Go.WideShapes Go.ChangeAt Go.RowKit
def ArgI (W : World) (v : Value) (l : List Int) : Prop := DL W v l ∧ l.length ≤ 9223372036854775807 ∧ ∀ x ∈ l, i64B x
theorem open_ints {H : Type} {enc : TypeId × Value → H} {W : World} {base : Nat} {r : Reach} {b0 : Nat} {spare : Bool} {held : Nat → Bool} {v : Value} {d : DataW H} {p : List MemPlace}
    (hv : Value.okWide Try.prog W r b0 26 v) (h : DataW.Trod enc Try.prog W base held spare 26 v d p) : ∃ l, ArgI W v l := by
  obtain ⟨a0, len0, cap0, rfl⟩ := okWide_slice Try.underlying26 hv
  obtain ⟨fuel, hf⟩ := h
  rcases Go.Deep.open_slice1 Try.underlying26 (by kernel_rfl) hf with ⟨hcs, _⟩ | ⟨a, len, cap, m, n, V, D, Pl, hcs, hb, hl, hm, hmm, hx, hi⟩
  · simp [Value.cells] at hcs
    obtain ⟨rfl, rfl, rfl⟩ := hcs
    exact ⟨[], .inl ⟨rfl, _, _, rfl⟩, by simp, by simp⟩
  · simp [Value.cells] at hcs
    obtain ⟨rfl, rfl, rfl⟩ := hcs
    have hle : len0 ≤ m := by rw [hmm]; split <;> omega
    have key : ∀ i, i < len0 → ∃ x : Int, W.cell? (a.add i) = some (.int .i64 x) ∧ i64B x := fun i him => by
      obtain ⟨h1, h2⟩ := hi i (by omega)
      obtain ⟨s0, e0, _, l0⟩ := DataW.trod_int Try.underlying3 h2
      simp at e0
      exact ⟨s0, by rw [h1, e0], wf_i64 l0⟩
    by_cases h0 : len0 = 0
    · subst h0
      exact ⟨[], .inl ⟨rfl, _, _, rfl⟩, by simp, by simp⟩
    · obtain ⟨x0, hx0, _⟩ := key 0 (by omega)
      obtain ⟨b, o, sp⟩ := a
      have hx0' : W.cell? ⟨b, o, sp⟩ = some (.int .i64 x0) := by
        have e : (⟨b, o, sp⟩ : Addr).add 0 = ⟨b, o, sp⟩ := by unfold Addr.add; split <;> simp_all
        rw [e] at hx0; exact hx0
      obtain ⟨rfl, hbl⟩ := block_of_cell hx0'
      let f : Nat → Int := fun i => if h : i < len0 then (key i h).choose else 0
      have hf2 : ∀ i (_ : i < len0), W.cell? ⟨b, o + i, none⟩ = some (.int .i64 (f i)) ∧ i64B (f i) := fun i h => by
        have := (key i h).choose_spec
        simp only [f, dif_pos h]
        refine ⟨?_, this.2⟩
        have e : (⟨b, o, none⟩ : Addr).add i = ⟨b, o + i, none⟩ := by rw [Addr.add_lit]
        exact (congrArg W.cell? e).symm.trans this.1
      refine ⟨(List.range len0).map f, .inr ⟨fun e => h0 (by simpa using e), b, o, cap0, by simp, by simpa using hl, hbl, fun j x e1 => ?_⟩, by simp; unfold maxLen at hm; omega, fun p hp => ?_⟩
      · have hj : j < len0 := by have := (List.getElem?_eq_some_iff.1 e1).1; simpa using this
        have e1' : f j = x := by simpa [List.getElem?_map, List.getElem?_range hj] using e1
        subst e1'
        exact (hf2 j hj).1
      · obtain ⟨i, hi3, rfl⟩ := List.mem_map.1 hp
        exact (hf2 i (by simpa using hi3)).2
end Go.Proofs.Ytlnbobclbaieoaa
