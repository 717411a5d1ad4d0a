/- An argument of integers, opened. -/
import Derived.Test.YtegahpfmkepfmaaDoorPA
namespace Go.Proofs.YtegahpfmkepfmaaDoor
open Go.ChangeShapes Go.WideShapes Go.ChangeAt Go.RowKit
set_option maxRecDepth 100000 in
theorem open_argI {H : Type} {enc : TypeId × Value → H} {W : World} {base : Nat} {r : Reach} {b0 : Nat} {spare : Bool} {held : Nat → Bool} {v : Value} {d : DataW H} {p : List MemPlace}
    (hv : Value.okWide Tryd.prog W r b0 24 v) (h : DataW.Trod enc Tryd.prog W base held spare 24 v d p) : ∃ l, ArgI W v l := by
  obtain ⟨a0, len0, cap0, rfl⟩ := okWide_slice Tryd.underlying24 hv
  obtain ⟨fuel, hf⟩ := h
  rcases Go.Deep.open_slice Tryd.underlying24 hf with ⟨hcs, _⟩ | ⟨a, len, cap, m, n, D, Pl, hcs, hb, hl, hm, hmm, hx, hi⟩
  · simp [Value.cells] at hcs
    obtain ⟨rfl, rfl, rfl⟩ := hcs
    exact ⟨[], SLG.nil _ _ _, by simp, by simp⟩
  · simp [Value.cells] at hcs
    obtain ⟨rfl, rfl, rfl⟩ := hcs
    have hle : len0 ≤ m := by rw [hmm]; split <;> omega
    have hC : Tryd.prog.cellsOf 3 = 1 := by kernel_rfl
    have key : ∀ i, i < len0 → ∃ x : Int, W.cell? (a.add (i * 1)) = some (.int .i64 x) ∧ I64 x := fun i him => by
      obtain ⟨cs', hc, ht'⟩ := hi i (by omega)
      rw [hC] at hc
      obtain ⟨_, hcl, hat⟩ := World.cells?_some hc
      obtain ⟨c0, rfl⟩ : ∃ c0, cs' = [c0] := by
        match cs', hcl with
        | [c0], _ => exact ⟨c0, rfl⟩
      obtain ⟨s0, e0, _, l0⟩ := DataW.trod_int Tryd.underlying3 ht'
      simp at e0
      subst e0
      have k0 := hat 0 (by omega)
      rw [Go.Deep.add_add] at k0
      exact ⟨s0, k0, wf_i64 l0⟩
    by_cases h0 : len0 = 0
    · subst h0
      exact ⟨[], .inl ⟨rfl, _, _, rfl⟩, by simp, by simp⟩
    · obtain ⟨x0, hx0, _⟩ := key 0 (by omega)
      obtain ⟨b, o, sp⟩ := a
      have hx0' : W.cell? ⟨b, o, sp⟩ = some (.int .i64 x0) := by
        have e : (⟨b, o, sp⟩ : Addr).add (0 * 1) = ⟨b, o, sp⟩ := by unfold Addr.add; split <;> simp_all
        rw [e] at hx0; exact hx0
      obtain ⟨rfl, hbl⟩ := block_of_cell hx0'
      let f : Nat → Int := fun i => if h : i < len0 then (key i h).choose else 0
      have hf2 : ∀ i (h : i < len0), W.cell? ⟨b, o + i * 1, none⟩ = some (.int .i64 (f i)) ∧ I64 (f i) := fun i h => by
        have := (key i h).choose_spec
        simp only [f, dif_pos h]
        simpa only [Addr.add_lit] using this
      refine ⟨(List.range len0).map f, .inr ⟨fun e => h0 (by simpa using e), b, o, cap0, by simp, by simpa using hl, hbl, fun j x i u e1 e2 => ?_⟩, by simp; unfold maxLen at hm; omega, fun p hp => ?_⟩
      · have hj : j < len0 := by have := (List.getElem?_eq_some_iff.1 e1).1; simpa using this
        have e1' : f j = x := by simpa [List.getElem?_map, List.getElem?_range hj] using e1
        subst e1'
        obtain ⟨h1, _⟩ := hf2 j hj
        match i, e2 with
        | 0, e2 => simp [eI] at e2; subst e2; exact h1
        | i + 1, e2 => simp [eI] at e2
      · obtain ⟨i, hi3, rfl⟩ := List.mem_map.1 hp
        exact (hf2 i (by simpa using hi3)).2
end Go.Proofs.YtegahpfmkepfmaaDoor
