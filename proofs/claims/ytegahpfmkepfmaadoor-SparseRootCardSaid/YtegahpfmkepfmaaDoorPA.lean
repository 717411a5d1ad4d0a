import Derived.Test.YtegahpfmkepfmaaDoorW
import Derived.Test.YtegahpfmkepfmaaDoorMad
import Derived.Deep.Slices
import Derived.ChangeSlices
namespace Go.Proofs.YtegahpfmkepfmaaDoor
open Go.ChangeShapes Go.WideShapes Go.ChangeAt Go.RowKit
theorem block_of_cell {W : World} {b o : Nat} {sp : Option Nat} {u : Value} (h : W.cell? ⟨b, o, sp⟩ = some u) : sp = none ∧ b < W.heap.size := by
  unfold World.cell? at h
  split at h
  · rename_i cc _ _ hc
    split at h
    · cases h
    · rename_i hs
      refine ⟨by cases sp <;> simp_all, ?_⟩
      rcases Nat.lt_or_ge b W.heap.size with h | h
      · exact h
      · rw [Array.getElem?_eq_none h] at hc; cases hc
  · cases h
theorem wf_i64 {n : Int} (h : (Lit.int .i64 n).wf = true) : I64 n := by
  have := bounds_i64 h
  exact this
set_option maxRecDepth 100000 in
theorem open_pair {H : Type} {enc : TypeId × Value → H} {W : World} {base : Nat} {r : Reach} {b0 : Nat} {spare : Bool} {held : Nat → Bool} {v : Value} {d : DataW H} {p : List MemPlace}
    (hv : Value.okWide Tryd.prog W r b0 65 v) (h : DataW.Trod enc Tryd.prog W base held spare 65 v d p) : ∃ x0 x1 : Int, v = .agg #[.int .i64 x0, .int .i64 x1] ∧ I64 x0 ∧ I64 x1 := by
  obtain ⟨cs, rfl, hsz, _⟩ : ∃ cs, v = .agg cs ∧ cs.size = Tryd.prog.cellsOf 65 ∧ Row.okWide Tryd.prog W r b0 65 cs := by simpa [Value.okWide, Tryd.underlying65] using hv
  rw [show Tryd.prog.cellsOf 65 = 2 by kernel_rfl] at hsz
  obtain ⟨c0, c1, rfl⟩ := Go.Joins.array2 hsz
  obtain ⟨fuel, hf⟩ := h
  obtain ⟨xs, m, _, _, _, hl, hi⟩ := DataW.trod_array Tryd.underlying65 hf
  have hone : Tryd.prog.cellsOf 3 = 1 := by kernel_rfl
  have h0 := hi 0 (by omega)
  have h1 := hi 1 (by omega)
  rw [hone] at h0 h1
  rw [List.getElem?_eq_getElem (by omega)] at h0 h1
  simp [Value.cells] at h0 h1
  obtain ⟨s0, e0, _, l0⟩ := DataW.trod_int Tryd.underlying3 h0
  obtain ⟨s1, e1, _, l1⟩ := DataW.trod_int Tryd.underlying3 h1
  simp at e0 e1
  subst e0 e1
  exact ⟨s0, s1, rfl, wf_i64 l0, wf_i64 l1⟩
set_option maxRecDepth 100000 in
theorem open_argP {H : Type} {enc : TypeId × Value → H} {W : World} {base : Nat} {r : Reach} {b0 : Nat} {spare : Bool} {held : Nat → Bool} {v : Value} {d : DataW H} {p : List MemPlace}
    (hv : Value.okWide Tryd.prog W r b0 22 v) (h : DataW.Trod enc Tryd.prog W base held spare 22 v d p) : ∃ l, ArgP W v l := by
  obtain ⟨a0, len0, cap0, rfl⟩ := okWide_slice Tryd.underlying22 hv
  obtain ⟨fuel, hf⟩ := h
  rcases Go.Deep.open_slice Tryd.underlying22 hf with ⟨hcs, _⟩ | ⟨a, len, cap, m, n, D, Pl, hcs, hb, hl, hm, hmm, hx, hi⟩
  · simp [Value.cells] at hcs
    obtain ⟨rfl, rfl, rfl⟩ := hcs
    exact ⟨[], SLG.nil _ _ _, by simp, by simp⟩
  · simp [Value.cells] at hcs
    obtain ⟨rfl, rfl, rfl⟩ := hcs
    have hle : len0 ≤ m := by rw [hmm]; split <;> omega
    have hC : Tryd.prog.cellsOf 65 = 2 := by kernel_rfl
    have hone : Tryd.prog.cellsOf 3 = 1 := by kernel_rfl
    have key : ∀ i, i < len0 → ∃ x y : Int, W.cell? (a.add (i * 2)) = some (.int .i64 x) ∧ W.cell? (a.add (i * 2 + 1)) = some (.int .i64 y) ∧ I64 x ∧ I64 y := fun i him => by
      obtain ⟨cs', hc, ht'⟩ := hi i (by omega)
      rw [hC] at hc
      obtain ⟨_, hcl, hat⟩ := World.cells?_some hc
      obtain ⟨xs, m', _, _, _, hl2, hi2⟩ := DataW.trod_array Tryd.underlying65 ht'
      obtain ⟨c0, c1, rfl⟩ : ∃ c0 c1, cs' = [c0, c1] := by
        match cs', hcl with
        | [c0, c1], _ => exact ⟨c0, c1, rfl⟩
      have g0 := hi2 0 (by omega)
      have g1 := hi2 1 (by omega)
      rw [hone] at g0 g1
      rw [List.getElem?_eq_getElem (by omega)] at g0 g1
      simp at g0 g1
      obtain ⟨s0, e0, _, l0⟩ := DataW.trod_int Tryd.underlying3 g0
      obtain ⟨s1, e1, _, l1⟩ := DataW.trod_int Tryd.underlying3 g1
      simp at e0 e1
      subst e0 e1
      have k0 := hat 0 (by omega)
      have k1 := hat 1 (by omega)
      rw [Go.Deep.add_add] at k0 k1
      exact ⟨s0, s1, k0, k1, wf_i64 l0, wf_i64 l1⟩
    by_cases h0 : len0 = 0
    · subst h0
      exact ⟨[], .inl ⟨rfl, _, _, rfl⟩, by simp, by simp⟩
    · obtain ⟨x0, _, hx0, _⟩ := key 0 (by omega)
      obtain ⟨b, o, sp⟩ := a
      have hx0' : W.cell? ⟨b, o, sp⟩ = some (.int .i64 x0) := by
        have e : (⟨b, o, sp⟩ : Addr).add (0 * 2) = ⟨b, o, sp⟩ := by unfold Addr.add; split <;> simp_all
        rw [e] at hx0; exact hx0
      obtain ⟨rfl, hbl⟩ := block_of_cell hx0'
      let f : Nat → Int × Int := fun i => if h : i < len0 then ((key i h).choose, (key i h).choose_spec.choose) else (0, 0)
      have hf2 : ∀ i (h : i < len0), W.cell? ⟨b, o + i * 2, none⟩ = some (.int .i64 (f i).1) ∧ W.cell? ⟨b, o + (i * 2 + 1), none⟩ = some (.int .i64 (f i).2) ∧ I64 (f i).1 ∧ I64 (f i).2 := fun i h => by
        have := (key i h).choose_spec.choose_spec
        simp only [f, dif_pos h]
        simpa only [Addr.add_lit] using this
      refine ⟨(List.range len0).map f, .inr ⟨fun e => h0 (by simpa using e), b, o, cap0, by simp, by simpa using hl, hbl, fun j x i u e1 e2 => ?_⟩, by simp; unfold maxLen at hm; omega, fun p hp => ?_⟩
      · have hj : j < len0 := by have := (List.getElem?_eq_some_iff.1 e1).1; simpa using this
        have e1' : f j = x := by simpa [List.getElem?_map, List.getElem?_range hj] using e1
        subst e1'
        obtain ⟨h1, h2, _, _⟩ := hf2 j hj
        match i, e2 with
        | 0, e2 => simp [eP] at e2; subst e2; exact h1
        | 1, e2 => simp [eP] at e2; subst e2; rw [Nat.add_assoc]; exact h2
        | i + 2, e2 => simp [eP] at e2
      · obtain ⟨i, hi3, rfl⟩ := List.mem_map.1 hp
        exact (hf2 i (by simpa using hi3)).2.2
end Go.Proofs.YtegahpfmkepfmaaDoor
