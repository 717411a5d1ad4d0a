import Derived.Test.YthdfadlniacdcaaDoorW
import Derived.Test.YthdfadlniacdcaaDoorFew
namespace Go.Proofs.YthdfadlniacdcaaDoor
open Go.ChangeShapes Go.WideShapes Go.ChangeAt Go.RowKit
theorem open_argS {H : Type} {enc : TypeId × Value → H} {W : World} {base : Nat} {r : Reach} {b0 : Nat} {spare : Bool} {held : Nat → Bool} {v : Value} {d : DataW H} {p : List MemPlace}
    (hv : Value.okWide Tryd.prog W r b0 26 v) (h : DataW.Trod enc Tryd.prog W base held spare 26 v d p) : ∃ l, ArgS W v l := by
  obtain ⟨a0, len0, cap0, rfl⟩ := okWide_slice Tryd.underlying26 hv
  obtain ⟨fuel, hf⟩ := h
  rcases open_strings Tryd.underlying26 Tryd.underlying9 (by kernel_rfl) hf with ⟨hcs, _⟩ | ⟨x, n, c, zs, hcs, _, hl, hm, hz, _, hcell, hwz⟩
  · simp [Value.cells] at hcs
    obtain ⟨rfl, rfl, rfl⟩ := hcs
    exact ⟨[], none, 0, rfl, by unfold maxLen; simp, by simp, .inl rfl⟩
  · simp [Value.cells] at hcs
    obtain ⟨rfl, rfl, rfl⟩ := hcs
    have hzl : len0 ≤ zs.length := by split at hz <;> omega
    have hll : ((zs.take len0).map fun s => s.data.toList).length = len0 := by simp; omega
    refine ⟨(zs.take len0).map fun s => s.data.toList, some x, cap0, by rw [hll], by rw [hll]; omega, ?_, ?_⟩
    · intro u hu
      obtain ⟨s, hs, rfl⟩ := List.mem_map.1 hu
      exact hwz s (List.mem_of_mem_take hs)
    · by_cases h0 : len0 = 0
      · left; subst h0; rfl
      · right
        have hx := hcell 0 (by omega)
        have hx2 : W.cell? x = some (.string (zs.getD 0 ByteArray.empty)) := hx
        obtain ⟨b, o, sp⟩ := x
        have hsp : sp = none ∧ b < W.heap.size := by
          unfold World.cell? at hx2
          split at hx2
          · rename_i cc _ _ hc
            split at hx2
            · cases hx2
            · rename_i hs
              refine ⟨by cases sp <;> simp_all, ?_⟩
              rcases Nat.lt_or_ge b W.heap.size with h | h
              · exact h
              · rw [Array.getElem?_eq_none h] at hc; cases hc
          · cases hx2
        obtain ⟨rfl, hb⟩ := hsp
        refine ⟨b, o, rfl, hb, fun j u e => ?_⟩
        simp only [List.getElem?_map, Option.map_eq_some_iff] at e
        obtain ⟨s, hs, rfl⟩ := e
        have hj : j < len0 := by
          have := (List.getElem?_eq_some_iff.1 hs).1
          simp at this; omega
        rw [List.getElem?_take_of_lt hj] at hs
        have := hcell j (by omega)
        rw [List.getD_eq_getElem?_getD, hs] at this
        rw [Addr.add_lit] at this
        exact this
end Go.Proofs.YthdfadlniacdcaaDoor
