import Derived.Test.YthdfadlniacdcaaDoorSam
namespace Go.Proofs.YthdfadlniacdcaaDoor
open Go.RowKit
theorem info5z : (Tryd.prog.info? 5).map (fun i => (i.zero, i.size, i.bytes)) = some (some (.int .u8 0), 1, 1) := by kernel_rfl
/-- make([]byte, 32), and the text of it -/
theorem zero_run : ∃ M : Array Value, (∀ W : World, (Instr.makeSlice 43 (.int .i64 32) (.int .i64 32)).run Tryd.prog W = .ok (.slice (some ⟨W.heap.size, 0, none⟩) 32 32) (W.alloc (.cells M 5))) ∧
    ∀ W : World, (convert 43 9 (.slice (some ⟨W.heap.size, 0, none⟩) 32 32)).run Tryd.prog (W.alloc (.cells M 5)) = .ok (.string ⟨zero32.toArray⟩) (W.alloc (.cells M 5)) := by
  obtain ⟨i0, hi, hz0, hz1, hz2⟩ := info_parts info5z
  refine ⟨madeCells (Value.int .u8 0).cells 32, fun W => ?_, fun W => ?_⟩
  · have h := run_make (P := Tryd.prog) W 43 5 i0 (.int .u8 0) Tryd.underlying43 hi hz0 .i64 .i64 32 32 (by omega) (by omega) (by rw [hz2]; omega) (by omega)
    rw [hz1] at h
    simpa using h
  · have h := run_convert_bytes_back (P := Tryd.prog) (W.alloc (.cells (madeCells (Value.int .u8 0).cells 32) 5)) 43 9 5 ⟨W.heap.size, 0, none⟩ 32 zero32 Tryd.underlying43 Tryd.underlying5 Tryd.underlying9 (fun j hj => by
      have hj2 : j < 32 := by simpa [zero32] using hj
      rw [Addr.add_lit, World.cell?_alloc_at _ _ _ _ rfl]
      have e : madeCells (Value.int .u8 0).cells 32 = Array.replicate 32 (.int .u8 0) := by kernel_rfl
      have e2 : zero32[j]'hj = 0 := List.eq_of_mem_replicate (n := 32) (List.getElem_mem hj)
      rw [e, show ((zero32[j]'hj).toNat : Int) = ((0 : UInt8).toNat : Int) from by rw [e2], Nat.zero_add, Array.getElem?_replicate, if_pos hj2]
      rfl)
    exact h
end Go.Proofs.YthdfadlniacdcaaDoor
