/- Copies: of a text, of a slice of integers. -/
import Derived.Test.YtegahpfmkepfmaaDoorSa
import Derived.Lib.Strings
import Derived.Lib.Walk
import Derived.Lib.BufferWrite
import Derived.Lib.UnsafeStr
import Derived.Laws.MakeOwn
import Derived.Deep.Cut
namespace Go.Proofs.YtegahpfmkepfmaaDoor
open Go.RowKit
theorem infoU8 : (Tryd.prog.info? 5).map (fun i => (i.zero, i.size, i.bytes)) = some (some (.int .u8 0), 1, 1) := by kernel_rfl
set_option maxHeartbeats 400000 in
set_option maxRecDepth 100000 in
/-- a fresh copy of s -/
theorem Clone71_any (s : ByteArray) (w : World) (hlim : s.size ≤ 140737488351232) :
    Calls Tryd.prog 71 #[.string s] w fun e w' => e = .returned (.string s) ∧ Below w.heap.size w w' := by
  by_cases h0 : s.size = 0
  · obtain rfl : s = ⟨#[]⟩ := ByteArray.ext (Array.eq_empty_of_size_eq_zero h0)
    go_enter Tryd.func71, Tryd.ntmps71
    go_wp2
    go_ret
    exact ⟨rfl, Below.refl _ _⟩
  · obtain ⟨i0, hi, hz0, hz1, hz2⟩ := info_parts infoU8
    have hinfo : (Tryd.prog.info? 5).map (·.size) = some 1 := by rw [hi]; simp [hz1]
    have hco : Tryd.prog.cellsOf 5 = 1 := by kernel_rfl
    obtain ⟨M, hM⟩ : ∃ M, M = madeCells (Value.int .u8 0).cells (((s.size : Nat) : Int).toNat * i0.size) := ⟨_, rfl⟩
    have hMs : M.size = s.size := by rw [hM, size_madeCells, hz1]; simp
    have hmk : ∀ W : World, (Instr.makeSlice 93 (.int .i64 (s.size : Int)) (.int .i64 (s.size : Int))).run Tryd.prog W = .ok (.slice (some ⟨W.heap.size, 0, none⟩) s.size s.size) (W.alloc (.cells M 5)) := fun W => by
      have h := run_make (P := Tryd.prog) W 93 5 i0 (.int .u8 0) Tryd.underlying93 hi hz0 .i64 .i64 (s.size : Int) (s.size : Int) (by omega) (by omega) (by rw [hz2]; omega) (by omega)
      rw [← hM] at h
      simpa using h
    clear hM
    have hcp := Lib.run_copy_row_string (P := Tryd.prog) (w.alloc (.cells M 5)) 93 9 3 5 w.heap.size 0 s.size s.size s M 5 Tryd.underlying93 hinfo (heap_alloc_new w _) (Nat.le_refl _) (by omega)
    obtain ⟨Y, hY⟩ : ∃ Y, Y = (M.toList.take 0 ++ Lib.byteCells s.data.toList ++ M.toList.drop (0 + s.size)).toArray := ⟨_, rfl⟩
    rw [← hY] at hcp
    have hYl : Y.toList = Lib.byteCells s.data.toList := by
      rw [hY, List.toList_toArray, List.take_zero, List.nil_append, List.drop_of_length_le (by rw [Array.length_toList]; omega), List.append_nil]
    have hYs : Y.size = s.size := by rw [← Array.length_toList, hYl, Lib.byteCells_length, ← Lib.size_eq]
    have hgY : ((w.alloc (.cells M 5)).setRow w.heap.size Y).heap[w.heap.size]? = some (.cells Y 5 (0, 0)) := setRow_heap _ _ M _ 5 (0, 0) (heap_alloc_new w _)
    have hne : s.data.toList ≠ [] := fun e => h0 (by rw [Lib.size_eq, e]; rfl)
    have hUS := Lib.run_unsafeString_row (P := Tryd.prog) ((w.alloc (.cells M 5)).setRow w.heap.size Y) 125 3 9 5 Tryd.underlying125 hco w.heap.size Y.size (by unfold World.shape?; rw [hgY]) s.data.toList hne (by rw [← Lib.size_eq]; omega) (by rw [← Lib.size_eq]; omega)
      (fun j x hx => Lib.cells_of_row hgY Y.size j _ (by rw [List.take_of_length_le (by rw [Array.length_toList]; exact Nat.le_refl _), hYl]; simp [Lib.byteCells, hx]))
    rw [← Lib.size_eq] at hUS
    clear hY
    go_enter Tryd.func71, Tryd.ntmps71
    go_wp2
    go_ret
    have hb1 : Below w.heap.size w (w.alloc (.cells M 5)) := (Below.refl _ w).alloc (Nat.le_refl _) _
    have hb2 : Below w.heap.size (w.alloc (.cells M 5)) ((w.alloc (.cells M 5)).setRow w.heap.size Y) := ⟨rfl, rfl, rfl, by simp, fun k hk => setRow_other _ _ _ _ (by omega)⟩
    exact ⟨rfl, Lib.below_freeze (hb1.trans hb2) (p := ⟨w.heap.size, 0, none⟩) (Nat.le_refl _) _⟩
theorem strClone_any (s : ByteArray) (w : World) (hlim : s.size ≤ 140737488351232) :
    Calls Tryd.prog 47 #[.string s] w fun e w' => e = .returned (.string s) ∧ Below w.heap.size w w' := by
  go_enter Tryd.func47, Tryd.ntmps47
  go_wp2_with fail
  refine (Clone71_any _ _ hlim).mono ?_
  rintro e w' ⟨rfl, hb⟩
  go_wp2
  go_ret
  exact ⟨rfl, hb⟩


theorem Clone_any (s : Str) (w : World) (h : s.length ≤ 140737488351232) : Calls Tryd.prog 47 #[.string ⟨s.toArray⟩] w fun e w' => e = .returned (.string ⟨s.toArray⟩) ∧ Below w.heap.size w w' :=
  strClone_any ⟨s.toArray⟩ w (by simpa [ByteArray.size] using h)
/-- append(T{}, v...): the run -/
theorem copyG {α : Type} {enc : α → List Value} {sz : Nat} {t : TypeId} (henc : ∀ x, (enc x).length = sz) (hone : ∀ x, ∀ u ∈ enc x, u.oneCell' = true) (hsz : 0 < sz) (T ty : TypeId) {f0 : TypeInfo} {z : Value} {bytes : Nat}
    (hT : Tryd.prog.underlying T = some (.slice t)) (hf : Tryd.prog.info? t = some f0) (hz0 : f0.zero = some z) (hz1 : f0.size = sz) (hz2 : f0.bytes = bytes) (hz3 : z.cells.size = sz) (hby : bytes ≤ 1000)
    (W : World) (v : Value) (l : List α) (hv : SLG enc sz W v l) (hl : l.length ≤ 1000000000) :
    ∃ v' w', (Builtin.append_ #[T, T] ty #[.slice (some ⟨W.heap.size, 0, none⟩) 0 0, v]).run Tryd.prog (W.alloc (.cells #[] t)) = .ok v' w' ∧ OwnG enc sz t w' W.heap.size v' l ∧ Below W.heap.size W w' := by
  have B1 : Below W.heap.size W (W.alloc (.cells #[] t)) := (Below.refl _ W).alloc (Nat.le_refl _) _
  have hown : World.ownsRow (W.alloc (.cells #[] t)) W.heap.size t sz (.slice (some ⟨W.heap.size, 0, none⟩) 0 0) 0 [] := World.ownsRow_made W #[] 0 (Nat.le_refl _) (Nat.zero_le _) (by simp)
  rcases hv with ⟨rfl, a, c, rfl⟩ | ⟨h1, b, o, c, rfl, h3, h4, hL⟩
  · refine ⟨.slice (some ⟨W.heap.size, 0, none⟩) 0 0, W.alloc (.cells #[] t), ?_, hown, B1⟩
    have hfn := run_firstCells_none (P := Tryd.prog) (w := W.alloc (.cells #[] t)) f0.size 0 0 c
    have hfs := fun a => run_firstCells_some (P := Tryd.prog) (W.alloc (.cells #[] t)) f0.size 0 a 0 c [] (by simp) (by simp)
    cases a with
    | none => simp [Builtin.append_, run_underlying hT, sizeOf, typeInfo, zeroValue, hf, hz0, Builtin.lenOf, Question.forced, hfn, storeCells]
    | some x => simp [Builtin.append_, run_underlying hT, sizeOf, typeInfo, zeroValue, hf, hz0, Builtin.lenOf, Question.forced, hfs, storeCells]
  · have hn : l.length ≠ 0 := fun e => h1 (List.length_eq_zero_iff.1 e)
    have hbb : (0 + l.length) * bytes ≤ 140737488355328 := by
      have : l.length * bytes ≤ l.length * 1000 := Nat.mul_le_mul_left _ hby
      rw [Nat.zero_add]; omega
    obtain ⟨g, cap, w', hr, ho, hg, _, _⟩ := run_append_lies (P := Tryd.prog) (W.alloc (.cells #[] t)) T ty W.heap.size t f0 z sz bytes hT hf hz0 hz1 hz2 hz3 hsz _ 0 [] hown ⟨b, o, none⟩ l.length c (l.flatMap enc) (flat_len henc l)
      (fun j u e => by
        have hj := (List.getElem?_eq_some_iff.1 e).1
        rw [flat_len henc] at hj
        have hd : j / sz < l.length := (Nat.div_lt_iff_lt_mul hsz).2 hj
        have hm : j % sz < sz := Nat.mod_lt _ hsz
        have hj2 : j = j / sz * sz + j % sz := by rw [Nat.mul_comm]; exact (Nat.div_add_mod j sz).symm
        rw [hj2, flat_at henc l (j / sz) l[j / sz] (j % sz) (List.getElem?_eq_getElem hd) hm] at e
        rw [Addr.add_lit, B1.cell (p := ⟨b, o + j, none⟩) h4, hj2, ← Nat.add_assoc]
        exact hL (j / sz) _ (j % sz) u (List.getElem?_eq_getElem hd) e) (fun u hu => by obtain ⟨x, _, hx⟩ := List.mem_flatMap.1 hu; exact hone x u hx) (by omega) (by unfold maxLen; omega) hbb (by simp) (W.heap.size + 1) (by simp)
    refine ⟨_, w', hr, ?_, B1.grown hg (by simp) (fun k hk => (hown.lt k hk).1)⟩
    unfold OwnG
    simpa using ho
theorem copyI (W : World) (v : Value) (l : List Int) (hv : SI W v l) (hl : l.length ≤ 1000000000) :
    ∃ v' w', (Builtin.append_ #[24, 24] 24 #[.slice (some ⟨W.heap.size, 0, none⟩) 0 0, v]).run Tryd.prog (W.alloc (.cells #[] 3)) = .ok v' w' ∧ OI w' W.heap.size v' l ∧ Below W.heap.size W w' := by
  obtain ⟨i0, hi, hz0, hz1, hz2⟩ := info_parts infoInt
  exact copyG eI_len eI_one (by omega) 24 24 Tryd.underlying24 hi hz0 hz1 hz2 rfl (by omega) W v l hv hl
def RowI (l : List Int) (w : World) (e : Ending) (w' : World) : Prop := ∃ v, e = .returned v ∧ OI w' w.heap.size v l ∧ Below w.heap.size w w'

set_option maxRecDepth 100000 in
theorem CloneI_any (v : Value) (l : List Int) (w : World) (hv : SI w v l) (hl : l.length ≤ 1000000000) : Calls Tryd.prog 46 #[v] w (RowI l w) := by
  obtain ⟨v', w', hr, ho, hB⟩ := copyI w v l hv hl
  obtain ⟨a, c, rfl⟩ := hv.shape
  have hoh := Lib.hid ho
  by_cases hnil : a = none
  · subst hnil
    have hl0 : l = [] := by
      rcases hv with ⟨h, _⟩ | ⟨_, b, o, c', h, _⟩
      · exact h
      · injection h with h; cases h
    subst hl0
    clear hr ho hv hoh hB
    have hq : ∀ W, (binOp .eql 24 (.slice none 0 c) (.slice none 0 0)).run Tryd.prog W = .ok (.bool true) W := fun W => Lib.run_eql_slice_nil W 24 3 none 0 c 0 0 Tryd.underlying24
    simp only [List.length_nil] at *
    go_enter Tryd.func46, Tryd.ntmps46
    go_wp2_with fail
    go_ret
    exact ⟨_, rfl, OwnG.nil _ _, Below.refl _ _⟩
  · obtain ⟨x, rfl⟩ : ∃ x, a = some x := by cases a with | none => exact absurd rfl hnil | some x => exact ⟨x, rfl⟩
    obtain ⟨sa, sc, rfl⟩ := (OwnG.SL eI_len ho).shape
    clear hnil hv ho
    generalize l.length = n at *
    have hq : ∀ W, (binOp .eql 24 (.slice (some x) n c) (.slice none 0 0)).run Tryd.prog W = .ok (.bool false) W := fun W => Lib.run_eql_slice_nil W 24 3 (some x) n c 0 0 Tryd.underlying24
    go_enter Tryd.func46, Tryd.ntmps46
    go_wp2_with (at_builtin; refine wpList_append_runB rfl (.tmp 5) (.tmp 6) 24 rfl (.slice (some ⟨w.heap.size, 0, none⟩) 0 0) (.slice (some x) n c) rfl rfl _ _ hr ?_)
    go_ret
    exact ⟨_, rfl, hoh.out, hB⟩
end Go.Proofs.YtegahpfmkepfmaaDoor
