/- An argument of integers, opened. Arguments of entries, of strings, and an opening, opened. few: at most 8 entries, each value cut to 20 bytes. -/
import Derived.Test.YtegahpfmkepfmaaDoorW
import Derived.Test.YtegahpfmkepfmaaDoorMad
import Derived.Deep.Slices
import Derived.ChangeSlices
import Derived.Deep.SlicePairs
import Derived.Deep.Strs
import Derived.Test.YtegahpfmkepfmaaDoorRK
import Derived.Test.YtegahpfmkepfmaaDoorHel
import Derived.BigQuiet
namespace Go.Proofs.YtegahpfmkepfmaaDoor
open Go.ChangeShapes Go.WideShapes Go.ChangeAt Go.RowKit
theorem block_of_cell {W : World} {b o : Nat} {sp : Option Nat} {u : Value} (h : W.cell? ⟨b, o, sp⟩ = some u) : sp = none ∧ b < W.heap.size := by
  unfold World.cell? at h
  split at h
  · rename_i cc _ _ hc
    split at h
    · cases h
    · rename_i hs
      refine ⟨by cases sp <;> simp_all, ?_⟩
      rcases Nat.lt_or_ge b W.heap.size with h | h
      · exact h
      · rw [Array.getElem?_eq_none h] at hc; cases hc
  · cases h
theorem wf_i64 {n : Int} (h : (Lit.int .i64 n).wf = true) : I64 n := by
  have := bounds_i64 h
  exact this
set_option maxRecDepth 100000 in
theorem open_pair {H : Type} {enc : TypeId × Value → H} {W : World} {base : Nat} {r : Reach} {b0 : Nat} {spare : Bool} {held : Nat → Bool} {v : Value} {d : DataW H} {p : List MemPlace}
    (hv : Value.okWide Tryd.prog W r b0 65 v) (h : DataW.Trod enc Tryd.prog W base held spare 65 v d p) : ∃ x0 x1 : Int, v = .agg #[.int .i64 x0, .int .i64 x1] ∧ I64 x0 ∧ I64 x1 := by
  obtain ⟨cs, rfl, hsz, _⟩ : ∃ cs, v = .agg cs ∧ cs.size = Tryd.prog.cellsOf 65 ∧ Row.okWide Tryd.prog W r b0 65 cs := by simpa [Value.okWide, Tryd.underlying65] using hv
  rw [show Tryd.prog.cellsOf 65 = 2 by kernel_rfl] at hsz
  obtain ⟨c0, c1, rfl⟩ := Go.Joins.array2 hsz
  obtain ⟨fuel, hf⟩ := h
  obtain ⟨xs, m, _, _, _, hl, hi⟩ := DataW.trod_array Tryd.underlying65 hf
  have hone : Tryd.prog.cellsOf 3 = 1 := by kernel_rfl
  have h0 := hi 0 (by omega)
  have h1 := hi 1 (by omega)
  rw [hone] at h0 h1
  rw [List.getElem?_eq_getElem (by omega)] at h0 h1
  simp [Value.cells] at h0 h1
  obtain ⟨s0, e0, _, l0⟩ := DataW.trod_int Tryd.underlying3 h0
  obtain ⟨s1, e1, _, l1⟩ := DataW.trod_int Tryd.underlying3 h1
  simp at e0 e1
  subst e0 e1
  exact ⟨s0, s1, rfl, wf_i64 l0, wf_i64 l1⟩
set_option maxRecDepth 100000 in
theorem open_argP {H : Type} {enc : TypeId × Value → H} {W : World} {base : Nat} {r : Reach} {b0 : Nat} {spare : Bool} {held : Nat → Bool} {v : Value} {d : DataW H} {p : List MemPlace}
    (hv : Value.okWide Tryd.prog W r b0 22 v) (h : DataW.Trod enc Tryd.prog W base held spare 22 v d p) : ∃ l, ArgP W v l := by
  obtain ⟨a0, len0, cap0, rfl⟩ := okWide_slice Tryd.underlying22 hv
  obtain ⟨fuel, hf⟩ := h
  rcases Go.Deep.open_slice Tryd.underlying22 hf with ⟨hcs, _⟩ | ⟨a, len, cap, m, n, D, Pl, hcs, hb, hl, hm, hmm, hx, hi⟩
  · simp [Value.cells] at hcs
    obtain ⟨rfl, rfl, rfl⟩ := hcs
    exact ⟨[], SLG.nil _ _ _, by simp, by simp⟩
  · simp [Value.cells] at hcs
    obtain ⟨rfl, rfl, rfl⟩ := hcs
    have hle : len0 ≤ m := by rw [hmm]; split <;> omega
    have hC : Tryd.prog.cellsOf 65 = 2 := by kernel_rfl
    have hone : Tryd.prog.cellsOf 3 = 1 := by kernel_rfl
    have key : ∀ i, i < len0 → ∃ x y : Int, W.cell? (a.add (i * 2)) = some (.int .i64 x) ∧ W.cell? (a.add (i * 2 + 1)) = some (.int .i64 y) ∧ I64 x ∧ I64 y := fun i him => by
      obtain ⟨cs', hc, ht'⟩ := hi i (by omega)
      rw [hC] at hc
      obtain ⟨_, hcl, hat⟩ := World.cells?_some hc
      obtain ⟨xs, m', _, _, _, hl2, hi2⟩ := DataW.trod_array Tryd.underlying65 ht'
      obtain ⟨c0, c1, rfl⟩ : ∃ c0 c1, cs' = [c0, c1] := by
        match cs', hcl with
        | [c0, c1], _ => exact ⟨c0, c1, rfl⟩
      have g0 := hi2 0 (by omega)
      have g1 := hi2 1 (by omega)
      rw [hone] at g0 g1
      rw [List.getElem?_eq_getElem (by omega)] at g0 g1
      simp at g0 g1
      obtain ⟨s0, e0, _, l0⟩ := DataW.trod_int Tryd.underlying3 g0
      obtain ⟨s1, e1, _, l1⟩ := DataW.trod_int Tryd.underlying3 g1
      simp at e0 e1
      subst e0 e1
      have k0 := hat 0 (by omega)
      have k1 := hat 1 (by omega)
      rw [Go.Deep.add_add] at k0 k1
      exact ⟨s0, s1, k0, k1, wf_i64 l0, wf_i64 l1⟩
    by_cases h0 : len0 = 0
    · subst h0
      exact ⟨[], .inl ⟨rfl, _, _, rfl⟩, by simp, by simp⟩
    · obtain ⟨x0, _, hx0, _⟩ := key 0 (by omega)
      obtain ⟨b, o, sp⟩ := a
      have hx0' : W.cell? ⟨b, o, sp⟩ = some (.int .i64 x0) := by
        have e : (⟨b, o, sp⟩ : Addr).add (0 * 2) = ⟨b, o, sp⟩ := by unfold Addr.add; split <;> simp_all
        rw [e] at hx0; exact hx0
      obtain ⟨rfl, hbl⟩ := block_of_cell hx0'
      let f : Nat → Int × Int := fun i => if h : i < len0 then ((key i h).choose, (key i h).choose_spec.choose) else (0, 0)
      have hf2 : ∀ i (h : i < len0), W.cell? ⟨b, o + i * 2, none⟩ = some (.int .i64 (f i).1) ∧ W.cell? ⟨b, o + (i * 2 + 1), none⟩ = some (.int .i64 (f i).2) ∧ I64 (f i).1 ∧ I64 (f i).2 := fun i h => by
        have := (key i h).choose_spec.choose_spec
        simp only [f, dif_pos h]
        simpa only [Addr.add_lit] using this
      refine ⟨(List.range len0).map f, .inr ⟨fun e => h0 (by simpa using e), b, o, cap0, by simp, by simpa using hl, hbl, fun j x i u e1 e2 => ?_⟩, by simp; unfold maxLen at hm; omega, fun p hp => ?_⟩
      · have hj : j < len0 := by have := (List.getElem?_eq_some_iff.1 e1).1; simpa using this
        have e1' : f j = x := by simpa [List.getElem?_map, List.getElem?_range hj] using e1
        subst e1'
        obtain ⟨h1, h2, _, _⟩ := hf2 j hj
        match i, e2 with
        | 0, e2 => simp [eP] at e2; subst e2; exact h1
        | 1, e2 => simp [eP] at e2; subst e2; rw [Nat.add_assoc]; exact h2
        | i + 2, e2 => simp [eP] at e2
      · obtain ⟨i, hi3, rfl⟩ := List.mem_map.1 hp
        exact (hf2 i (by simpa using hi3)).2.2
end Go.Proofs.YtegahpfmkepfmaaDoor
namespace Go.Proofs.YtegahpfmkepfmaaDoor
open Go.ChangeShapes Go.WideShapes Go.ChangeAt Go.RowKit
set_option maxRecDepth 100000 in
theorem open_argI {H : Type} {enc : TypeId × Value → H} {W : World} {base : Nat} {r : Reach} {b0 : Nat} {spare : Bool} {held : Nat → Bool} {v : Value} {d : DataW H} {p : List MemPlace}
    (hv : Value.okWide Tryd.prog W r b0 24 v) (h : DataW.Trod enc Tryd.prog W base held spare 24 v d p) : ∃ l, ArgI W v l := by
  obtain ⟨a0, len0, cap0, rfl⟩ := okWide_slice Tryd.underlying24 hv
  obtain ⟨fuel, hf⟩ := h
  rcases Go.Deep.open_slice Tryd.underlying24 hf with ⟨hcs, _⟩ | ⟨a, len, cap, m, n, D, Pl, hcs, hb, hl, hm, hmm, hx, hi⟩
  · simp [Value.cells] at hcs
    obtain ⟨rfl, rfl, rfl⟩ := hcs
    exact ⟨[], SLG.nil _ _ _, by simp, by simp⟩
  · simp [Value.cells] at hcs
    obtain ⟨rfl, rfl, rfl⟩ := hcs
    have hle : len0 ≤ m := by rw [hmm]; split <;> omega
    have hC : Tryd.prog.cellsOf 3 = 1 := by kernel_rfl
    have key : ∀ i, i < len0 → ∃ x : Int, W.cell? (a.add (i * 1)) = some (.int .i64 x) ∧ I64 x := fun i him => by
      obtain ⟨cs', hc, ht'⟩ := hi i (by omega)
      rw [hC] at hc
      obtain ⟨_, hcl, hat⟩ := World.cells?_some hc
      obtain ⟨c0, rfl⟩ : ∃ c0, cs' = [c0] := by
        match cs', hcl with
        | [c0], _ => exact ⟨c0, rfl⟩
      obtain ⟨s0, e0, _, l0⟩ := DataW.trod_int Tryd.underlying3 ht'
      simp at e0
      subst e0
      have k0 := hat 0 (by omega)
      rw [Go.Deep.add_add] at k0
      exact ⟨s0, k0, wf_i64 l0⟩
    by_cases h0 : len0 = 0
    · subst h0
      exact ⟨[], .inl ⟨rfl, _, _, rfl⟩, by simp, by simp⟩
    · obtain ⟨x0, hx0, _⟩ := key 0 (by omega)
      obtain ⟨b, o, sp⟩ := a
      have hx0' : W.cell? ⟨b, o, sp⟩ = some (.int .i64 x0) := by
        have e : (⟨b, o, sp⟩ : Addr).add (0 * 1) = ⟨b, o, sp⟩ := by unfold Addr.add; split <;> simp_all
        rw [e] at hx0; exact hx0
      obtain ⟨rfl, hbl⟩ := block_of_cell hx0'
      let f : Nat → Int := fun i => if h : i < len0 then (key i h).choose else 0
      have hf2 : ∀ i (h : i < len0), W.cell? ⟨b, o + i * 1, none⟩ = some (.int .i64 (f i)) ∧ I64 (f i) := fun i h => by
        have := (key i h).choose_spec
        simp only [f, dif_pos h]
        simpa only [Addr.add_lit] using this
      refine ⟨(List.range len0).map f, .inr ⟨fun e => h0 (by simpa using e), b, o, cap0, by simp, by simpa using hl, hbl, fun j x i u e1 e2 => ?_⟩, by simp; unfold maxLen at hm; omega, fun p hp => ?_⟩
      · have hj : j < len0 := by have := (List.getElem?_eq_some_iff.1 e1).1; simpa using this
        have e1' : f j = x := by simpa [List.getElem?_map, List.getElem?_range hj] using e1
        subst e1'
        obtain ⟨h1, _⟩ := hf2 j hj
        match i, e2 with
        | 0, e2 => simp [eI] at e2; subst e2; exact h1
        | i + 1, e2 => simp [eI] at e2
      · obtain ⟨i, hi3, rfl⟩ := List.mem_map.1 hp
        exact (hf2 i (by simpa using hi3)).2
end Go.Proofs.YtegahpfmkepfmaaDoor
namespace Go.Proofs.YtegahpfmkepfmaaDoor
open Go.ChangeShapes Go.WideShapes Go.ChangeAt Go.RowKit
theorem ba_etaO (s : ByteArray) : s = ⟨s.data.toList.toArray⟩ := by
  apply ByteArray.ext; simp
def ArgE (W : World) (v : Value) (l : List Ent) : Prop := SE W v l ∧ l.length ≤ 9223372036854775807 ∧ ∀ e ∈ l, I64 e.1 ∧ e.2.length ≤ maxLen
def ArgS (W : World) (v : Value) (l : List Str) : Prop := SS W v l ∧ l.length ≤ 9223372036854775807 ∧ ∀ e ∈ l, List.length e ≤ maxLen
set_option maxRecDepth 100000 in
theorem coreE {H : Type} {enc : TypeId × Value → H} {W : World} {base n : Nat} {spare : Nat → Bool} {held : Bool} {v : Value} {y : DataW H × List MemPlace}
    (h : DataW.trod enc Tryd.prog W base spare held n 23 [v] = some y) : ∃ l, ArgE W v l := by
  rcases Go.Deep.open_slice_pairs Tryd.underlying23 Tryd.underlying46 (by kernel_rfl) rfl rfl (by kernel_rfl) (by kernel_rfl) h with ⟨hcs, _⟩ | ⟨a, len0, cap0, m, n', V0, V1, D0, D1, P0, P1, hcs, hb, hl, hm, hmm, hx, hi⟩
  · simp at hcs
    subst hcs
    exact ⟨[], SLG.nil _ _ _, by simp, by simp⟩
  · simp at hcs
    subst hcs
    have hle : len0 ≤ m := by rw [hmm]; split <;> omega
    have key : ∀ i, i < len0 → ∃ (x : Int) (s : Str), W.cell? (a.add (i * 2)) = some (.int .i64 x) ∧ W.cell? (a.add (i * 2 + 1)) = some (.string ⟨s.toArray⟩) ∧ I64 x ∧ s.length ≤ maxLen := fun i him => by
      obtain ⟨k0, k1, t0, t1⟩ := hi i (by omega)
      obtain ⟨s0, e0, _, l0⟩ := DataW.trod_int Tryd.underlying3 t0
      obtain ⟨s1, e1, _, l1⟩ := DataW.trod_string Tryd.underlying9 t1
      simp at e0 e1
      rw [e0] at k0
      rw [e1, ba_etaO s1] at k1
      exact ⟨s0, s1.data.toList, k0, k1, wf_i64 l0, l1⟩
    by_cases h0 : len0 = 0
    · subst h0
      exact ⟨[], .inl ⟨rfl, _, _, rfl⟩, by simp, by simp⟩
    · obtain ⟨x0, _, hx0, _⟩ := key 0 (by omega)
      obtain ⟨b, o, sp⟩ := a
      have hx0' : W.cell? ⟨b, o, sp⟩ = some (.int .i64 x0) := by
        have e : (⟨b, o, sp⟩ : Addr).add (0 * 2) = ⟨b, o, sp⟩ := by unfold Addr.add; split <;> simp_all
        rw [e] at hx0; exact hx0
      obtain ⟨rfl, hbl⟩ := block_of_cell hx0'
      let f : Nat → Ent := fun i => if h : i < len0 then ((key i h).choose, (key i h).choose_spec.choose) else (0, [])
      have hf2 : ∀ i (h : i < len0), W.cell? ⟨b, o + i * 2, none⟩ = some (.int .i64 (f i).1) ∧ W.cell? ⟨b, o + (i * 2 + 1), none⟩ = some (.string ⟨(f i).2.toArray⟩) ∧ I64 (f i).1 ∧ (f i).2.length ≤ maxLen := fun i h => by
        have := (key i h).choose_spec.choose_spec
        simp only [f, dif_pos h]
        simpa only [Addr.add_lit] using this
      refine ⟨(List.range len0).map f, .inr ⟨fun e => h0 (by simpa using e), b, o, cap0, by simp, by simpa using hl, hbl, fun j x i u e1 e2 => ?_⟩, by simp; unfold maxLen at hm; omega, fun p hp => ?_⟩
      · have hj : j < len0 := by have := (List.getElem?_eq_some_iff.1 e1).1; simpa using this
        have e1' : f j = x := by simpa [List.getElem?_map, List.getElem?_range hj] using e1
        subst e1'
        obtain ⟨h1, h2, _, _⟩ := hf2 j hj
        match i, e2 with
        | 0, e2 => simp [eE] at e2; subst e2; exact h1
        | 1, e2 => simp [eE] at e2; subst e2; rw [Nat.add_assoc]; exact h2
        | i + 2, e2 => simp [eE] at e2
      · obtain ⟨i, hi3, rfl⟩ := List.mem_map.1 hp
        exact (hf2 i (by simpa using hi3)).2.2
set_option maxRecDepth 100000 in
theorem coreS {H : Type} {enc : TypeId × Value → H} {W : World} {base n : Nat} {spare : Nat → Bool} {held : Bool} {v : Value} {y : DataW H × List MemPlace}
    (h : DataW.trod enc Tryd.prog W base spare held n 35 [v] = some y) : ∃ l, ArgS W v l := by
  rcases Go.Deep.open_slice1 Tryd.underlying35 (by kernel_rfl) h with ⟨hcs, _⟩ | ⟨a, len0, cap0, m, n', V0, D0, P0, hcs, hb, hl, hm, hmm, hx, hi⟩
  · simp at hcs
    subst hcs
    exact ⟨[], SLG.nil _ _ _, by simp, by simp⟩
  · simp at hcs
    subst hcs
    have hle : len0 ≤ m := by rw [hmm]; split <;> omega
    have key : ∀ i, i < len0 → ∃ (s : Str), W.cell? (a.add i) = some (.string ⟨s.toArray⟩) ∧ s.length ≤ maxLen := fun i him => by
      obtain ⟨k1, t1⟩ := hi i (by omega)
      obtain ⟨s1, e1, _, l1⟩ := DataW.trod_string Tryd.underlying9 t1
      simp at e1
      rw [e1, ba_etaO s1] at k1
      exact ⟨s1.data.toList, k1, l1⟩
    by_cases h0 : len0 = 0
    · subst h0
      exact ⟨[], .inl ⟨rfl, _, _, rfl⟩, by simp, by simp⟩
    · obtain ⟨x0, hx0, _⟩ := key 0 (by omega)
      obtain ⟨b, o, sp⟩ := a
      have hx0' : W.cell? ⟨b, o, sp⟩ = some (.string ⟨x0.toArray⟩) := by
        have e : (⟨b, o, sp⟩ : Addr).add 0 = ⟨b, o, sp⟩ := by unfold Addr.add; split <;> simp_all
        rw [e] at hx0; exact hx0
      obtain ⟨rfl, hbl⟩ := block_of_cell hx0'
      let f : Nat → Str := fun i => if h : i < len0 then (key i h).choose else []
      have hf2 : ∀ i (h : i < len0), W.cell? ⟨b, o + i, none⟩ = some (.string ⟨(f i).toArray⟩) ∧ (f i).length ≤ maxLen := fun i h => by
        have := (key i h).choose_spec
        simp only [f, dif_pos h]
        simpa only [Addr.add_lit] using this
      refine ⟨(List.range len0).map f, .inr ⟨fun e => h0 (by simpa using e), b, o, cap0, by simp, by simpa using hl, hbl, fun j x i u e1 e2 => ?_⟩, by simp; unfold maxLen at hm; omega, fun p hp => ?_⟩
      · have hj : j < len0 := by have := (List.getElem?_eq_some_iff.1 e1).1; simpa using this
        have e1' : f j = x := by simpa [List.getElem?_map, List.getElem?_range hj] using e1
        subst e1'
        obtain ⟨h1, _⟩ := hf2 j hj
        match i, e2 with
        | 0, e2 => simp [eS] at e2; subst e2; simpa using h1
        | i + 1, e2 => simp [eS] at e2
      · obtain ⟨i, hi3, rfl⟩ := List.mem_map.1 hp
        exact (hf2 i (by simpa using hi3)).2
set_option maxRecDepth 100000 in
theorem coreI {H : Type} {enc : TypeId × Value → H} {W : World} {base n : Nat} {spare : Nat → Bool} {held : Bool} {v : Value} {y : DataW H × List MemPlace}
    (h : DataW.trod enc Tryd.prog W base spare held n 24 [v] = some y) : ∃ l, ArgI W v l := by
  rcases Go.Deep.open_slice1 Tryd.underlying24 (by kernel_rfl) h with ⟨hcs, _⟩ | ⟨a, len0, cap0, m, n', V0, D0, P0, hcs, hb, hl, hm, hmm, hx, hi⟩
  · simp at hcs
    subst hcs
    exact ⟨[], SLG.nil _ _ _, by simp, by simp⟩
  · simp at hcs
    subst hcs
    have hle : len0 ≤ m := by rw [hmm]; split <;> omega
    have key : ∀ i, i < len0 → ∃ (s : Int), W.cell? (a.add i) = some (.int .i64 s) ∧ I64 s := fun i him => by
      obtain ⟨k1, t1⟩ := hi i (by omega)
      obtain ⟨s1, e1, _, l1⟩ := DataW.trod_int Tryd.underlying3 t1
      simp at e1
      rw [e1] at k1
      exact ⟨s1, k1, wf_i64 l1⟩
    by_cases h0 : len0 = 0
    · subst h0
      exact ⟨[], .inl ⟨rfl, _, _, rfl⟩, by simp, by simp⟩
    · obtain ⟨x0, hx0, _⟩ := key 0 (by omega)
      obtain ⟨b, o, sp⟩ := a
      have hx0' : W.cell? ⟨b, o, sp⟩ = some (.int .i64 x0) := by
        have e : (⟨b, o, sp⟩ : Addr).add 0 = ⟨b, o, sp⟩ := by unfold Addr.add; split <;> simp_all
        rw [e] at hx0; exact hx0
      obtain ⟨rfl, hbl⟩ := block_of_cell hx0'
      let f : Nat → Int := fun i => if h : i < len0 then (key i h).choose else 0
      have hf2 : ∀ i (h : i < len0), W.cell? ⟨b, o + i, none⟩ = some (.int .i64 (f i)) ∧ I64 (f i) := fun i h => by
        have := (key i h).choose_spec
        simp only [f, dif_pos h]
        simpa only [Addr.add_lit] using this
      refine ⟨(List.range len0).map f, .inr ⟨fun e => h0 (by simpa using e), b, o, cap0, by simp, by simpa using hl, hbl, fun j x i u e1 e2 => ?_⟩, by simp; unfold maxLen at hm; omega, fun p hp => ?_⟩
      · have hj : j < len0 := by have := (List.getElem?_eq_some_iff.1 e1).1; simpa using this
        have e1' : f j = x := by simpa [List.getElem?_map, List.getElem?_range hj] using e1
        subst e1'
        obtain ⟨h1, _⟩ := hf2 j hj
        match i, e2 with
        | 0, e2 => simp [eI] at e2; subst e2; simpa using h1
        | i + 1, e2 => simp [eI] at e2
      · obtain ⟨i, hi3, rfl⟩ := List.mem_map.1 hp
        exact (hf2 i (by simpa using hi3)).2
set_option maxRecDepth 100000 in
theorem open_argE {H : Type} {enc : TypeId × Value → H} {W : World} {base : Nat} {r : Reach} {b0 : Nat} {spare : Bool} {held : Nat → Bool} {v : Value} {d : DataW H} {p : List MemPlace}
    (hv : Value.okWide Tryd.prog W r b0 23 v) (h : DataW.Trod enc Tryd.prog W base held spare 23 v d p) : ∃ l, ArgE W v l := by
  obtain ⟨a0, len0, cap0, rfl⟩ := okWide_slice Tryd.underlying23 hv
  obtain ⟨fuel, hf⟩ := h
  exact coreE hf
set_option maxRecDepth 100000 in
theorem open_opening {H : Type} {enc : TypeId × Value → H} {W : World} {base : Nat} {r : Reach} {b0 : Nat} {spare : Bool} {held : Nat → Bool} {v : Value} {d : DataW H} {p : List MemPlace}
    (hv : Value.okWide Tryd.prog W r b0 37 v) (h : DataW.Trod enc Tryd.prog W base held spare 37 v d p) : ∃ a b c ks vs ps, v = .agg #[a, b, c] ∧ ArgI W a ks ∧ ArgS W b vs ∧ ArgS W c ps := by
  obtain ⟨cs, rfl, hsz, _⟩ : ∃ cs, v = .agg cs ∧ cs.size = Tryd.prog.cellsOf 37 ∧ Row.okWide Tryd.prog W r b0 37 cs := by simpa [Value.okWide, Tryd.underlying37] using hv
  rw [show Tryd.prog.cellsOf 37 = 3 by kernel_rfl] at hsz
  obtain ⟨c0, c1, c2, rfl⟩ : ∃ c0 c1 c2, cs = #[c0, c1, c2] := by
    obtain ⟨l⟩ := cs
    match l, hsz with
    | [c0, c1, c2], _ => exact ⟨c0, c1, c2, rfl⟩
  obtain ⟨fuel, hf⟩ := h
  obtain ⟨y0, y1, y2, m, _, _, h0, h1, h2⟩ := Go.Deep.trod_struct3 Tryd.underlying37 hf
  rw [show Tryd.prog.cellsOf 24 = 1 by kernel_rfl] at h0
  rw [show Tryd.prog.cellsOf 35 = 1 by kernel_rfl] at h1 h2
  obtain ⟨l0, k0⟩ := coreI (v := c0) (by simpa [Value.cells] using h0)
  obtain ⟨l1, k1⟩ := coreS (v := c1) (by simpa [Value.cells] using h1)
  obtain ⟨l2, k2⟩ := coreS (v := c2) (by simpa [Value.cells] using h2)
  exact ⟨c0, c1, c2, l0, l1, l2, rfl, k0, k1, k2⟩
end Go.Proofs.YtegahpfmkepfmaaDoor
namespace Go.Proofs.YtegahpfmkepfmaaDoor
open Go.RowKit
theorem min_runB (x m : Nat) (ts : Array TypeId) (t : TypeId) (w : World) (c : Int) (hc : c = m) : (Builtin.min_ ts t #[.int .i64 (x : Int), .int .i64 c]).run Tryd.prog w = .ok (.int .i64 ((min x m : Nat) : Int)) w := by
  rw [run_min_int2]
  subst hc
  congr 2
  split <;> omega
theorem ext_takeB (u : Str) (m : Nat) : (⟨u.toArray⟩ : ByteArray).extract 0 m = ⟨(u.take m).toArray⟩ := by
  apply ByteArray.ext
  apply Array.toList_inj.1
  simp
def fewE (l : List Ent) (n : Nat) : List Ent := (l.take n).map (fun e => (e.1, e.2.take 20))
theorem fewE_len (l : List Ent) (n : Nat) : (fewE l n).length = min n l.length := by simp [fewE]
theorem fewE_small (l : List Ent) (n : Nat) : ∀ e ∈ fewE l n, e.2.length ≤ 20 := by
  intro e he
  simp only [fewE, List.mem_map] at he
  obtain ⟨x, _, rfl⟩ := he
  simp; omega
theorem fewE_i64 (l : List Ent) (n : Nat) (h : ∀ e ∈ l, I64 e.1) : ∀ e ∈ fewE l n, I64 e.1 := by
  intro e he
  simp only [fewE, List.mem_map] at he
  obtain ⟨x, hx, rfl⟩ := he
  exact h x (List.mem_of_mem_take hx)
theorem fewE_snoc (l : List Ent) (i : Nat) (h : i < l.length) : fewE l (i + 1) = fewE l i ++ [(l[i].1, l[i].2.take 20)] := by
  rw [fewE, List.take_succ_eq_append_getElem h, List.map_append]; rfl

set_option maxRecDepth 100000 in
set_option maxHeartbeats 4000000 in
theorem few_any (v : Value) (l : List Ent) (w : World) {W0 : World} (hv : ArgE W0 v l) (hW : W0 = w) :
    Calls Tryd.prog 12 #[v] w (RowE (fewE l 8) w) := by
  subst hW
  obtain ⟨hv, hm, hul⟩ := hv
  have hc := Lib.hid (show ∀ (k : Nat) (hk : k < l.length), _ from fun k hk => SE.at hv k hk)
  obtain ⟨a, N, c, rfl, hN⟩ := hv.shape'
  rw [← hN.out] at hm
  have hul2 := Lib.hid hul
  clear hv hul
  go_enter Tryd.func12, Tryd.ntmps12
  go_wp2_with fail
  go_loopw [3, 4] (fun v iv wr => ∃ i : Nat, i ≤ N ∧ i ≤ 8 ∧ iv = .int .i64 i ∧ (∃ x1 x2 x3, v = .slice x1 x2 x3) ∧ OE wr W0.heap.size v (fewE l i) ∧ Below W0.heap.size W0 wr) (fun _ iv _ => N - (intOf iv).toNat)
  case atStart => exact ⟨0, by omega, by omega, rfl, ⟨_, _, _, rfl⟩, OwnG.nil _ _, Below.refl _ _⟩
  case round =>
    obtain ⟨i, hi, hi8, rfl, ⟨x1, x2, x3, rfl⟩, hown, B⟩ := hrel
    by_cases hlt : i < N
    · by_cases hlt2 : i < 8
      · have hil : i < l.length := by rw [← hN.out]; exact hlt
        obtain ⟨b, o, c', he, hcell⟩ := hc.out i hil
        injection he with he1 he2 he3
        subst he1
        obtain ⟨hcc1, hcc2⟩ := hcell wr B
        have ui := hul2.out l[i] (List.getElem_mem hil)
        have hsn := Lib.hid (fewE_snoc l i hil)
        have hfl : (fewE l i).length ≤ 1000 := by rw [fewE_len]; omega
        have hcellh := Lib.hid hcell
        clear hcell he2 he3
        generalize l[i] = e at *
        obtain ⟨ek, es⟩ := e
        dsimp only at hcc1 hcc2 hsn ui hcellh
        generalize fewE l i = p at *
        have hcut := ext_takeB es (min es.length 20)
        have hcut2 : es.take (min es.length 20) = es.take 20 := by
          rw [List.take_eq_take_iff]; omega
        rw [hcut2] at hcut
        obtain ⟨m, hm2, m1, m2⟩ : ∃ m, Hid (m = min es.length 20) ∧ m ≤ 20 ∧ m ≤ es.length := ⟨_, rfl, by omega, by omega⟩
        have r2 : ∀ ts ty w, (Builtin.min_ ts ty #[.int .i64 (es.length : Int), .int .i64 20]).run Tryd.prog w = .ok (.int .i64 (m : Int)) w := fun ts ty w => by rw [hm2.out]; exact min_runB _ 20 _ _ _ _ rfl
        rw [← hm2.out] at hcut
        generalize es.take 20 = u6 at *
        clear hcut2
        obtain ⟨_, ui⟩ := ui
        unfold maxLen at ui
        have i0 : (0 : Int) ≤ (i : Int) := by omega
        have i1 : (i : Int) < (N : Int) := by omega
        have i8 : (i : Int) < 8 := by omega
        have i2 : (0 : Int) ≤ (m : Int) := by omega
        have i3 : (m : Int) ≤ (es.length : Int) := by omega
        have sK := Lib.hid (show ∀ W, Below W0.heap.size W0 W → W.cell? ⟨b, o + i * 2, none⟩ = some (.int .i64 ek) ∧ W.cell? ⟨b, o + i * 2 + 1, none⟩ = some (.string ⟨es.toArray⟩) from fun W BW => hcellh.out W BW)
        have Bs := B.size
        obtain ⟨v', w9, ⟨c1, c2, c3, rfl⟩, hr2, f1, f4⟩ := snocE2 wr.drew W0.heap.size _ _ ((ek, u6) : Ent) (hown.below (Below.refl _ wr).drew) (by omega) Bs
        have hr2 : (Builtin.append_ #[23, 23] 23 #[.slice x1 x2 x3, .slice (some ⟨wr.heap.size, 0, none⟩) 1 1]).run Tryd.prog (wr.drew.alloc (.cells #[.int .i64 ek, .string ⟨u6.toArray⟩] 46)) = .ok (.slice c1 c2 c3) w9 := hr2
        have B9 := Lib.hid ((B.drew).trans f4)
        have hend := Lib.hid (show OE w9 W0.heap.size (.slice c1 c2 c3) (fewE l (i + 1)) by rw [hsn.out]; exact f1)
        have hS0 := Lib.hid (sK.out wr.drew B.drew)
        clear f1 f4 hown hsn hfl hcellh
        go_wp2_with fail
        refine wp_region_F (fun w' : World => w'.cell? ⟨b, o + i * 2, none⟩ = some (.int .i64 ek) ∧ w'.cell? ⟨b, o + i * 2 + 1, none⟩ = some (.string ⟨es.toArray⟩)) 22 (by kernel_rfl) hS0.out (fun hHeld => ?_)
        refine wpAnyF_take (i := 0) (oi := { dst := some 15, op := Op.move (Operand.tmp 3), type := _, pos := _, after := _, guard := none }) (v := ?_) rfl (by kernel_rfl) (by kernel_rfl) (by kernel_rfl) (by kernel_rfl) (fun _ _ _ h => h) (Or.inl ⟨by rfl, ?_⟩) (by assumption) ?_
        rotate_left
        · ((intro w hSw; (try dsimp only at hSw); go_simp) <;> with_reducible rfl)
        try simp only [Act.put, List.setIfInBounds_toArray, List.set_cons_zero, List.set_cons_succ]
        refine wpAnyF_take (i := 1) (oi := { dst := some 16, op := Op.move (Operand.tmp 0), type := _, pos := _, after := _, guard := none }) (v := ?_) rfl (by kernel_rfl) (by kernel_rfl) (by kernel_rfl) (by kernel_rfl) (fun _ _ _ h => h) (Or.inl ⟨by rfl, ?_⟩) (by assumption) ?_
        rotate_left
        · ((intro w hSw; (try dsimp only at hSw); go_simp) <;> with_reducible rfl)
        try simp only [Act.put, List.setIfInBounds_toArray, List.set_cons_zero, List.set_cons_succ]
        refine wpAnyF_take (i := 2) (oi := { dst := some 17, op := Op.move (Operand.tmp 4), type := _, pos := _, after := _, guard := none }) (v := ?_) rfl (by kernel_rfl) (by kernel_rfl) (by kernel_rfl) (by kernel_rfl) (fun _ _ _ h => h) (Or.inl ⟨by rfl, ?_⟩) (by assumption) ?_
        rotate_left
        · ((intro w hSw; (try dsimp only at hSw); go_simp) <;> with_reducible rfl)
        try simp only [Act.put, List.setIfInBounds_toArray, List.set_cons_zero, List.set_cons_succ]
        refine wpAnyF_take (i := 3) (oi := { dst := some 18, op := Op.indexAddr 23 (Operand.tmp 16) (Operand.tmp 17), type := _, pos := _, after := _, guard := none }) (v := ?_) rfl (by kernel_rfl) (by kernel_rfl) (by kernel_rfl) (by kernel_rfl) (fun _ _ _ h => h) (Or.inl ⟨by rfl, ?_⟩) (by assumption) ?_
        rotate_left
        · ((intro w hSw; (try dsimp only at hSw); go_simp) <;> with_reducible rfl)
        try simp only [Act.put, List.setIfInBounds_toArray, List.set_cons_zero, List.set_cons_succ]
        refine wpAnyF_take (i := 4) (oi := { dst := some 19, op := Op.fieldAddr 46 (Operand.tmp 18) 0, type := _, pos := _, after := _, guard := none }) (v := ?_) rfl (by kernel_rfl) (by kernel_rfl) (by kernel_rfl) (by kernel_rfl) (fun _ _ _ h => h) (Or.inl ⟨by rfl, ?_⟩) (by assumption) ?_
        rotate_left
        · ((intro w hSw; (try dsimp only at hSw); go_simp) <;> with_reducible rfl)
        try simp only [Act.put, List.setIfInBounds_toArray, List.set_cons_zero, List.set_cons_succ]
        refine wpAnyF_take (i := 5) (oi := { dst := some 20, op := Op.load 3 (Operand.tmp 19), type := _, pos := _, after := _, guard := none }) (v := ?_) rfl (by kernel_rfl) (by kernel_rfl) (by kernel_rfl) (by kernel_rfl) (fun _ _ _ h => h) (Or.inl ⟨by rfl, ?_⟩) (by assumption) ?_
        rotate_left
        · ((intro w hSw; (try dsimp only at hSw); go_simp) <;> with_reducible rfl)
        try simp only [Act.put, List.setIfInBounds_toArray, List.set_cons_zero, List.set_cons_succ]
        refine wpAnyF_take (i := 6) (oi := { dst := some 21, op := Op.move (Operand.tmp 0), type := _, pos := _, after := _, guard := none }) (v := ?_) rfl (by kernel_rfl) (by kernel_rfl) (by kernel_rfl) (by kernel_rfl) (fun _ _ _ h => h) (Or.inl ⟨by rfl, ?_⟩) (by assumption) ?_
        rotate_left
        · ((intro w hSw; (try dsimp only at hSw); go_simp) <;> with_reducible rfl)
        try simp only [Act.put, List.setIfInBounds_toArray, List.set_cons_zero, List.set_cons_succ]
        refine wpAnyF_take (i := 7) (oi := { dst := some 22, op := Op.move (Operand.tmp 4), type := _, pos := _, after := _, guard := none }) (v := ?_) rfl (by kernel_rfl) (by kernel_rfl) (by kernel_rfl) (by kernel_rfl) (fun _ _ _ h => h) (Or.inl ⟨by rfl, ?_⟩) (by assumption) ?_
        rotate_left
        · ((intro w hSw; (try dsimp only at hSw); go_simp) <;> with_reducible rfl)
        try simp only [Act.put, List.setIfInBounds_toArray, List.set_cons_zero, List.set_cons_succ]
        refine wpAnyF_take (i := 8) (oi := { dst := some 23, op := Op.indexAddr 23 (Operand.tmp 21) (Operand.tmp 22), type := _, pos := _, after := _, guard := none }) (v := ?_) rfl (by kernel_rfl) (by kernel_rfl) (by kernel_rfl) (by kernel_rfl) (fun _ _ _ h => h) (Or.inl ⟨by rfl, ?_⟩) (by assumption) ?_
        rotate_left
        · ((intro w hSw; (try dsimp only at hSw); go_simp) <;> with_reducible rfl)
        try simp only [Act.put, List.setIfInBounds_toArray, List.set_cons_zero, List.set_cons_succ]
        refine wpAnyF_take (i := 9) (oi := { dst := some 24, op := Op.fieldAddr 46 (Operand.tmp 23) 1, type := _, pos := _, after := _, guard := none }) (v := ?_) rfl (by kernel_rfl) (by kernel_rfl) (by kernel_rfl) (by kernel_rfl) (fun _ _ _ h => h) (Or.inl ⟨by rfl, ?_⟩) (by assumption) ?_
        rotate_left
        · ((intro w hSw; (try dsimp only at hSw); go_simp) <;> with_reducible rfl)
        try simp only [Act.put, List.setIfInBounds_toArray, List.set_cons_zero, List.set_cons_succ]
        refine wpAnyF_take (i := 10) (oi := { dst := some 25, op := Op.load 9 (Operand.tmp 24), type := _, pos := _, after := _, guard := none }) (v := ?_) rfl (by kernel_rfl) (by kernel_rfl) (by kernel_rfl) (by kernel_rfl) (fun _ _ _ h => h) (Or.inl ⟨by rfl, ?_⟩) (by assumption) ?_
        rotate_left
        · ((intro w hSw; (try dsimp only at hSw); go_simp) <;> with_reducible rfl)
        try simp only [Act.put, List.setIfInBounds_toArray, List.set_cons_zero, List.set_cons_succ]
        refine wpAnyF_take (i := 11) (oi := { dst := some 26, op := Op.move (Operand.tmp 0), type := _, pos := _, after := _, guard := none }) (v := ?_) rfl (by kernel_rfl) (by kernel_rfl) (by kernel_rfl) (by kernel_rfl) (fun _ _ _ h => h) (Or.inl ⟨by rfl, ?_⟩) (by assumption) ?_
        rotate_left
        · ((intro w hSw; (try dsimp only at hSw); go_simp) <;> with_reducible rfl)
        try simp only [Act.put, List.setIfInBounds_toArray, List.set_cons_zero, List.set_cons_succ]
        refine wpAnyF_take (i := 12) (oi := { dst := some 27, op := Op.move (Operand.tmp 4), type := _, pos := _, after := _, guard := none }) (v := ?_) rfl (by kernel_rfl) (by kernel_rfl) (by kernel_rfl) (by kernel_rfl) (fun _ _ _ h => h) (Or.inl ⟨by rfl, ?_⟩) (by assumption) ?_
        rotate_left
        · ((intro w hSw; (try dsimp only at hSw); go_simp) <;> with_reducible rfl)
        try simp only [Act.put, List.setIfInBounds_toArray, List.set_cons_zero, List.set_cons_succ]
        refine wpAnyF_take (i := 13) (oi := { dst := some 28, op := Op.indexAddr 23 (Operand.tmp 26) (Operand.tmp 27), type := _, pos := _, after := _, guard := none }) (v := ?_) rfl (by kernel_rfl) (by kernel_rfl) (by kernel_rfl) (by kernel_rfl) (fun _ _ _ h => h) (Or.inl ⟨by rfl, ?_⟩) (by assumption) ?_
        rotate_left
        · ((intro w hSw; (try dsimp only at hSw); go_simp) <;> with_reducible rfl)
        try simp only [Act.put, List.setIfInBounds_toArray, List.set_cons_zero, List.set_cons_succ]
        refine wpAnyF_take (i := 14) (oi := { dst := some 29, op := Op.fieldAddr 46 (Operand.tmp 28) 1, type := _, pos := _, after := _, guard := none }) (v := ?_) rfl (by kernel_rfl) (by kernel_rfl) (by kernel_rfl) (by kernel_rfl) (fun _ _ _ h => h) (Or.inl ⟨by rfl, ?_⟩) (by assumption) ?_
        rotate_left
        · ((intro w hSw; (try dsimp only at hSw); go_simp) <;> with_reducible rfl)
        try simp only [Act.put, List.setIfInBounds_toArray, List.set_cons_zero, List.set_cons_succ]
        refine wpAnyF_take (i := 15) (oi := { dst := some 30, op := Op.load 9 (Operand.tmp 29), type := _, pos := _, after := _, guard := none }) (v := ?_) rfl (by kernel_rfl) (by kernel_rfl) (by kernel_rfl) (by kernel_rfl) (fun _ _ _ h => h) (Or.inl ⟨by rfl, ?_⟩) (by assumption) ?_
        rotate_left
        · ((intro w hSw; (try dsimp only at hSw); go_simp) <;> with_reducible rfl)
        try simp only [Act.put, List.setIfInBounds_toArray, List.set_cons_zero, List.set_cons_succ]
        refine wpAnyF_take (i := 16) (oi := { dst := some 31, op := Op.call { callee := Callee.builtin Builtin.len, args := #[(Operand.tmp 30)], argTypes := #[9] }, type := _, pos := _, after := _, guard := none }) (v := ?_) rfl (by kernel_rfl) (by kernel_rfl) (by kernel_rfl) (by kernel_rfl) (fun _ _ _ h => h) (Or.inl ⟨by rfl, ?_⟩) (by assumption) ?_
        rotate_left
        · ((intro w hSw; (try dsimp only at hSw); go_simp) <;> with_reducible rfl)
        try simp only [Act.put, List.setIfInBounds_toArray, List.set_cons_zero, List.set_cons_succ]
        refine wpAnyF_take (i := 17) (oi := { dst := some 32, op := Op.call { callee := Callee.builtin Builtin.min, args := #[(Operand.tmp 31), (Operand.const (Value.int IntKind.i64 20))], argTypes := #[3, 3] }, type := _, pos := _, after := _, guard := none }) (v := ?_) rfl (by kernel_rfl) (by kernel_rfl) (by kernel_rfl) (by kernel_rfl) (fun _ _ _ h => h) (Or.inl ⟨by rfl, ?_⟩) (by assumption) ?_
        rotate_left
        · ((intro w hSw; (try dsimp only at hSw); go_simp) <;> with_reducible rfl)
        try simp only [Act.put, List.setIfInBounds_toArray, List.set_cons_zero, List.set_cons_succ]
        refine wpAnyF_take (i := 18) (oi := { dst := some 33, op := Op.slice 9 (Operand.tmp 25) none (some (Operand.tmp 32)) none, type := _, pos := _, after := _, guard := none }) (v := ?_) rfl (by kernel_rfl) (by kernel_rfl) (by kernel_rfl) (by kernel_rfl) (fun _ _ _ h => h) (Or.inl ⟨by rfl, ?_⟩) (by assumption) ?_
        rotate_left
        · ((intro w hSw; (try dsimp only at hSw); go_simp) <;> with_reducible rfl)
        try simp only [Act.put, List.setIfInBounds_toArray, List.set_cons_zero, List.set_cons_succ]
        refine wpAnyF_take (i := 19) (oi := { dst := some 34, op := Op.build 46 #[(0, (Operand.tmp 20)), (1, (Operand.tmp 33))], type := _, pos := _, after := _, guard := none }) (v := ?_) rfl (by kernel_rfl) (by kernel_rfl) (by kernel_rfl) (by kernel_rfl) (fun _ _ _ h => h) (Or.inl ⟨by rfl, ?_⟩) (by assumption) ?_
        rotate_left
        · ((intro w hSw; (try dsimp only at hSw); go_simp) <;> with_reducible rfl)
        try simp only [Act.put, List.setIfInBounds_toArray, List.set_cons_zero, List.set_cons_succ]
        refine wpAnyF_ready (rs := [20]) (by kernel_rfl) (by simp) ?_
        refine AllReadyF.cons (o := { dst := some 35, op := Op.buildSlice 23 1 #[(0, (Operand.tmp 34))], type := _, pos := _, after := _, guard := none }) rfl (fun K hK => ?_) ?_
        · skip
          go_simp
          go_wp2_with fail
          refine hK.out _ _ ?_ (fun hHeld => ?_)
          · exact sK.out _ ((B.drew).alloc Bs _)
          clear hK K
          try simp only [Act.put, List.setIfInBounds_toArray, List.set_cons_zero, List.set_cons_succ]
          refine wpAnyF_ready (rs := [21]) (by kernel_rfl) (by simp) ?_
          refine AllReadyF.cons (o := { dst := some 36, op := Op.call { callee := Callee.builtin Builtin.append, args := #[(Operand.tmp 15), (Operand.tmp 35)], argTypes := #[23, 23] }, type := _, pos := _, after := _, guard := none }) rfl (fun K hK => ?_) ?_
          · skip
            refine wp_append_run (.tmp 15) (.tmp 35) 23 rfl (.slice x1 x2 x3) (.slice (some ⟨wr.heap.size, 0, none⟩) 1 1) rfl rfl _ _ hr2 ?_
            refine hK.out _ _ ?_ (fun hHeld => ?_)
            · exact sK.out _ B9.out
            clear hK K
            try simp only [Act.put, List.setIfInBounds_toArray, List.set_cons_zero, List.set_cons_succ]
            refine wpAnyF_ready (rs := [22]) (by kernel_rfl) (by simp) ?_
            refine AllReadyF.last (o := { dst := some 3, op := Op.assign (Operand.tmp 36), type := _, pos := _, after := _, guard := none }) rfl (fun K hK => ?_) ?_
            · skip
              go_simp
              go_wp2_with fail
              refine hK.out _ _ ?_
              clear hK K
              try simp only [Act.put, List.setIfInBounds_toArray, List.set_cons_zero, List.set_cons_succ]
              refine wpAnyF_done (by kernel_rfl) ?_ _
              go_wp2_with fail
              go_roundw
              case rel => exact ⟨i + 1, by omega, by omega, by go_num, ⟨_, _, _, rfl⟩, hend.out, B9.out⟩
              case measure => simp [intOf]; omega
            exact AllReadyF.nil
          exact AllReadyF.nil
        exact AllReadyF.nil
      · obtain rfl : i = 8 := by omega
        go_wp2_with fail
        go_ret
        exact ⟨_, rfl, hown, B⟩
    · have hiN : i = N := by omega
      have e : fewE l i = fewE l 8 := by unfold fewE; rw [List.take_of_length_le (by rw [← hN.out]; omega), List.take_of_length_le (by rw [← hN.out]; omega)]
      rw [e] at hown
      have i1 : ¬ (i : Int) < (N : Int) := by omega
      clear e hiN
      go_wp2_with fail
      go_ret
      exact ⟨_, rfl, hown, B⟩
end Go.Proofs.YtegahpfmkepfmaaDoor
