/- Arguments of pairs, integers, entries, strings, and an opening, opened. -/
import Derived.Test.YtegahpfmkepfmaaDoorW
import Derived.Test.YtegahpfmkepfmaaDoorMad
import Derived.Deep.Slices
import Derived.ChangeSlices
import Derived.Deep.SlicePairs
import Derived.Deep.Strs
namespace Go.Proofs.YtegahpfmkepfmaaDoor
open Go.ChangeShapes Go.WideShapes Go.ChangeAt Go.RowKit
theorem block_of_cell {W : World} {b o : Nat} {sp : Option Nat} {u : Value} (h : W.cell? ⟨b, o, sp⟩ = some u) : sp = none ∧ b < W.heap.size := by
  unfold World.cell? at h
  split at h
  · rename_i cc _ _ hc
    split at h
    · cases h
    · rename_i hs
      refine ⟨by cases sp <;> simp_all, ?_⟩
      rcases Nat.lt_or_ge b W.heap.size with h | h
      · exact h
      · rw [Array.getElem?_eq_none h] at hc; cases hc
  · cases h
theorem wf_i64 {n : Int} (h : (Lit.int .i64 n).wf = true) : I64 n := by
  have := bounds_i64 h
  exact this
set_option maxRecDepth 100000 in
theorem open_pair {H : Type} {enc : TypeId × Value → H} {W : World} {base : Nat} {r : Reach} {b0 : Nat} {spare : Bool} {held : Nat → Bool} {v : Value} {d : DataW H} {p : List MemPlace}
    (hv : Value.okWide Tryd.prog W r b0 65 v) (h : DataW.Trod enc Tryd.prog W base held spare 65 v d p) : ∃ x0 x1 : Int, v = .agg #[.int .i64 x0, .int .i64 x1] ∧ I64 x0 ∧ I64 x1 := by
  obtain ⟨cs, rfl, hsz, _⟩ : ∃ cs, v = .agg cs ∧ cs.size = Tryd.prog.cellsOf 65 ∧ Row.okWide Tryd.prog W r b0 65 cs := by simpa [Value.okWide, Tryd.underlying65] using hv
  rw [show Tryd.prog.cellsOf 65 = 2 by kernel_rfl] at hsz
  obtain ⟨c0, c1, rfl⟩ := Go.Joins.array2 hsz
  obtain ⟨fuel, hf⟩ := h
  obtain ⟨xs, m, _, _, _, hl, hi⟩ := DataW.trod_array Tryd.underlying65 hf
  have hone : Tryd.prog.cellsOf 3 = 1 := by kernel_rfl
  have h0 := hi 0 (by omega)
  have h1 := hi 1 (by omega)
  rw [hone] at h0 h1
  rw [List.getElem?_eq_getElem (by omega)] at h0 h1
  simp [Value.cells] at h0 h1
  obtain ⟨s0, e0, _, l0⟩ := DataW.trod_int Tryd.underlying3 h0
  obtain ⟨s1, e1, _, l1⟩ := DataW.trod_int Tryd.underlying3 h1
  simp at e0 e1
  subst e0 e1
  exact ⟨s0, s1, rfl, wf_i64 l0, wf_i64 l1⟩
set_option maxRecDepth 100000 in
theorem open_argP {H : Type} {enc : TypeId × Value → H} {W : World} {base : Nat} {r : Reach} {b0 : Nat} {spare : Bool} {held : Nat → Bool} {v : Value} {d : DataW H} {p : List MemPlace}
    (hv : Value.okWide Tryd.prog W r b0 22 v) (h : DataW.Trod enc Tryd.prog W base held spare 22 v d p) : ∃ l, ArgP W v l := by
  obtain ⟨a0, len0, cap0, rfl⟩ := okWide_slice Tryd.underlying22 hv
  obtain ⟨fuel, hf⟩ := h
  rcases Go.Deep.open_slice Tryd.underlying22 hf with ⟨hcs, _⟩ | ⟨a, len, cap, m, n, D, Pl, hcs, hb, hl, hm, hmm, hx, hi⟩
  · simp [Value.cells] at hcs
    obtain ⟨rfl, rfl, rfl⟩ := hcs
    exact ⟨[], SLG.nil _ _ _, by simp, by simp⟩
  · simp [Value.cells] at hcs
    obtain ⟨rfl, rfl, rfl⟩ := hcs
    have hle : len0 ≤ m := by rw [hmm]; split <;> omega
    have hC : Tryd.prog.cellsOf 65 = 2 := by kernel_rfl
    have hone : Tryd.prog.cellsOf 3 = 1 := by kernel_rfl
    have key : ∀ i, i < len0 → ∃ x y : Int, W.cell? (a.add (i * 2)) = some (.int .i64 x) ∧ W.cell? (a.add (i * 2 + 1)) = some (.int .i64 y) ∧ I64 x ∧ I64 y := fun i him => by
      obtain ⟨cs', hc, ht'⟩ := hi i (by omega)
      rw [hC] at hc
      obtain ⟨_, hcl, hat⟩ := World.cells?_some hc
      obtain ⟨xs, m', _, _, _, hl2, hi2⟩ := DataW.trod_array Tryd.underlying65 ht'
      obtain ⟨c0, c1, rfl⟩ : ∃ c0 c1, cs' = [c0, c1] := by
        match cs', hcl with
        | [c0, c1], _ => exact ⟨c0, c1, rfl⟩
      have g0 := hi2 0 (by omega)
      have g1 := hi2 1 (by omega)
      rw [hone] at g0 g1
      rw [List.getElem?_eq_getElem (by omega)] at g0 g1
      simp at g0 g1
      obtain ⟨s0, e0, _, l0⟩ := DataW.trod_int Tryd.underlying3 g0
      obtain ⟨s1, e1, _, l1⟩ := DataW.trod_int Tryd.underlying3 g1
      simp at e0 e1
      subst e0 e1
      have k0 := hat 0 (by omega)
      have k1 := hat 1 (by omega)
      rw [Go.Deep.add_add] at k0 k1
      exact ⟨s0, s1, k0, k1, wf_i64 l0, wf_i64 l1⟩
    by_cases h0 : len0 = 0
    · subst h0
      exact ⟨[], .inl ⟨rfl, _, _, rfl⟩, by simp, by simp⟩
    · obtain ⟨x0, _, hx0, _⟩ := key 0 (by omega)
      obtain ⟨b, o, sp⟩ := a
      have hx0' : W.cell? ⟨b, o, sp⟩ = some (.int .i64 x0) := by
        have e : (⟨b, o, sp⟩ : Addr).add (0 * 2) = ⟨b, o, sp⟩ := by unfold Addr.add; split <;> simp_all
        rw [e] at hx0; exact hx0
      obtain ⟨rfl, hbl⟩ := block_of_cell hx0'
      let f : Nat → Int × Int := fun i => if h : i < len0 then ((key i h).choose, (key i h).choose_spec.choose) else (0, 0)
      have hf2 : ∀ i (h : i < len0), W.cell? ⟨b, o + i * 2, none⟩ = some (.int .i64 (f i).1) ∧ W.cell? ⟨b, o + (i * 2 + 1), none⟩ = some (.int .i64 (f i).2) ∧ I64 (f i).1 ∧ I64 (f i).2 := fun i h => by
        have := (key i h).choose_spec.choose_spec
        simp only [f, dif_pos h]
        simpa only [Addr.add_lit] using this
      refine ⟨(List.range len0).map f, .inr ⟨fun e => h0 (by simpa using e), b, o, cap0, by simp, by simpa using hl, hbl, fun j x i u e1 e2 => ?_⟩, by simp; unfold maxLen at hm; omega, fun p hp => ?_⟩
      · have hj : j < len0 := by have := (List.getElem?_eq_some_iff.1 e1).1; simpa using this
        have e1' : f j = x := by simpa [List.getElem?_map, List.getElem?_range hj] using e1
        subst e1'
        obtain ⟨h1, h2, _, _⟩ := hf2 j hj
        match i, e2 with
        | 0, e2 => simp [eP] at e2; subst e2; exact h1
        | 1, e2 => simp [eP] at e2; subst e2; rw [Nat.add_assoc]; exact h2
        | i + 2, e2 => simp [eP] at e2
      · obtain ⟨i, hi3, rfl⟩ := List.mem_map.1 hp
        exact (hf2 i (by simpa using hi3)).2.2
end Go.Proofs.YtegahpfmkepfmaaDoor
namespace Go.Proofs.YtegahpfmkepfmaaDoor
open Go.ChangeShapes Go.WideShapes Go.ChangeAt Go.RowKit
set_option maxRecDepth 100000 in
theorem open_argI {H : Type} {enc : TypeId × Value → H} {W : World} {base : Nat} {r : Reach} {b0 : Nat} {spare : Bool} {held : Nat → Bool} {v : Value} {d : DataW H} {p : List MemPlace}
    (hv : Value.okWide Tryd.prog W r b0 24 v) (h : DataW.Trod enc Tryd.prog W base held spare 24 v d p) : ∃ l, ArgI W v l := by
  obtain ⟨a0, len0, cap0, rfl⟩ := okWide_slice Tryd.underlying24 hv
  obtain ⟨fuel, hf⟩ := h
  rcases Go.Deep.open_slice Tryd.underlying24 hf with ⟨hcs, _⟩ | ⟨a, len, cap, m, n, D, Pl, hcs, hb, hl, hm, hmm, hx, hi⟩
  · simp [Value.cells] at hcs
    obtain ⟨rfl, rfl, rfl⟩ := hcs
    exact ⟨[], SLG.nil _ _ _, by simp, by simp⟩
  · simp [Value.cells] at hcs
    obtain ⟨rfl, rfl, rfl⟩ := hcs
    have hle : len0 ≤ m := by rw [hmm]; split <;> omega
    have hC : Tryd.prog.cellsOf 3 = 1 := by kernel_rfl
    have key : ∀ i, i < len0 → ∃ x : Int, W.cell? (a.add (i * 1)) = some (.int .i64 x) ∧ I64 x := fun i him => by
      obtain ⟨cs', hc, ht'⟩ := hi i (by omega)
      rw [hC] at hc
      obtain ⟨_, hcl, hat⟩ := World.cells?_some hc
      obtain ⟨c0, rfl⟩ : ∃ c0, cs' = [c0] := by
        match cs', hcl with
        | [c0], _ => exact ⟨c0, rfl⟩
      obtain ⟨s0, e0, _, l0⟩ := DataW.trod_int Tryd.underlying3 ht'
      simp at e0
      subst e0
      have k0 := hat 0 (by omega)
      rw [Go.Deep.add_add] at k0
      exact ⟨s0, k0, wf_i64 l0⟩
    by_cases h0 : len0 = 0
    · subst h0
      exact ⟨[], .inl ⟨rfl, _, _, rfl⟩, by simp, by simp⟩
    · obtain ⟨x0, hx0, _⟩ := key 0 (by omega)
      obtain ⟨b, o, sp⟩ := a
      have hx0' : W.cell? ⟨b, o, sp⟩ = some (.int .i64 x0) := by
        have e : (⟨b, o, sp⟩ : Addr).add (0 * 1) = ⟨b, o, sp⟩ := by unfold Addr.add; split <;> simp_all
        rw [e] at hx0; exact hx0
      obtain ⟨rfl, hbl⟩ := block_of_cell hx0'
      let f : Nat → Int := fun i => if h : i < len0 then (key i h).choose else 0
      have hf2 : ∀ i (h : i < len0), W.cell? ⟨b, o + i * 1, none⟩ = some (.int .i64 (f i)) ∧ I64 (f i) := fun i h => by
        have := (key i h).choose_spec
        simp only [f, dif_pos h]
        simpa only [Addr.add_lit] using this
      refine ⟨(List.range len0).map f, .inr ⟨fun e => h0 (by simpa using e), b, o, cap0, by simp, by simpa using hl, hbl, fun j x i u e1 e2 => ?_⟩, by simp; unfold maxLen at hm; omega, fun p hp => ?_⟩
      · have hj : j < len0 := by have := (List.getElem?_eq_some_iff.1 e1).1; simpa using this
        have e1' : f j = x := by simpa [List.getElem?_map, List.getElem?_range hj] using e1
        subst e1'
        obtain ⟨h1, _⟩ := hf2 j hj
        match i, e2 with
        | 0, e2 => simp [eI] at e2; subst e2; exact h1
        | i + 1, e2 => simp [eI] at e2
      · obtain ⟨i, hi3, rfl⟩ := List.mem_map.1 hp
        exact (hf2 i (by simpa using hi3)).2
end Go.Proofs.YtegahpfmkepfmaaDoor
namespace Go.Proofs.YtegahpfmkepfmaaDoor
open Go.ChangeShapes Go.WideShapes Go.ChangeAt Go.RowKit
theorem ba_etaO (s : ByteArray) : s = ⟨s.data.toList.toArray⟩ := by
  apply ByteArray.ext; simp
def ArgE (W : World) (v : Value) (l : List Ent) : Prop := SE W v l ∧ l.length ≤ 9223372036854775807 ∧ ∀ e ∈ l, I64 e.1 ∧ e.2.length ≤ maxLen
def ArgS (W : World) (v : Value) (l : List Str) : Prop := SS W v l ∧ l.length ≤ 9223372036854775807 ∧ ∀ e ∈ l, List.length e ≤ maxLen
set_option maxRecDepth 100000 in
theorem coreE {H : Type} {enc : TypeId × Value → H} {W : World} {base n : Nat} {spare : Nat → Bool} {held : Bool} {v : Value} {y : DataW H × List MemPlace}
    (h : DataW.trod enc Tryd.prog W base spare held n 23 [v] = some y) : ∃ l, ArgE W v l := by
  rcases Go.Deep.open_slice_pairs Tryd.underlying23 Tryd.underlying46 (by kernel_rfl) rfl rfl (by kernel_rfl) (by kernel_rfl) h with ⟨hcs, _⟩ | ⟨a, len0, cap0, m, n', V0, V1, D0, D1, P0, P1, hcs, hb, hl, hm, hmm, hx, hi⟩
  · simp at hcs
    subst hcs
    exact ⟨[], SLG.nil _ _ _, by simp, by simp⟩
  · simp at hcs
    subst hcs
    have hle : len0 ≤ m := by rw [hmm]; split <;> omega
    have key : ∀ i, i < len0 → ∃ (x : Int) (s : Str), W.cell? (a.add (i * 2)) = some (.int .i64 x) ∧ W.cell? (a.add (i * 2 + 1)) = some (.string ⟨s.toArray⟩) ∧ I64 x ∧ s.length ≤ maxLen := fun i him => by
      obtain ⟨k0, k1, t0, t1⟩ := hi i (by omega)
      obtain ⟨s0, e0, _, l0⟩ := DataW.trod_int Tryd.underlying3 t0
      obtain ⟨s1, e1, _, l1⟩ := DataW.trod_string Tryd.underlying9 t1
      simp at e0 e1
      rw [e0] at k0
      rw [e1, ba_etaO s1] at k1
      exact ⟨s0, s1.data.toList, k0, k1, wf_i64 l0, l1⟩
    by_cases h0 : len0 = 0
    · subst h0
      exact ⟨[], .inl ⟨rfl, _, _, rfl⟩, by simp, by simp⟩
    · obtain ⟨x0, _, hx0, _⟩ := key 0 (by omega)
      obtain ⟨b, o, sp⟩ := a
      have hx0' : W.cell? ⟨b, o, sp⟩ = some (.int .i64 x0) := by
        have e : (⟨b, o, sp⟩ : Addr).add (0 * 2) = ⟨b, o, sp⟩ := by unfold Addr.add; split <;> simp_all
        rw [e] at hx0; exact hx0
      obtain ⟨rfl, hbl⟩ := block_of_cell hx0'
      let f : Nat → Ent := fun i => if h : i < len0 then ((key i h).choose, (key i h).choose_spec.choose) else (0, [])
      have hf2 : ∀ i (h : i < len0), W.cell? ⟨b, o + i * 2, none⟩ = some (.int .i64 (f i).1) ∧ W.cell? ⟨b, o + (i * 2 + 1), none⟩ = some (.string ⟨(f i).2.toArray⟩) ∧ I64 (f i).1 ∧ (f i).2.length ≤ maxLen := fun i h => by
        have := (key i h).choose_spec.choose_spec
        simp only [f, dif_pos h]
        simpa only [Addr.add_lit] using this
      refine ⟨(List.range len0).map f, .inr ⟨fun e => h0 (by simpa using e), b, o, cap0, by simp, by simpa using hl, hbl, fun j x i u e1 e2 => ?_⟩, by simp; unfold maxLen at hm; omega, fun p hp => ?_⟩
      · have hj : j < len0 := by have := (List.getElem?_eq_some_iff.1 e1).1; simpa using this
        have e1' : f j = x := by simpa [List.getElem?_map, List.getElem?_range hj] using e1
        subst e1'
        obtain ⟨h1, h2, _, _⟩ := hf2 j hj
        match i, e2 with
        | 0, e2 => simp [eE] at e2; subst e2; exact h1
        | 1, e2 => simp [eE] at e2; subst e2; rw [Nat.add_assoc]; exact h2
        | i + 2, e2 => simp [eE] at e2
      · obtain ⟨i, hi3, rfl⟩ := List.mem_map.1 hp
        exact (hf2 i (by simpa using hi3)).2.2
set_option maxRecDepth 100000 in
theorem coreS {H : Type} {enc : TypeId × Value → H} {W : World} {base n : Nat} {spare : Nat → Bool} {held : Bool} {v : Value} {y : DataW H × List MemPlace}
    (h : DataW.trod enc Tryd.prog W base spare held n 35 [v] = some y) : ∃ l, ArgS W v l := by
  rcases Go.Deep.open_slice1 Tryd.underlying35 (by kernel_rfl) h with ⟨hcs, _⟩ | ⟨a, len0, cap0, m, n', V0, D0, P0, hcs, hb, hl, hm, hmm, hx, hi⟩
  · simp at hcs
    subst hcs
    exact ⟨[], SLG.nil _ _ _, by simp, by simp⟩
  · simp at hcs
    subst hcs
    have hle : len0 ≤ m := by rw [hmm]; split <;> omega
    have key : ∀ i, i < len0 → ∃ (s : Str), W.cell? (a.add i) = some (.string ⟨s.toArray⟩) ∧ s.length ≤ maxLen := fun i him => by
      obtain ⟨k1, t1⟩ := hi i (by omega)
      obtain ⟨s1, e1, _, l1⟩ := DataW.trod_string Tryd.underlying9 t1
      simp at e1
      rw [e1, ba_etaO s1] at k1
      exact ⟨s1.data.toList, k1, l1⟩
    by_cases h0 : len0 = 0
    · subst h0
      exact ⟨[], .inl ⟨rfl, _, _, rfl⟩, by simp, by simp⟩
    · obtain ⟨x0, hx0, _⟩ := key 0 (by omega)
      obtain ⟨b, o, sp⟩ := a
      have hx0' : W.cell? ⟨b, o, sp⟩ = some (.string ⟨x0.toArray⟩) := by
        have e : (⟨b, o, sp⟩ : Addr).add 0 = ⟨b, o, sp⟩ := by unfold Addr.add; split <;> simp_all
        rw [e] at hx0; exact hx0
      obtain ⟨rfl, hbl⟩ := block_of_cell hx0'
      let f : Nat → Str := fun i => if h : i < len0 then (key i h).choose else []
      have hf2 : ∀ i (h : i < len0), W.cell? ⟨b, o + i, none⟩ = some (.string ⟨(f i).toArray⟩) ∧ (f i).length ≤ maxLen := fun i h => by
        have := (key i h).choose_spec
        simp only [f, dif_pos h]
        simpa only [Addr.add_lit] using this
      refine ⟨(List.range len0).map f, .inr ⟨fun e => h0 (by simpa using e), b, o, cap0, by simp, by simpa using hl, hbl, fun j x i u e1 e2 => ?_⟩, by simp; unfold maxLen at hm; omega, fun p hp => ?_⟩
      · have hj : j < len0 := by have := (List.getElem?_eq_some_iff.1 e1).1; simpa using this
        have e1' : f j = x := by simpa [List.getElem?_map, List.getElem?_range hj] using e1
        subst e1'
        obtain ⟨h1, _⟩ := hf2 j hj
        match i, e2 with
        | 0, e2 => simp [eS] at e2; subst e2; simpa using h1
        | i + 1, e2 => simp [eS] at e2
      · obtain ⟨i, hi3, rfl⟩ := List.mem_map.1 hp
        exact (hf2 i (by simpa using hi3)).2
set_option maxRecDepth 100000 in
theorem coreI {H : Type} {enc : TypeId × Value → H} {W : World} {base n : Nat} {spare : Nat → Bool} {held : Bool} {v : Value} {y : DataW H × List MemPlace}
    (h : DataW.trod enc Tryd.prog W base spare held n 24 [v] = some y) : ∃ l, ArgI W v l := by
  rcases Go.Deep.open_slice1 Tryd.underlying24 (by kernel_rfl) h with ⟨hcs, _⟩ | ⟨a, len0, cap0, m, n', V0, D0, P0, hcs, hb, hl, hm, hmm, hx, hi⟩
  · simp at hcs
    subst hcs
    exact ⟨[], SLG.nil _ _ _, by simp, by simp⟩
  · simp at hcs
    subst hcs
    have hle : len0 ≤ m := by rw [hmm]; split <;> omega
    have key : ∀ i, i < len0 → ∃ (s : Int), W.cell? (a.add i) = some (.int .i64 s) ∧ I64 s := fun i him => by
      obtain ⟨k1, t1⟩ := hi i (by omega)
      obtain ⟨s1, e1, _, l1⟩ := DataW.trod_int Tryd.underlying3 t1
      simp at e1
      rw [e1] at k1
      exact ⟨s1, k1, wf_i64 l1⟩
    by_cases h0 : len0 = 0
    · subst h0
      exact ⟨[], .inl ⟨rfl, _, _, rfl⟩, by simp, by simp⟩
    · obtain ⟨x0, hx0, _⟩ := key 0 (by omega)
      obtain ⟨b, o, sp⟩ := a
      have hx0' : W.cell? ⟨b, o, sp⟩ = some (.int .i64 x0) := by
        have e : (⟨b, o, sp⟩ : Addr).add 0 = ⟨b, o, sp⟩ := by unfold Addr.add; split <;> simp_all
        rw [e] at hx0; exact hx0
      obtain ⟨rfl, hbl⟩ := block_of_cell hx0'
      let f : Nat → Int := fun i => if h : i < len0 then (key i h).choose else 0
      have hf2 : ∀ i (h : i < len0), W.cell? ⟨b, o + i, none⟩ = some (.int .i64 (f i)) ∧ I64 (f i) := fun i h => by
        have := (key i h).choose_spec
        simp only [f, dif_pos h]
        simpa only [Addr.add_lit] using this
      refine ⟨(List.range len0).map f, .inr ⟨fun e => h0 (by simpa using e), b, o, cap0, by simp, by simpa using hl, hbl, fun j x i u e1 e2 => ?_⟩, by simp; unfold maxLen at hm; omega, fun p hp => ?_⟩
      · have hj : j < len0 := by have := (List.getElem?_eq_some_iff.1 e1).1; simpa using this
        have e1' : f j = x := by simpa [List.getElem?_map, List.getElem?_range hj] using e1
        subst e1'
        obtain ⟨h1, _⟩ := hf2 j hj
        match i, e2 with
        | 0, e2 => simp [eI] at e2; subst e2; simpa using h1
        | i + 1, e2 => simp [eI] at e2
      · obtain ⟨i, hi3, rfl⟩ := List.mem_map.1 hp
        exact (hf2 i (by simpa using hi3)).2
set_option maxRecDepth 100000 in
theorem open_argE {H : Type} {enc : TypeId × Value → H} {W : World} {base : Nat} {r : Reach} {b0 : Nat} {spare : Bool} {held : Nat → Bool} {v : Value} {d : DataW H} {p : List MemPlace}
    (hv : Value.okWide Tryd.prog W r b0 23 v) (h : DataW.Trod enc Tryd.prog W base held spare 23 v d p) : ∃ l, ArgE W v l := by
  obtain ⟨a0, len0, cap0, rfl⟩ := okWide_slice Tryd.underlying23 hv
  obtain ⟨fuel, hf⟩ := h
  exact coreE hf
set_option maxRecDepth 100000 in
theorem open_opening {H : Type} {enc : TypeId × Value → H} {W : World} {base : Nat} {r : Reach} {b0 : Nat} {spare : Bool} {held : Nat → Bool} {v : Value} {d : DataW H} {p : List MemPlace}
    (hv : Value.okWide Tryd.prog W r b0 37 v) (h : DataW.Trod enc Tryd.prog W base held spare 37 v d p) : ∃ a b c ks vs ps, v = .agg #[a, b, c] ∧ ArgI W a ks ∧ ArgS W b vs ∧ ArgS W c ps := by
  obtain ⟨cs, rfl, hsz, _⟩ : ∃ cs, v = .agg cs ∧ cs.size = Tryd.prog.cellsOf 37 ∧ Row.okWide Tryd.prog W r b0 37 cs := by simpa [Value.okWide, Tryd.underlying37] using hv
  rw [show Tryd.prog.cellsOf 37 = 3 by kernel_rfl] at hsz
  obtain ⟨c0, c1, c2, rfl⟩ : ∃ c0 c1 c2, cs = #[c0, c1, c2] := by
    obtain ⟨l⟩ := cs
    match l, hsz with
    | [c0, c1, c2], _ => exact ⟨c0, c1, c2, rfl⟩
  obtain ⟨fuel, hf⟩ := h
  obtain ⟨y0, y1, y2, m, _, _, h0, h1, h2⟩ := Go.Deep.trod_struct3 Tryd.underlying37 hf
  rw [show Tryd.prog.cellsOf 24 = 1 by kernel_rfl] at h0
  rw [show Tryd.prog.cellsOf 35 = 1 by kernel_rfl] at h1 h2
  obtain ⟨l0, k0⟩ := coreI (v := c0) (by simpa [Value.cells] using h0)
  obtain ⟨l1, k1⟩ := coreS (v := c1) (by simpa [Value.cells] using h1)
  obtain ⟨l2, k2⟩ := coreS (v := c2) (by simpa [Value.cells] using h2)
  exact ⟨c0, c1, c2, l0, l1, l2, rfl, k0, k1, k2⟩
end Go.Proofs.YtegahpfmkepfmaaDoor
