/- An argument that is a list of integers, opened. -/
import Derived.Test.YthmkmjkbfjhffaaVNVYPO
import Derived.Test.YthmkmjkbfjhffaaVHA
set_option maxRecDepth 100000
set_option maxHeartbeats 4000000
namespace Go.Proofs.Ythmkmjkbfjhffaa
open Go.ChangeShapes Go.WideShapes Go.ChangeAt Go.RowKit
def ArgI (W : World) (v : Value) (l : List Int) : Prop := DL W v l ∧ l.length ≤ 9223372036854775807 ∧ ∀ x ∈ l, i64B x
theorem open_ints {H : Type} {enc : TypeId × Value → H} {W : World} {base : Nat} {r : Reach} {b0 : Nat} {spare : Bool} {held : Nat → Bool} {v : Value} {d : DataW H} {p : List MemPlace}
    (hv : Value.okWide Try.prog W r b0 26 v) (h : DataW.Trod enc Try.prog W base held spare 26 v d p) : ∃ l, ArgI W v l := by
  obtain ⟨a0, len0, cap0, rfl⟩ := okWide_slice Try.underlying26 hv
  obtain ⟨fuel, hf⟩ := h
  rcases Go.Deep.open_slice1 Try.underlying26 (by kernel_rfl) hf with ⟨hcs, _⟩ | ⟨a, len, cap, m, n, V, D, Pl, hcs, hb, hl, hm, hmm, hx, hi⟩
  · simp [Value.cells] at hcs
    obtain ⟨rfl, rfl, rfl⟩ := hcs
    exact ⟨[], .inl ⟨rfl, _, _, rfl⟩, by simp, by simp⟩
  · simp [Value.cells] at hcs
    obtain ⟨rfl, rfl, rfl⟩ := hcs
    have hle : len0 ≤ m := by rw [hmm]; split <;> omega
    have key : ∀ i, i < len0 → ∃ x : Int, W.cell? (a.add i) = some (.int .i64 x) ∧ i64B x := fun i him => by
      obtain ⟨h1, h2⟩ := hi i (by omega)
      obtain ⟨s0, e0, _, l0⟩ := DataW.trod_int Try.underlying3 h2
      simp at e0
      exact ⟨s0, by rw [h1, e0], wf_i64 l0⟩
    by_cases h0 : len0 = 0
    · subst h0
      exact ⟨[], .inl ⟨rfl, _, _, rfl⟩, by simp, by simp⟩
    · obtain ⟨x0, hx0, _⟩ := key 0 (by omega)
      obtain ⟨b, o, sp⟩ := a
      have hx0' : W.cell? ⟨b, o, sp⟩ = some (.int .i64 x0) := by
        have e : (⟨b, o, sp⟩ : Addr).add 0 = ⟨b, o, sp⟩ := by unfold Addr.add; split <;> simp_all
        rw [e] at hx0; exact hx0
      obtain ⟨rfl, hbl⟩ := block_of_cell hx0'
      let f : Nat → Int := fun i => if h : i < len0 then (key i h).choose else 0
      have hf2 : ∀ i (_ : i < len0), W.cell? ⟨b, o + i, none⟩ = some (.int .i64 (f i)) ∧ i64B (f i) := fun i h => by
        have := (key i h).choose_spec
        simp only [f, dif_pos h]
        refine ⟨?_, this.2⟩
        have e : (⟨b, o, none⟩ : Addr).add i = ⟨b, o + i, none⟩ := by rw [Addr.add_lit]
        exact (congrArg W.cell? e).symm.trans this.1
      refine ⟨(List.range len0).map f, .inr ⟨fun e => h0 (by simpa using e), b, o, cap0, by simp, by simpa using hl, hbl, fun j x e1 => ?_⟩, by simp; unfold maxLen at hm; omega, fun p hp => ?_⟩
      · have hj : j < len0 := by have := (List.getElem?_eq_some_iff.1 e1).1; simpa using this
        have e1' : f j = x := by simpa [List.getElem?_map, List.getElem?_range hj] using e1
        subst e1'
        exact (hf2 j hj).1
      · obtain ⟨i, hi3, rfl⟩ := List.mem_map.1 hp
        exact (hf2 i (by simpa using hi3)).2
end Go.Proofs.Ythmkmjkbfjhffaa
/- The arguments of the statement, opened: graphs, views, rows. -/
set_option linter.unusedSimpArgs false
set_option linter.unusedVariables false
set_option maxRecDepth 100000
set_option maxHeartbeats 4000000
namespace Go.Proofs.Ythmkmjkbfjhffaa
open Go.ChangeShapes Go.WideShapes Go.ChangeAt Go.RowKit
section
variable {H : Type} {enc : TypeId × Value → H} {W : World} {base : Nat} {spare : Nat → Bool} {held : Bool}
theorem vx_open {n : Nat} {cs : List Value} {x : DataW H × List MemPlace} (h : DataW.trod enc Try.prog W base spare held n 31 cs = some x) : ∃ u : Vx, cs = [.int .i64 u.id, .int .i64 u.side] ∧ i64B u.id ∧ i64B u.side := by
 obtain ⟨xs, m, _, _, hl, hlen, hf⟩ := DataW.trod_struct Try.underlying31 h
 rw [show Try.prog.cellsOf 31 = 2 by kernel_rfl] at hl
 have hlen : xs.length = 2 := hlen
 obtain ⟨c0, c1, rfl⟩ : ∃ c0 c1, cs = [c0, c1] := by
  match cs, hl with
  | [c0, c1], _ => exact ⟨c0, c1, rfl⟩
 have hone : Try.prog.cellsOf 3 = 1 := by kernel_rfl
 have h0 := hf 0 _ rfl
 have h1 := hf 1 _ rfl
 rw [List.getElem?_eq_getElem (by omega)] at h0 h1
 simp [hone] at h0 h1
 obtain ⟨s0, e0, _, l0⟩ := DataW.trod_int Try.underlying3 h0
 obtain ⟨s1, e1, _, l1⟩ := DataW.trod_int Try.underlying3 h1
 simp at e0 e1
 subst e0 e1
 exact ⟨⟨s0, s1⟩, rfl, wf_i64 l0, wf_i64 l1⟩
theorem ed_open {n : Nat} {cs : List Value} {x : DataW H × List MemPlace} (h : DataW.trod enc Try.prog W base spare held n 40 cs = some x) : ∃ u : Ed, cs = (edCells u).toList := by
 obtain ⟨xs, m, _, _, hl, hlen, hf⟩ := DataW.trod_struct Try.underlying40 h
 rw [show Try.prog.cellsOf 40 = 6 by kernel_rfl] at hl
 have hlen : xs.length = 6 := hlen
 obtain ⟨c0, c1, c2, c3, c4, c5, rfl⟩ : ∃ c0 c1 c2 c3 c4 c5, cs = [c0, c1, c2, c3, c4, c5] := by
  match cs, hl with
  | [c0, c1, c2, c3, c4, c5], _ => exact ⟨c0, c1, c2, c3, c4, c5, rfl⟩
 have hone : Try.prog.cellsOf 3 = 1 := by kernel_rfl
 have hon4 : Try.prog.cellsOf 4 = 1 := by kernel_rfl
 have h0 := hf 0 _ rfl
 have h1 := hf 1 _ rfl
 have h2 := hf 2 _ rfl
 have h3 := hf 3 _ rfl
 have h4 := hf 4 _ rfl
 have h5 := hf 5 _ rfl
 rw [List.getElem?_eq_getElem (by omega)] at h0 h1 h2 h3 h4 h5
 simp [hone, hon4] at h0 h1 h2 h3 h4 h5
 obtain ⟨s0, e0, _, l0⟩ := DataW.trod_int Try.underlying3 h0
 obtain ⟨s1, e1, _, l1⟩ := DataW.trod_int Try.underlying3 h1
 obtain ⟨s2, e2, _, l2⟩ := DataW.trod_int Try.underlying3 h2
 obtain ⟨s3, e3, _⟩ := DataW.trod_bool Try.underlying4 h3
 obtain ⟨s4, e4, _, l4⟩ := DataW.trod_int Try.underlying3 h4
 obtain ⟨s5, e5, _, l5⟩ := DataW.trod_int Try.underlying3 h5
 simp at e0 e1 e2 e3 e4 e5
 subst e0 e1 e2 e3 e4 e5
 exact ⟨⟨s0, s1, s2, s3, s4, s5⟩, rfl⟩
theorem int_open {n : Nat} {cs : List Value} {x : DataW H × List MemPlace} (h : DataW.trod enc Try.prog W base spare held n 3 cs = some x) : ∃ u : Int, cs = [.int .i64 u] ∧ i64B u := by
 obtain ⟨s0, e0, _, l0⟩ := DataW.trod_int Try.underlying3 h
 exact ⟨s0, e0, wf_i64 l0⟩
def GenL {α : Type} (W : World) (k : Nat) (cells : α → List Value) (v : Value) (l : List α) : Prop :=
 (l = [] ∧ ∃ a c, v = .slice a 0 c) ∨ (l ≠ [] ∧ ∃ b o c, v = .slice (some ⟨b, o, none⟩) l.length c ∧ l.length ≤ c ∧ b < W.heap.size ∧ ∀ j x, l[j]? = some x → ∀ i u, (cells x)[i]? = some u → W.cell? ⟨b, o + j * k + i, none⟩ = some u)
theorem open_gen {α : Type} (T e : TypeId) (k : Nat) (cells : α → List Value) (okα : α → Prop) (hT : Try.prog.underlying T = some (.slice e)) (hk : Try.prog.cellsOf e = k) (hk0 : 0 < k) (hlen : ∀ x, (cells x).length = k)
  (parse : ∀ n cs y, DataW.trod enc Try.prog W base spare held n e cs = some y → ∃ x, cs = cells x ∧ okα x) {fuel : Nat} {cs : List Value} {x : DataW H × List MemPlace} (h : DataW.trod enc Try.prog W base spare held fuel T cs = some x) :
  ∃ (l : List α) (a : Option Addr) (c : Nat), cs = [.slice a l.length c] ∧ l.length ≤ c ∧ GenL W k cells (.slice a l.length c) l ∧ l.length ≤ 9223372036854775807 ∧ ∀ x ∈ l, okα x := by
 rcases Go.Deep.open_slice hT h with ⟨rfl, _⟩ | ⟨a, len, cap, m, n, D, Pl, rfl, hb, hl, hm, hmm, hx, hi⟩
 · exact ⟨[], none, 0, rfl, Nat.le_refl _, .inl ⟨rfl, _, _, rfl⟩, by simp, by simp⟩
 · have hle : len ≤ m := by rw [hmm]; split <;> omega
   have key : ∀ i, i < len → ∃ x : α, (∀ j u, (cells x)[j]? = some u → W.cell? (a.add (i * k + j)) = some u) ∧ okα x := fun i him => by
    obtain ⟨cs', hc, ht'⟩ := hi i (by omega)
    rw [hk] at hc
    obtain ⟨_, hcl, hat⟩ := World.cells?_some hc
    obtain ⟨x, rfl, hok⟩ := parse _ _ _ ht'
    refine ⟨x, fun j u e => ?_, hok⟩
    have hj : j < k := by have := (List.getElem?_eq_some_iff.1 e).1; rw [hlen] at this; exact this
    have k' := hat j (by omega)
    rw [Go.Deep.add_add] at k'
    rw [k']; exact e
   by_cases h0 : len = 0
   · subst h0
     exact ⟨[], some a, cap, rfl, Nat.zero_le _, .inl ⟨rfl, _, _, rfl⟩, by simp, by simp⟩
   · obtain ⟨x0, hx0, _⟩ := key 0 (by omega)
     obtain ⟨b, o, sp⟩ := a
     obtain ⟨u0, hu0⟩ : ∃ u, (cells x0)[0]? = some u := ⟨(cells x0)[0]'(by rw [hlen]; exact hk0), List.getElem?_eq_getElem _⟩
     have hx0' : W.cell? ⟨b, o, sp⟩ = some u0 := by
      have h1 := hx0 0 _ hu0
      have e : (⟨b, o, sp⟩ : Addr).add (0 * k + 0) = ⟨b, o, sp⟩ := by rw [Nat.zero_mul]; unfold Addr.add; split <;> simp_all
      rw [e] at h1; exact h1
     obtain ⟨rfl, hbl⟩ := block_of_cell hx0'
     have hne : Nonempty α := ⟨x0⟩
     let f : Nat → α := fun i => if h : i < len then (key i h).choose else x0
     have hf2 : ∀ i (_ : i < len), (∀ j u, (cells (f i))[j]? = some u → W.cell? ⟨b, o + i * k + j, none⟩ = some u) ∧ okα (f i) := fun i h => by
      have := (key i h).choose_spec
      simp only [f, dif_pos h]
      refine ⟨fun j u e => ?_, this.2⟩
      have h3 := this.1 j u e
      rw [Addr.add_lit] at h3
      rw [Nat.add_assoc]; exact h3
     have hll : ((List.range len).map f).length = len := by simp
     refine ⟨(List.range len).map f, some ⟨b, o, none⟩, cap, by rw [hll], by rw [hll]; exact hl, .inr ⟨fun e => h0 (by simpa using e), b, o, cap, rfl, by rw [hll]; exact hl, hbl, fun j x e1 i u e2 => ?_⟩, by rw [hll]; unfold maxLen at hm; omega, fun p hp => ?_⟩
     · have hj : j < len := by have := (List.getElem?_eq_some_iff.1 e1).1; rw [hll] at this; exact this
       have e1' : f j = x := by simpa [List.getElem?_map, List.getElem?_range hj] using e1
       subst e1'
       exact (hf2 j hj).1 i u e2
     · obtain ⟨i, hi3, rfl⟩ := List.mem_map.1 hp
       exact (hf2 i (by simpa using hi3)).2
theorem GenL.V {v : Value} {l : List Vx} (h : GenL W 2 (fun u : Vx => [.int .i64 u.id, .int .i64 u.side]) v l) : VL W v l := by
 rcases h with h | ⟨h0, b, o, c, h1, h2, h3, h4⟩
 · exact .inl h
 · exact .inr ⟨h0, b, o, c, h1, h2, h3, fun j x e => ⟨h4 j x e 0 _ rfl, h4 j x e 1 _ rfl⟩⟩
theorem GenL.E {v : Value} {l : List Ed} (h : GenL W 6 (fun u : Ed => (edCells u).toList) v l) : EL W v l := by
 rcases h with h | ⟨h0, b, o, c, h1, h2, h3, h4⟩
 · exact .inl h
 · exact .inr ⟨h0, b, o, c, h1, h2, h3, fun j x e => ⟨h4 j x e 0 _ rfl, h4 j x e 1 _ rfl, h4 j x e 2 _ rfl, h4 j x e 3 _ rfl, h4 j x e 4 _ rfl, h4 j x e 5 _ rfl⟩⟩
theorem GenL.D {v : Value} {l : List Int} (h : GenL W 1 (fun u : Int => [.int .i64 u]) v l) : DL W v l := by
 rcases h with h | ⟨h0, b, o, c, h1, h2, h3, h4⟩
 · exact .inl h
 · exact .inr ⟨h0, b, o, c, h1, h2, h3, fun j x e => by have := h4 j x e 0 _ rfl; simpa using this⟩
/-- a graph as an argument -/
def ArgG (W : World) (v : Value) (g : Gr) (r1 r3 r5 : Option Addr) (r2 r4 r6 : Nat) : Prop := v = .agg #[.slice r1 g.vs.length r2, .slice r3 g.es.length r4, .slice r5 g.ds.length r6] ∧ VL W (.slice r1 g.vs.length r2) g.vs ∧ EL W (.slice r3 g.es.length r4) g.es ∧ DL W (.slice r5 g.ds.length r6) g.ds ∧ (g.vs.length ≤ 9223372036854775807 ∧ g.es.length ≤ 9223372036854775807 ∧ g.ds.length ≤ 9223372036854775807)
theorem open_graph {r : Reach} {b0 : Nat} {v : Value} {d : DataW H} {p : List MemPlace} (hv : Value.okWide Try.prog W r b0 28 v) (h : DataW.Trod enc Try.prog W base spare held 28 v d p) : ∃ g r1 r3 r5 r2 r4 r6, ArgG W v g r1 r3 r5 r2 r4 r6 := by
 obtain ⟨cs, rfl, hsz⟩ := okWide_struct Try.underlying28 hv
 rw [show Try.prog.cellsOf 28 = 3 by kernel_rfl] at hsz
 obtain ⟨c0, c1, c2, rfl⟩ : ∃ c0 c1 c2, cs = #[c0, c1, c2] := by
  obtain ⟨l⟩ := cs
  match l, hsz with
  | [c0, c1, c2], _ => exact ⟨c0, c1, c2, rfl⟩
 obtain ⟨fuel, hf⟩ := h
 obtain ⟨xs, m, _, _, _, hlen, hi⟩ := DataW.trod_struct Try.underlying28 hf
 have hlen : xs.length = 3 := hlen
 have o22 : Try.prog.cellsOf 24 = 1 := by kernel_rfl
 have o23 : Try.prog.cellsOf 25 = 1 := by kernel_rfl
 have o24 : Try.prog.cellsOf 26 = 1 := by kernel_rfl
 have h0 := hi 0 _ rfl
 have h1 := hi 1 _ rfl
 have h2 := hi 2 _ rfl
 rw [List.getElem?_eq_getElem (by omega)] at h0 h1 h2
 simp [o22, o23, o24, Value.cells] at h0 h1 h2
 obtain ⟨l0, a0, k0, e0, q0, g0, b0', _⟩ := open_gen 24 31 2 (fun u : Vx => [.int .i64 u.id, .int .i64 u.side]) (fun _ => True) Try.underlying24 (by kernel_rfl) (by omega) (fun _ => rfl) (fun n cs y hy => by obtain ⟨u, hu, _⟩ := vx_open hy; exact ⟨u, hu, trivial⟩) h0
 obtain ⟨l1, a1, k1, e1, q1, g1, b1', _⟩ := open_gen 25 40 6 (fun u : Ed => (edCells u).toList) (fun _ => True) Try.underlying25 (by kernel_rfl) (by omega) (fun _ => rfl) (fun n cs y hy => by obtain ⟨u, hu⟩ := ed_open hy; exact ⟨u, hu, trivial⟩) h1
 obtain ⟨l2, a2, k2, e2, q2, g2, b2', _⟩ := open_gen 26 3 1 (fun u : Int => [.int .i64 u]) (fun _ => True) Try.underlying26 (by kernel_rfl) (by omega) (fun _ => rfl) (fun n cs y hy => by obtain ⟨u, hu, _⟩ := int_open hy; exact ⟨u, hu, trivial⟩) h2
 simp at e0 e1 e2
 subst e0 e1 e2
 exact ⟨⟨l0, l1, l2⟩, a0, a1, a2, k0, k1, k2, rfl, g0.V, g1.E, g2.D, ⟨b0', b1', b2'⟩⟩
theorem nm_open {n : Nat} {cs : List Value} {x : DataW H × List MemPlace} (h : DataW.trod enc Try.prog W base spare held n 54 cs = some x) : ∃ p : Nm × Value, cs = [.int .i64 p.1.1, p.2] ∧ DL W p.2 p.1.2 ∧ p.1.2.length ≤ 9223372036854775807 ∧ ∀ v ∈ p.1.2, i64B v := by
 obtain ⟨xs, m, _, _, hl, hlen, hf⟩ := DataW.trod_struct Try.underlying54 h
 rw [show Try.prog.cellsOf 54 = 2 by kernel_rfl] at hl
 have hlen : xs.length = 2 := hlen
 obtain ⟨c0, c1, rfl⟩ : ∃ c0 c1, cs = [c0, c1] := by
  match cs, hl with
  | [c0, c1], _ => exact ⟨c0, c1, rfl⟩
 have hone : Try.prog.cellsOf 3 = 1 := by kernel_rfl
 have ho26 : Try.prog.cellsOf 26 = 1 := by kernel_rfl
 have h0 := hf 0 _ rfl
 have h1 := hf 1 _ rfl
 rw [List.getElem?_eq_getElem (by omega)] at h0 h1
 simp [hone, ho26] at h0 h1
 obtain ⟨s0, e0, _, l0⟩ := DataW.trod_int Try.underlying3 h0
 obtain ⟨l1, a1, k1, e1, q1, g1, b1', w1⟩ := open_gen 26 3 1 (fun u : Int => [.int .i64 u]) i64B Try.underlying26 (by kernel_rfl) (by omega) (fun _ => rfl) (fun n cs y hy => int_open hy) h1
 simp at e0 e1
 subst e0 e1
 exact ⟨((s0, l1), .slice a1 l1.length k1), rfl, g1.D, b1', w1⟩
theorem GenL.N {v : Value} {l : List (Nm × Value)} (h : GenL W 2 (fun p : Nm × Value => [.int .i64 p.1.1, p.2]) v l) (hok : ∀ p ∈ l, DL W p.2 p.1.2) : NL W v (l.map (·.1)) := by
 rcases h with ⟨rfl, a, c, rfl⟩ | ⟨h0, b, o, c, h1, h2, h3, h4⟩
 · exact .inl ⟨rfl, a, c, rfl⟩
 · refine .inr ⟨by simpa using h0, b, o, c, by rw [List.length_map]; exact h1, by rw [List.length_map]; exact h2, h3, fun j x hx => ?_⟩
   rw [List.getElem?_map] at hx
   cases hp : l[j]? with
   | none => rw [hp] at hx; cases hx
   | some p =>
     rw [hp] at hx; cases hx
     exact ⟨h4 j p hp 0 _ rfl, p.2, h4 j p hp 1 _ rfl, hok p (List.mem_of_getElem? hp)⟩
/-- a view as an argument -/
def ArgV (W : World) (v : Value) (n0 sd0 : Int) (D0 : Nat) (es0 : List Ed) (L0 : List Nm) (d1 v1 l1 : Option Addr) (d3 v2 l2 : Nat) : Prop := v = .agg #[.int .i64 n0, .int .i64 sd0, .slice d1 D0 d3, .slice v1 es0.length v2, .slice l1 L0.length l2] ∧ EL W (.slice v1 es0.length v2) es0 ∧ NL W (.slice l1 L0.length l2) L0 ∧ (es0.length ≤ 9223372036854775807 ∧ L0.length ≤ 9223372036854775807 ∧ ∀ x ∈ L0, x.2.length ≤ 9223372036854775807 ∧ ∀ v ∈ x.2, v ≤ 9223372036854775807)
theorem open_view {r : Reach} {b0 : Nat} {v : Value} {d : DataW H} {p : List MemPlace} (hv : Value.okWide Try.prog W r b0 51 v) (h : DataW.Trod enc Try.prog W base spare held 51 v d p) : ∃ n0 sd0 D0 es0 L0 d1 v1 l1 d3 v2 l2, ArgV W v n0 sd0 D0 es0 L0 d1 v1 l1 d3 v2 l2 := by
 obtain ⟨cs, rfl, hsz⟩ := okWide_struct Try.underlying51 hv
 rw [show Try.prog.cellsOf 51 = 5 by kernel_rfl] at hsz
 obtain ⟨c0, c1, c2, c3, c4, rfl⟩ : ∃ c0 c1 c2 c3 c4, cs = #[c0, c1, c2, c3, c4] := by
  obtain ⟨l⟩ := cs
  match l, hsz with
  | [c0, c1, c2, c3, c4], _ => exact ⟨c0, c1, c2, c3, c4, rfl⟩
 obtain ⟨fuel, hf⟩ := h
 obtain ⟨xs, m, _, _, _, hlen, hi⟩ := DataW.trod_struct Try.underlying51 hf
 have hlen : xs.length = 4 := hlen
 have o31 : Try.prog.cellsOf 31 = 2 := by kernel_rfl
 have o25 : Try.prog.cellsOf 25 = 1 := by kernel_rfl
 have o26 : Try.prog.cellsOf 26 = 1 := by kernel_rfl
 have o46 : Try.prog.cellsOf 46 = 1 := by kernel_rfl
 have h0 := hi 0 _ rfl
 have h1 := hi 1 _ rfl
 have h2 := hi 2 _ rfl
 have h3 := hi 3 _ rfl
 rw [List.getElem?_eq_getElem (by omega)] at h0 h1 h2 h3
 simp [o31, o25, o26, o46, Value.cells] at h0 h1 h2 h3
 obtain ⟨u0, e0, _⟩ := vx_open h0
 obtain ⟨l1, a1, k1, e1, q1, g1, b1', _⟩ := open_gen 26 3 1 (fun u : Int => [.int .i64 u]) (fun _ => True) Try.underlying26 (by kernel_rfl) (by omega) (fun _ => rfl) (fun n cs y hy => by obtain ⟨u, hu, _⟩ := int_open hy; exact ⟨u, hu, trivial⟩) h1
 obtain ⟨l2, a2, k2, e2, q2, g2, b2', _⟩ := open_gen 25 40 6 (fun u : Ed => (edCells u).toList) (fun _ => True) Try.underlying25 (by kernel_rfl) (by omega) (fun _ => rfl) (fun n cs y hy => by obtain ⟨u, hu⟩ := ed_open hy; exact ⟨u, hu, trivial⟩) h2
 obtain ⟨l3, a3, k3, e3, q3, g3, b3', w3⟩ := open_gen 46 54 2 (fun p : Nm × Value => [.int .i64 p.1.1, p.2]) (fun p => DL W p.2 p.1.2 ∧ p.1.2.length ≤ 9223372036854775807 ∧ ∀ v ∈ p.1.2, i64B v) Try.underlying46 (by kernel_rfl) (by omega) (fun _ => rfl) (fun n cs y hy => nm_open hy) h3
 simp at e0 e1 e2 e3
 obtain ⟨rfl, rfl⟩ := e0
 subst e1 e2 e3
 have hN := g3.N (fun p hp => (w3 p hp).1)
 rw [show l3.length = (l3.map (·.1)).length by simp] at hN ⊢
 refine ⟨u0.id, u0.side, _, l2, l3.map (·.1), a1, a2, a3, k1, k2, k3, rfl, g2.E, hN, b2', by simpa using b3', fun x hx => ?_⟩
 obtain ⟨p, hp, rfl⟩ := List.mem_map.1 hx
 exact ⟨(w3 p hp).2.1, fun v hv => by have := (w3 p hp).2.2 v hv; unfold i64B at this; omega⟩
theorem t3_open {n : Nat} {cs : List Value} {x : DataW H × List MemPlace} (h : DataW.trod enc Try.prog W base spare held n 64 cs = some x) : ∃ t : T3, cs = [.int .i64 t.1, .int .i64 t.2.1, .int .i64 t.2.2] ∧ i64T t := by
 obtain ⟨xs, m, _, _, hcl, hl, hi⟩ := DataW.trod_array Try.underlying64 h
 rw [show Try.prog.cellsOf 64 = 3 by kernel_rfl] at hcl
 obtain ⟨c0, c1, c2, rfl⟩ : ∃ c0 c1 c2, cs = [c0, c1, c2] := by
  match cs, hcl with
  | [c0, c1, c2], _ => exact ⟨c0, c1, c2, rfl⟩
 have hone : Try.prog.cellsOf 3 = 1 := by kernel_rfl
 have h0 := hi 0 (by omega)
 have h1 := hi 1 (by omega)
 have h2 := hi 2 (by omega)
 rw [hone] at h0 h1 h2
 rw [List.getElem?_eq_getElem (by omega)] at h0 h1 h2
 simp at h0 h1 h2
 obtain ⟨s0, e0, _, l0⟩ := DataW.trod_int Try.underlying3 h0
 obtain ⟨s1, e1, _, l1⟩ := DataW.trod_int Try.underlying3 h1
 obtain ⟨s2, e2, _, l2⟩ := DataW.trod_int Try.underlying3 h2
 simp at e0 e1 e2
 subst e0 e1 e2
 exact ⟨(s0, s1, s2), rfl, wf_i64 l0, wf_i64 l1, wf_i64 l2⟩
theorem open_arg3 {r : Reach} {b0 : Nat} {v : Value} {d : DataW H} {p : List MemPlace} (hv : Value.okWide Try.prog W r b0 57 v) (h : DataW.Trod enc Try.prog W base spare held 57 v d p) : ∃ l : List T3, L3 W v l ∧ l.length ≤ 9223372036854775807 ∧ ∀ t ∈ l, i64T t := by
 obtain ⟨a0, len0, cap0, rfl⟩ := okWide_slice Try.underlying57 hv
 obtain ⟨fuel, hf⟩ := h
 obtain ⟨l, a, c, e, q, g, b', w⟩ := open_gen 57 64 3 (fun t : T3 => [.int .i64 t.1, .int .i64 t.2.1, .int .i64 t.2.2]) i64T Try.underlying57 (by kernel_rfl) (by omega) (fun _ => rfl) (fun n cs y hy => t3_open hy) hf
 simp [Value.cells] at e
 obtain ⟨rfl, rfl, rfl⟩ := e
 refine ⟨l, ?_, b', w⟩
 rcases g with h | ⟨h0, b, o, c, h1, h2, h3, h4⟩
 · exact .inl h
 · exact .inr ⟨h0, b, o, c, h1, h2, h3, fun j x e => ⟨h4 j x e 0 _ rfl, h4 j x e 1 _ rfl, h4 j x e 2 _ rfl⟩⟩
end
end Go.Proofs.Ythmkmjkbfjhffaa
