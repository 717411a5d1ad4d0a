/- Contracts and facts. -/
import Derived.Deep.LoopGhost
import Derived.Handy
import Derived.WalkMore
import Derived.BigRegion
import Derived.Laws.EntriesVeiled
import Derived.Test.YtlnbobclbaieoaaVJA
set_option linter.unusedSimpArgs false
set_option maxRecDepth 100000
set_option maxHeartbeats 4000000
namespace Go.Proofs.Ytlnbobclbaieoaa
open Go.RowKit
theorem below_setRow' {W W' : World} {B b : Nat} (h : Below B W W') (hb : B ≤ b) (cs : Array Value) : Below B W (W'.setRow b cs) :=
  h.trans ⟨rfl, rfl, rfl, by simp, fun k hk => setRow_other W' b k _ (by omega)⟩
theorem mmin_run (x m : Nat) (ts : Array TypeId) (t : TypeId) (w : World) (c : Int) (hc : c = m) : (Builtin.min_ ts t #[.int .i64 (x : Int), .int .i64 c]).run Try.prog w = .ok (.int .i64 ((min x m : Nat) : Int)) w := by
 rw [run_min_int2]
 subst hc
 congr 2
 split <;> omega
theorem VL.upto {W : World} {a : Option Addr} {c : Nat} {l : List Vx} (h : VL W (.slice a l.length c) l) (m : Nat) : VL W (.slice a (min l.length m) c) (l.take m) ∧ l.length ≤ c := by
 rcases h with ⟨rfl, _⟩ | ⟨h0, b, o, c', e, h2, h3, h4⟩
 · exact ⟨.inl ⟨by simp, a, c, by simp⟩, Nat.zero_le _⟩
 · injection e with e1 _ e3
   subst e1 e3
   refine ⟨?_, h2⟩
   by_cases hm : m = 0
   · subst hm; exact .inl ⟨by simp, some ⟨b, o, none⟩, c, by simp⟩
   · refine .inr ⟨?_, b, o, c, by rw [List.length_take, Nat.min_comm], by rw [List.length_take]; omega, h3, fun j x hx => ?_⟩
     · intro e; have h5 := congrArg List.length e; rw [List.length_take, List.length_nil] at h5; have h6 : l.length ≠ 0 := fun q => h0 (List.length_eq_zero_iff.1 q); omega
     · have hj : j < m := by have := (List.getElem?_eq_some_iff.1 hx).1; rw [List.length_take] at this; omega
       rw [List.getElem?_take_of_lt hj] at hx
       exact h4 j x hx
theorem EL.upto {W : World} {a : Option Addr} {c : Nat} {l : List Ed} (h : EL W (.slice a l.length c) l) (m : Nat) : EL W (.slice a (min l.length m) c) (l.take m) ∧ l.length ≤ c := by
 rcases h with ⟨rfl, _⟩ | ⟨h0, b, o, c', e, h2, h3, h4⟩
 · exact ⟨.inl ⟨by simp, a, c, by simp⟩, Nat.zero_le _⟩
 · injection e with e1 _ e3
   subst e1 e3
   refine ⟨?_, h2⟩
   by_cases hm : m = 0
   · subst hm; exact .inl ⟨by simp, some ⟨b, o, none⟩, c, by simp⟩
   · refine .inr ⟨?_, b, o, c, by rw [List.length_take, Nat.min_comm], by rw [List.length_take]; omega, h3, fun j x hx => ?_⟩
     · intro e; have h5 := congrArg List.length e; rw [List.length_take, List.length_nil] at h5; have h6 : l.length ≠ 0 := fun q => h0 (List.length_eq_zero_iff.1 q); omega
     · have hj : j < m := by have := (List.getElem?_eq_some_iff.1 hx).1; rw [List.length_take] at this; omega
       rw [List.getElem?_take_of_lt hj] at hx
       exact h4 j x hx
theorem DL.upto {W : World} {a : Option Addr} {c : Nat} {l : List Int} (h : DL W (.slice a l.length c) l) (m : Nat) : DL W (.slice a (min l.length m) c) (l.take m) ∧ l.length ≤ c := by
 rcases h with ⟨rfl, _⟩ | ⟨h0, b, o, c', e, h2, h3, h4⟩
 · exact ⟨.inl ⟨by simp, a, c, by simp⟩, Nat.zero_le _⟩
 · injection e with e1 _ e3
   subst e1 e3
   refine ⟨?_, h2⟩
   by_cases hm : m = 0
   · subst hm; exact .inl ⟨by simp, some ⟨b, o, none⟩, c, by simp⟩
   · refine .inr ⟨?_, b, o, c, by rw [List.length_take, Nat.min_comm], by rw [List.length_take]; omega, h3, fun j x hx => ?_⟩
     · intro e; have h5 := congrArg List.length e; rw [List.length_take, List.length_nil] at h5; have h6 : l.length ≠ 0 := fun q => h0 (List.length_eq_zero_iff.1 q); omega
     · have hj : j < m := by have := (List.getElem?_eq_some_iff.1 hx).1; rw [List.length_take] at this; omega
       rw [List.getElem?_take_of_lt hj] at hx
       exact h4 j x hx
def fewG (g : Gr) : Gr := ⟨g.vs.take 6, g.es.take 8, g.ds.take 4⟩
theorem few_x (a1 b1 c1 : Option Addr) (n1 a2 n2 b2 n3 c2 : Nat) (w : World) (e1 : n1 ≤ a2) (e2 : n2 ≤ b2) (e3 : n3 ≤ c2) (hs : n1 ≤ 9223372036854775807 ∧ n2 ≤ 9223372036854775807 ∧ n3 ≤ 9223372036854775807) :
  Calls Try.prog 21 #[.agg #[.slice a1 n1 a2, .slice b1 n2 b2, .slice c1 n3 c2]] w fun e w' => e = .returned (.agg #[.slice a1 (min n1 6) a2, .slice b1 (min n2 8) b2, .slice c1 (min n3 4) c2]) ∧ Below w.heap.size w w' := by
 obtain ⟨w1, hw1⟩ : ∃ w1, w1 = (w.alloc (.cells #[.slice a1 n1 a2, .slice b1 n2 b2, .slice c1 n3 c2] 28)).alloc (.cells #[.slice none 0 0, .slice none 0 0, .slice none 0 0] 28) := ⟨_, rfl⟩
 have hB := Lib.hid (show Below w.heap.size w w1 by rw [hw1]; exact ((Below.refl _ w).alloc (Nat.le_refl _) _).alloc (by simp) _)
 have hbx := Lib.hid (show w1.heap[w.heap.size]? = some (.cells #[.slice a1 n1 a2, .slice b1 n2 b2, .slice c1 n3 c2] 28 (0, 0)) by rw [hw1]; exact al_keep1 (heap_alloc_new w _))
 have hrs := Lib.hid (show w1.heap[w.heap.size + 1]? = some (.cells #[.slice none 0 0, .slice none 0 0, .slice none 0 0] 28 (0, 0)) by
  rw [hw1]
  have := heap_alloc_new (w.alloc (.cells #[.slice a1 n1 a2, .slice b1 n2 b2, .slice c1 n3 c2] 28)) (.cells #[.slice none 0 0, .slice none 0 0, .slice none 0 0] 28)
  simpa using this)
 have hBf := Lib.hid (show Below w.heap.size w (w1.drew.setRow (w.heap.size + 1) #[.slice a1 (min n1 6) a2, .slice b1 (min n2 8) b2, .slice c1 (min n3 4) c2]) from below_setRow' hB.out.drew (by omega) _)
 replace hw1 := Lib.hid hw1
 obtain ⟨s1, s2, s3⟩ := hs
 have m1 : ∀ ts t w, (Builtin.min_ ts t #[.int .i64 (n1 : Int), .int .i64 6]).run Try.prog w = .ok (.int .i64 ((min n1 6 : Nat) : Int)) w := fun ts t w => mmin_run n1 6 ts t w 6 rfl
 have m2 : ∀ ts t w, (Builtin.min_ ts t #[.int .i64 (n2 : Int), .int .i64 8]).run Try.prog w = .ok (.int .i64 ((min n2 8 : Nat) : Int)) w := fun ts t w => mmin_run n2 8 ts t w 8 rfl
 have m3 : ∀ ts t w, (Builtin.min_ ts t #[.int .i64 (n3 : Int), .int .i64 4]).run Try.prog w = .ok (.int .i64 ((min n3 4 : Nat) : Int)) w := fun ts t w => mmin_run n3 4 ts t w 4 rfl
 have p1 : min n1 6 ≤ a2 := by omega
 have p2 : min n2 8 ≤ b2 := by omega
 have p3 : min n3 4 ≤ c2 := by omega
 generalize min n1 6 = k1 at *
 generalize min n2 8 = k2 at *
 generalize min n3 4 = k3 at *
 go_enter Try.func21, Try.ntmps21
 go_upto_region 1 with (fail)
 rw [← hw1.out]
 refine wp_region_F (fun W => Below w1.heap.size w1 W) 22 (by kernel_rfl) (Below.refl _ w1).drew (fun hHeld => ?_)
 have hcell := Lib.hid (fun W (BB : Below w1.heap.size w1 W) => box3g ((BB.block _ (by have := hB.out.size; have := (Array.getElem?_eq_some_iff.1 hbx.out).1; omega)).trans hbx.out))
 refine tkP 0 rfl ?_
 refine tkP 1 rfl ?_ (by (intro w h; obtain ⟨u0, u1, u2⟩ := hcell.out w h; clear h; go_simp) <;> with_reducible rfl)
 refine tkP 2 rfl ?_
 refine tkP 3 rfl ?_ (by (intro w h; obtain ⟨u0, u1, u2⟩ := hcell.out w h; clear h; go_simp) <;> with_reducible rfl)
 refine tkP 4 rfl ?_
 refine tkP 5 rfl ?_
 refine tkP 6 rfl ?_
 refine tkP 7 rfl ?_
 refine tkP 8 rfl ?_ (by (intro w h; obtain ⟨u0, u1, u2⟩ := hcell.out w h; clear h; go_simp) <;> with_reducible rfl)
 refine tkP 9 rfl ?_
 refine tkP 10 rfl ?_ (by (intro w h; obtain ⟨u0, u1, u2⟩ := hcell.out w h; clear h; go_simp) <;> with_reducible rfl)
 refine tkP 11 rfl ?_
 refine tkP 12 rfl ?_
 refine tkP 13 rfl ?_
 refine tkP 14 rfl ?_
 refine tkP 15 rfl ?_ (by (intro w h; obtain ⟨u0, u1, u2⟩ := hcell.out w h; clear h; go_simp) <;> with_reducible rfl)
 refine tkP 16 rfl ?_
 refine tkP 17 rfl ?_ (by (intro w h; obtain ⟨u0, u1, u2⟩ := hcell.out w h; clear h; go_simp) <;> with_reducible rfl)
 refine tkP 18 rfl ?_
 refine tkP 19 rfl ?_
 refine tkP 20 rfl ?_
 refine tkP 21 rfl ?_
 refine rdy [22] ?_
 refine AllReadyF.last (o := ⟨none, .store 28 (.tmp 2) (.tmp 24), _, _, _, none⟩) rfl (fun K hK => ?_) AllReadyF.nil
 refine wp_store_row 28 (.tmp 2) (.tmp 24) rfl (w.heap.size + 1) #[.slice a1 k1 a2, .slice b1 k2 b2, .slice c1 k3 c2] rfl rfl 28 _ hrs.out (size26b _ _ _) rfl (by simp [Value.oneCell']) ?_
 refine hK.out _ _ ?_
 clear hK K
 try simp only [Act.put, zT, z0, zS]
 refine wpAnyF_done (by kernel_rfl) ?_ _
 go_wp2_with fail
 refine bodyPost_ret (results_cell_row (fn := Try.f21) rfl _ _ (w.heap.size + 1) 28 #[.slice a1 k1 a2, .slice b1 k2 b2, .slice c1 k3 c2] (0, 0) _ rfl (setRow_heap _ _ _ _ _ _ hrs.out) Try.underlying28 rfl (size26b _ _ _)) rfl ?_
 exact ⟨rfl, hBf.out⟩

end Go.Proofs.Ytlnbobclbaieoaa
/- Contracts and facts. -/
set_option linter.unusedSimpArgs false
set_option maxRecDepth 100000
set_option maxHeartbeats 4000000
namespace Go.Proofs.Ytlnbobclbaieoaa
open Go.RowKit
def shortL (L : List Nm) : List Nm := (L.take 8).map fun x => (x.1, x.2.take 4)
def shK (k j : Nat) (x : Nm) : List Int := if j < k then x.2.take 4 else x.2
/-- the world of short: its box, its answer's box, and the row of labels of its own -/
structure ShS (w : World) (R M c : Nat) (n sd : Int) (dv ev : Value) (L8 : List Nm) (k : Nat) (vs : List Value) (W : World) : Prop where
  box : W.heap[w.heap.size]? = some (.cells #[.int .i64 n, .int .i64 sd, dv, ev, .slice (some ⟨R, 0, none⟩) M c] 51 (0, 0))
  res : W.heap[w.heap.size + 1]? = some (.cells #[.int .i64 0, .int .i64 0, .slice none 0 0, .slice none 0 0, .slice none 0 0] 51 (0, 0))
  row : W.ownsRow (w.heap.size + 2) 54 2 (.slice (some ⟨R, 0, none⟩) M c) M (cN L8 vs)
  len : vs.length = L8.length
  mlen : M = L8.length
  bel : Below w.heap.size w W
  lab : ∀ j x u, L8[j]? = some x → vs[j]? = some u → ∀ W', Below w.heap.size w W' → DL W' u (shK k j x)
theorem ShS.block {w : World} {R M c : Nat} {n sd : Int} {dv ev : Value} {L8 : List Nm} {k : Nat} {vs : List Value} {W : World} (h : ShS w R M c n sd dv ev L8 k vs W) : ∃ cur, W.heap[R]? = some (.cells cur 54 (0, 0)) ∧ cur.toList.take (M * 2) = cN L8 vs ∧ w.heap.size + 2 ≤ R ∧ M ≤ c ∧ c ≤ maxLen ∧ cur.size = c * 2 := by
  rcases h.row.2 with ⟨h0, _⟩ | ⟨g, cap', cur, he, h1, h2, h3, h4, h5, h6⟩
  · cases h0
  · injection he with e1 e2 e3
    injection e1 with e1
    injection e1 with e1
    subst e1 e3
    exact ⟨cur, h2, h6, h1, h3, h4, h5⟩
theorem ShS.cells {w : World} {R M c : Nat} {n sd : Int} {dv ev : Value} {L8 : List Nm} {k : Nat} {vs : List Value} {W : World} (h : ShS w R M c n sd dv ev L8 k vs W) (j : Nat) (x : Nm) (u : Value) (hx : L8[j]? = some x) (hu : vs[j]? = some u) :
    W.cell? ⟨R, j * 2, none⟩ = some (.int .i64 x.1) ∧ W.cell? ⟨R, j * 2 + 1, none⟩ = some u ∧ W.frozen? ⟨R, j * 2 + 1, none⟩ = false := by
  obtain ⟨cur, hg, ht, _⟩ := h.block
  have hj := (List.getElem?_eq_some_iff.1 hx).1
  obtain ⟨k1, k2⟩ := cN_at L8 vs j x u hx hu
  rw [← ht, List.getElem?_take_of_lt (by have := h.mlen; omega)] at k1 k2
  refine ⟨?_, ?_, frozen_of_row _ _ _ _ _ hg⟩
  · rw [cell_of_row _ _ _ _ _ _ hg]; simpa using k1
  · rw [cell_of_row _ _ _ _ _ _ hg]; simpa using k2
theorem ShS.below {w : World} {R M c : Nat} {n sd : Int} {dv ev : Value} {L8 : List Nm} {k : Nat} {vs : List Value} {W W' : World} (h : ShS w R M c n sd dv ev L8 k vs W) (B : Below W.heap.size W W') : ShS w R M c n sd dv ev L8 k vs W' :=
  ⟨(B.block _ (Array.getElem?_eq_some_iff.1 h.box).1).trans h.box, (B.block _ (Array.getElem?_eq_some_iff.1 h.res).1).trans h.res, own_below h.row B, h.len, h.mlen, h.bel.trans (B.mono h.bel.size), h.lab⟩
theorem ShS.step {w : World} {R M c : Nat} {n sd : Int} {dv ev : Value} {L8 : List Nm} {k : Nat} {vs : List Value} {W : World} (h : ShS w R M c n sd dv ev L8 k vs W) (x : Nm) (u : Value) (hx : L8[k]? = some x) (hu : ∀ W', Below w.heap.size w W' → DL W' u (x.2.take 4)) :
    ShS w R M c n sd dv ev L8 (k + 1) (vs.set k u) (W.setCell ⟨R, k * 2 + 1, none⟩ u) := by
  obtain ⟨cur, h1, h3, h4, h5, h6, h7⟩ := h.block
  refine ⟨?_, ?_, ⟨?_, .inr ⟨R, c, _, rfl, h4, heap_setCell_same W R (k * 2 + 1) cur 54 _ h1, h5, h6, by simpa using h7, ?_⟩⟩, by rw [List.length_set]; exact h.len, h.mlen, h.bel.setCell (p := ⟨R, k * 2 + 1, none⟩) (by show w.heap.size ≤ R; omega) _, fun j y z hy hz W' BB => ?_⟩
  · rw [heap_setCell_other _ _ _ _ (by show _ ≠ R; omega)]; exact h.box
  · rw [heap_setCell_other _ _ _ _ (by show _ ≠ R; omega)]; exact h.res
  · rw [← cN_set, List.length_set]; exact h.row.1
  · rw [Array.toList_setIfInBounds, List.take_set, h3, cN_set]
  · by_cases e : k = j
    · subst e
      rw [hx] at hy; cases hy
      rw [List.getElem?_set, if_pos rfl, if_pos (by rw [h.len]; exact (List.getElem?_eq_some_iff.1 hx).1)] at hz
      cases hz
      unfold shK; rw [if_pos (by omega)]; exact hu W' BB
    · rw [List.getElem?_set, if_neg e] at hz
      have h9 := h.lab j y z hy hz W' BB
      unfold shK at h9 ⊢
      by_cases e2 : j < k
      · rw [if_pos e2] at h9; rw [if_pos (by omega)]; exact h9
      · rw [if_neg e2] at h9; rw [if_neg (by omega)]; exact h9
theorem ShS.fin {w : World} {R M c : Nat} {n sd : Int} {dv ev : Value} {L8 : List Nm} {vs : List Value} {W : World} (h : ShS w R M c n sd dv ev L8 M vs W) (cs : Array Value) :
    NL (W.setRow (w.heap.size + 1) cs) (.slice (some ⟨R, 0, none⟩) M c) (L8.map fun x => (x.1, x.2.take 4)) ∧ Below w.heap.size w (W.setRow (w.heap.size + 1) cs) := by
  have hB : Below w.heap.size w (W.setRow (w.heap.size + 1) cs) := below_setRow' h.bel (by omega) cs
  refine ⟨?_, hB⟩
  obtain ⟨cur, h1, h3, h4, h5, h6, h7⟩ := h.block
  by_cases hl : L8 = []
  · subst hl; exact .inl ⟨rfl, _, _, by rw [h.mlen]; rfl⟩
  · refine .inr ⟨by simpa using hl, R, 0, c, by rw [h.mlen, List.length_map], by rw [List.length_map]; have := h.mlen; omega, ?_, fun j x hx => ?_⟩
    · have h9 := (Array.getElem?_eq_some_iff.1 h1).1
      rw [show (W.setRow (w.heap.size + 1) cs).heap.size = W.heap.size from by simp [World.setRow]]
      exact h9
    · rw [List.getElem?_map] at hx
      cases hy : L8[j]? with
      | none => rw [hy] at hx; cases hx
      | some y =>
        rw [hy] at hx; cases hx
        have hj := (List.getElem?_eq_some_iff.1 hy).1
        have hu := List.getElem?_eq_getElem (l := vs) (i := j) (by rw [h.len]; exact hj)
        obtain ⟨c1, c2, _⟩ := h.cells j y _ hy hu
        have hs : ∀ o, (W.setRow (w.heap.size + 1) cs).cell? ⟨R, o, none⟩ = W.cell? ⟨R, o, none⟩ := fun o => World.cell?_of_block (setRow_other W _ R cs (by omega))
        have h9 := h.lab j y _ hy hu _ hB
        unfold shK at h9
        rw [if_pos (by rw [h.mlen]; exact hj)] at h9
        exact ⟨by rw [Nat.zero_add, hs]; exact c1, _, by rw [Nat.zero_add, hs]; exact c2, h9⟩
theorem NL.upto {W : World} {a : Option Addr} {c : Nat} {L : List Nm} (h : NL W (.slice a L.length c) L) (m : Nat) : NL W (.slice a (min L.length m) c) (L.take m) := by
  rcases h with ⟨rfl, _⟩ | ⟨h0, b, o, c', e, h2, h3, h4⟩
  · exact .inl ⟨by simp, a, c, by simp⟩
  · injection e with e1 _ e3
    subst e1 e3
    by_cases hm : m = 0
    · subst hm; exact .inl ⟨by simp, some ⟨b, o, none⟩, c, by simp⟩
    · refine .inr ⟨?_, b, o, c, by rw [List.length_take, Nat.min_comm], by rw [List.length_take]; omega, h3, fun j x hx => ?_⟩
      · intro e; have h5 := congrArg List.length e; rw [List.length_take, List.length_nil] at h5; have h6 : L.length ≠ 0 := fun q => h0 (List.length_eq_zero_iff.1 q); omega
      · have hj : j < m := by have := (List.getElem?_eq_some_iff.1 hx).1; rw [List.length_take] at this; omega
        rw [List.getElem?_take_of_lt hj] at hx
        exact h4 j x hx
/-- the values of a row of labels that is read -/
theorem NL.vals {W : World} {v : Value} {L : List Nm} (h : NL W v L) : ∃ (f : Option Addr) (c : Nat) (vs : List Value), v = .slice f L.length c ∧ vs.length = L.length ∧ (L ≠ [] → ∃ b o, f = some ⟨b, o, none⟩ ∧ ∀ j u, (cN L vs)[j]? = some u → W.cell? ⟨b, o + j, none⟩ = some u) ∧ ∀ (j : Nat) (x : Nm) (u : Value), L[j]? = some x → vs[j]? = some u → DL W u x.2 := by
  rcases h with ⟨rfl, a, c, rfl⟩ | ⟨h0, b, o, c, rfl, h2, h3, h4⟩
  · exact ⟨a, c, [], rfl, rfl, fun h => absurd rfl h, fun j x u h => by simp at h⟩
  · have hv : ∀ (i : Nat) (hi : i < L.length), ∃ lv, W.cell? ⟨b, o + i * 2 + 1, none⟩ = some lv ∧ DL W lv L[i].2 := fun i hi => (h4 i _ (List.getElem?_eq_getElem hi)).2
    let vs : List Value := List.ofFn (n := L.length) fun i => (hv i.1 i.2).choose
    have hvl : vs.length = L.length := by simp [vs]
    have hva : ∀ (i : Nat) (hi : i < L.length), vs[i]? = some (hv i hi).choose := fun i hi => by simp [vs, hi]
    refine ⟨_, c, vs, rfl, hvl, fun _ => ⟨b, o, rfl, fun j u hu => ?_⟩, fun j x u hx hu => ?_⟩
    · have hjl : j < L.length * 2 := by
        have := (List.getElem?_eq_some_iff.1 hu).1
        have h9 : ∀ (L : List Nm) (vs : List Value), (cN L vs).length ≤ L.length * 2 := by
          intro L
          induction L with
          | nil => intro vs; cases vs <;> simp [cN]
          | cons x L ih => intro vs; cases vs with
            | nil => simp [cN]
            | cons z vs => simp only [cN, List.length_cons]; have := ih vs; omega
        have := h9 L vs; omega
      have hi : j / 2 < L.length := by omega
      have hx := List.getElem?_eq_getElem hi
      obtain ⟨k1, k2⟩ := cN_at L vs (j / 2) _ _ hx (hva _ hi)
      rcases (by omega : j = j / 2 * 2 ∨ j = j / 2 * 2 + 1) with e | e
      · rw [e] at hu; rw [k1] at hu; cases hu
        have := (h4 _ _ hx).1
        rw [← e] at this; exact this
      · rw [e] at hu; rw [k2] at hu; cases hu
        have h8 := (hv _ hi).choose_spec.1
        generalize (hv _ hi).choose = z at *
        rw [Nat.add_assoc, ← e] at h8; exact h8
    · have hi := (List.getElem?_eq_some_iff.1 hx).1
      rw [hva j hi] at hu; cases hu
      rw [List.getElem?_eq_getElem hi] at hx; cases hx
      exact (hv j hi).choose_spec.2
theorem app54 (W : World) (b : Nat) (f : Option Addr) (L : List Nm) (c : Nat) (vs : List Value) (hb : W.heap[b]? = some (.cells #[] 54 (0, 0))) (hc : L ≠ [] → ∃ b o, f = some ⟨b, o, none⟩ ∧ ∀ j u, (cN L vs)[j]? = some u → W.cell? ⟨b, o + j, none⟩ = some u) (hlen : vs.length = L.length) (hl : L.length ≤ 100) (B : Nat) (hB : B ≤ b) (hBW : B ≤ W.heap.size) :
    ∃ R c' W', (Builtin.append_ #[46, 46] 46 #[.slice (some ⟨b, 0, none⟩) 0 0, .slice f L.length c]).run Try.prog W = .ok (.slice (some ⟨R, 0, none⟩) L.length c') W' ∧ W'.ownsRow B 54 2 (.slice (some ⟨R, 0, none⟩) L.length c') L.length (cN L vs) ∧ Below W.heap.size W W' := by
  obtain ⟨i0, hi, hz0, hz1, hz2⟩ := info_parts info54
  have hcl : ∀ (L : List Nm) (vs : List Value), vs.length = L.length → (cN L vs).length = L.length * 2 := by
    intro L
    induction L with
    | nil => intro vs h; cases vs <;> simp [cN]
    | cons x L ih => intro vs h; cases vs with
      | nil => simp at h
      | cons z vs => simp only [cN, List.length_cons]; have := ih vs (by simpa using h); omega
  by_cases h0 : L = []
  · subst h0
    have hr : (Builtin.append_ #[46, 46] 46 #[.slice (some ⟨b, 0, none⟩) 0 0, .slice f 0 c]).run Try.prog W = .ok (.slice (some ⟨b, 0, none⟩) 0 0) W := by
      have hfs := fun a => run_firstCells_some (P := Try.prog) W i0.size 0 a 0 c [] (by simp) (by simp)
      have hfn := run_firstCells_none (P := Try.prog) (w := W) i0.size 0 0 c
      cases f with
      | none => simp [Builtin.append_, run_underlying Try.underlying46, sizeOf, typeInfo, zeroValue, hi, hz0, Builtin.lenOf, Question.forced, hfn, storeCells]
      | some x => simp [Builtin.append_, run_underlying Try.underlying46, sizeOf, typeInfo, zeroValue, hi, hz0, Builtin.lenOf, Question.forced, hfs, storeCells]
    exact ⟨b, 0, W, hr, ⟨by simp [cN], .inr ⟨b, 0, #[], rfl, hB, hb, by simp, by unfold maxLen; omega, by simp, by simp [cN]⟩⟩, Below.refl _ _⟩
  · obtain ⟨ba, oa, rfl, hcc⟩ := hc h0
    have hpos : 0 < L.length := List.length_pos_iff.2 h0
    rcases app_gen 46 54 i0 _ 2 32 Try.underlying46 hi hz0 hz1 hz2 rfl (by omega) (by omega) W ⟨b, 0, none⟩ 0 [] rfl (by simp) (some ⟨ba, oa, none⟩) L.length c (cN L vs) (hcl L vs hlen) (fun x hx j u hu => by
      injection hx with hx
      subst hx
      have hadd : (⟨ba, oa, none⟩ : Addr).add j = ⟨ba, oa + j, none⟩ := by unfold Addr.add; split <;> simp_all
      rw [hadd]; exact hcc j u hu) (fun hx => by cases hx) (by omega) with ⟨h1, _⟩ | ⟨_, v', W', hr, ho, hbz⟩
    · omega
    · rw [Nat.zero_add, List.nil_append] at ho
      rcases ho.2 with ⟨_, h1⟩ | ⟨g, cap, cur, rfl, h2, h3⟩
      · omega
      · exact ⟨g, cap, W', hr, own_low ho (by omega), hbz⟩

end Go.Proofs.Ytlnbobclbaieoaa
/- Contracts and facts. -/
set_option linter.unusedSimpArgs false
set_option maxRecDepth 100000
set_option maxHeartbeats 4000000
namespace Go.Proofs.Ytlnbobclbaieoaa
open Go.RowKit
theorem five_cells {W : World} {p : Nat} {a b c d e : Value} (h : W.heap[p]? = some (.cells #[a, b, c, d, e] 51 (0, 0))) : W.cell? ⟨p, 0, none⟩ = some a ∧ W.cell? ⟨p, 1, none⟩ = some b ∧ W.cell? ⟨p, 2, none⟩ = some c ∧ W.cell? ⟨p, 3, none⟩ = some d ∧ W.cell? ⟨p, 4, none⟩ = some e ∧ (∀ i, W.frozen? ⟨p, i, none⟩ = false) :=
  ⟨by rw [cell_of_row _ _ _ _ _ _ h]; rfl, by rw [cell_of_row _ _ _ _ _ _ h]; rfl, by rw [cell_of_row _ _ _ _ _ _ h]; rfl, by rw [cell_of_row _ _ _ _ _ _ h]; rfl, by rw [cell_of_row _ _ _ _ _ _ h]; rfl, fun i => frozen_of_row _ _ _ _ _ h⟩
set_option maxRecDepth 100000 in
theorem short_any (n sd : Int) (dv : Value) (hdv : ∃ d1 d2 d3, dv = .slice d1 d2 d3) (e1 : Option Addr) (E e2 : Nat) (l1 : Option Addr) (l2 : Nat) (L : List Nm) (w : World) (hEc : E ≤ e2) (hE : E ≤ 9223372036854775807) (hL : NL w (.slice l1 L.length l2) L) (hLc : L.length ≤ l2) (hLm : L.length ≤ 9223372036854775807) (hx : ∀ x ∈ L, x.2.length ≤ 9223372036854775807) :
    Calls Try.prog 30 #[.agg #[.int .i64 n, .int .i64 sd, dv, .slice e1 E e2, .slice l1 L.length l2]] w fun e w' => ∃ lv, e = .returned (.agg #[.int .i64 n, .int .i64 sd, dv, .slice e1 (min E 6) e2, lv]) ∧ NL w' lv (shortL L) ∧ Below w.heap.size w w' := by
  obtain ⟨d1, d2, d3, rfl⟩ := hdv
  obtain ⟨w1, hw1⟩ : ∃ w1, w1 = (w.alloc (.cells #[.int .i64 n, .int .i64 sd, .slice d1 d2 d3, .slice e1 E e2, .slice l1 L.length l2] 51)).alloc (.cells #[.int .i64 0, .int .i64 0, .slice none 0 0, .slice none 0 0, .slice none 0 0] 51) := ⟨_, rfl⟩
  have hB : Below w.heap.size w w1 := by rw [hw1]; exact ((Below.refl _ w).alloc (Nat.le_refl _) _).alloc (by simp) _
  have hbx : w1.heap[w.heap.size]? = some (.cells #[.int .i64 n, .int .i64 sd, .slice d1 d2 d3, .slice e1 E e2, .slice l1 L.length l2] 51 (0, 0)) := by rw [hw1]; exact al_keep1 (heap_alloc_new w _)
  have hrs : w1.heap[w.heap.size + 1]? = some (.cells #[.int .i64 0, .int .i64 0, .slice none 0 0, .slice none 0 0, .slice none 0 0] 51 (0, 0)) := by
    rw [hw1]
    have := heap_alloc_new (w.alloc (.cells #[.int .i64 n, .int .i64 sd, .slice d1 d2 d3, .slice e1 E e2, .slice l1 L.length l2] 51)) (.cells #[.int .i64 0, .int .i64 0, .slice none 0 0, .slice none 0 0, .slice none 0 0] 51)
    simpa using this
  have hsz : w1.heap.size = w.heap.size + 2 := by rw [hw1]; simp
  have m1 : ∀ ts t w, (Builtin.min_ ts t #[.int .i64 (E : Int), .int .i64 6]).run Try.prog w = .ok (.int .i64 ((min E 6 : Nat) : Int)) w := fun ts t w => mmin_run E 6 ts t w 6 rfl
  have m2 : ∀ ts t w, (Builtin.min_ ts t #[.int .i64 (L.length : Int), .int .i64 8]).run Try.prog w = .ok (.int .i64 ((min L.length 8 : Nat) : Int)) w := fun ts t w => mmin_run L.length 8 ts t w 8 rfl
  have hL8 := hL.upto 8
  have p1 : min E 6 ≤ e2 := by omega
  have p2 : min L.length 8 ≤ l2 := by omega
  have hl8 : (L.take 8).length = min L.length 8 := by rw [List.length_take]; omega
  have hx8 : ∀ x ∈ L.take 8, x.2.length ≤ 9223372036854775807 := fun x h => hx x (List.mem_of_mem_take h)
  have hsh : shortL L = (L.take 8).map fun x => (x.1, x.2.take 4) := rfl
  generalize L.take 8 = L8 at *
  have hm8 : min L.length 8 ≤ 8 := by omega
  generalize min E 6 = k1 at *
  generalize min L.length 8 = M at *
  generalize L.length = Ln at *
  obtain ⟨W2, hW2⟩ : ∃ W2, W2 = w1.setCell ⟨w.heap.size, 3, none⟩ (.slice e1 k1 e2) := ⟨_, rfl⟩
  have hbx2 : W2.heap[w.heap.size]? = some (.cells #[.int .i64 n, .int .i64 sd, .slice d1 d2 d3, .slice e1 k1 e2, .slice l1 Ln l2] 51 (0, 0)) := by rw [hW2]; exact heap_setCell_same _ _ _ _ _ _ hbx
  have hrs2 : W2.heap[w.heap.size + 1]? = some (.cells #[.int .i64 0, .int .i64 0, .slice none 0 0, .slice none 0 0, .slice none 0 0] 51 (0, 0)) := by rw [hW2, heap_setCell_other _ _ _ _ (by show _ ≠ w.heap.size; omega)]; exact hrs
  have hB2 : Below w.heap.size w W2 := by rw [hW2]; exact hB.setCell (p := ⟨w.heap.size, 3, none⟩) (Nat.le_refl _) _
  have hs2 : W2.heap.size = w.heap.size + 2 := by rw [hW2]; simpa using hsz
  obtain ⟨f0, f1, f2, f3, f4, f5⟩ := five_cells hbx
  have f53 := f5 3
  replace hw1 := Lib.hid hw1
  replace hW2 := Lib.hid hW2
  go_enter Try.func30, Try.ntmps30
  go_upto_region 1 with (fail)
  rw [← hw1.out]
  go_upto_region 2 with (fail)
  rw [← hW2.out]
  obtain ⟨q, hq⟩ : ∃ q, Hid (q = W2.heap.size) := ⟨_, rfl⟩
  obtain ⟨Wa, hWa⟩ : ∃ Wa, Wa = W2.alloc (.cells #[] 54) := ⟨_, rfl⟩
  have hqb : Wa.heap[q]? = some (.cells #[] 54 (0, 0)) := by rw [hWa, hq.out]; exact heap_alloc_new W2 _
  have hbWa : Below W2.heap.size W2 Wa := by rw [hWa]; exact (Below.refl _ W2).alloc (Nat.le_refl _) _
  have hBa : Below w.heap.size w Wa := hB2.trans (hbWa.mono hB2.size)
  have hsa : Wa.heap.size = w.heap.size + 3 := by rw [hWa]; simp; omega
  obtain ⟨vf, vc, vs, hve, hvl, hvc, hvd⟩ := NL.vals hL8
  injection hve with e1' e2' e3'
  subst e1' e3'
  obtain ⟨R, rc, W3, hrun, hrow, hb3⟩ := app54 Wa q l1 L8 l2 vs hqb (fun h => by
    obtain ⟨b, o, e, hc⟩ := hvc h
    exact ⟨b, o, e, fun j u hu => (hBa.cell (p := ⟨b, o + j, none⟩) (cell_lt (hc j u hu))).trans (hc j u hu)⟩) hvl (by omega) (w.heap.size + 2) (by have := hq.out; omega) (by omega)
  rw [← e2'] at hrun hrow
  have hR2 : w.heap.size + 2 ≤ R := by
    rcases hrow.2 with ⟨h0, _⟩ | ⟨g, cap', cur, he, h1, _⟩
    · cases h0
    · injection he with e1
      injection e1 with e1
      injection e1 with e1
      omega
  have hbx3 : W3.heap[w.heap.size]? = some (.cells #[.int .i64 n, .int .i64 sd, .slice d1 d2 d3, .slice e1 k1 e2, .slice l1 Ln l2] 51 (0, 0)) := (hb3.block _ (by omega)).trans ((hbWa.block _ (by omega)).trans hbx2)
  have hrs3 : W3.heap[w.heap.size + 1]? = some (.cells #[.int .i64 0, .int .i64 0, .slice none 0 0, .slice none 0 0, .slice none 0 0] 51 (0, 0)) := (hb3.block _ (by omega)).trans ((hbWa.block _ (by omega)).trans hrs2)
  have hB3 : Below w.heap.size w W3 := hBa.trans (hb3.mono hBa.size)
  obtain ⟨W4, hW4⟩ : ∃ W4, W4 = W3.setCell ⟨w.heap.size, 4, none⟩ (.slice (some ⟨R, 0, none⟩) M rc) := ⟨_, rfl⟩
  have hS0 : Hid (ShS w R M rc n sd (.slice d1 d2 d3) (.slice e1 k1 e2) L8 0 vs W4) := by
    show ShS w R M rc n sd (.slice d1 d2 d3) (.slice e1 k1 e2) L8 0 vs W4
    rw [hW4]
    refine ⟨heap_setCell_same _ _ _ _ _ _ hbx3, by rw [heap_setCell_other _ _ _ _ (by show _ ≠ w.heap.size; omega)]; exact hrs3, ownsRow_setCell_other hrow (fun e => by
      have h9 : (some R : Option Nat) = some w.heap.size := e
      injection h9 with h9; omega) _, hvl, e2', hB3.setCell (p := ⟨w.heap.size, 4, none⟩) (Nat.le_refl _) _, fun j x u hx hu W' BB => ?_⟩
    unfold shK; rw [if_neg (by omega)]; exact (hvd j x u hx hu).below BB
  have hbxa : (W2.alloc (.cells #[] 54)).heap[w.heap.size]? = some (.cells #[.int .i64 n, .int .i64 sd, .slice d1 d2 d3, .slice e1 k1 e2, .slice l1 Ln l2] 51 (0, 0)) := al_keep1 hbx2
  rw [hWa, hq.out] at hrun
  obtain ⟨f0, f1, f2, f3, f4, f5⟩ := five_cells hbxa
  obtain ⟨z0, z1, z2, z3, z4, z5⟩ := five_cells hbx3
  have z54 := z5 4
  replace hS0 := Lib.hid hS0.out
  replace hWa := Lib.hid hWa
  replace hW4 := Lib.hid hW4
  have hx8' := Lib.hid hx8
  have he2 := Lib.hid e2'
  have hq' := Lib.hid hq.out
  clear hbxa hbx hrs hB hsz hL8 hL hbx2 hrs2 hB2 hs2 hqb hbWa hBa hsa hvl hvc hvd hrow hb3 hbx3 hrs3 hB3 e2' hx8 f53 hx hl8
  go_wp2_with (at_builtin; refine wpList_append_runB rfl (.tmp 12) (.tmp 19) 46 rfl (.slice (some ⟨W2.heap.size, 0, none⟩) 0 0) (.slice l1 M l2) rfl rfl _ _ hrun ?_)
  rw [← hW4.out]
  clear f0 f1 f2 f3 f4 f5 z0 z1 z2 z3 z4 z5 z54
  go_loopg [3] M (fun q kv wr => ∃ k vs, k + q = M ∧ kv = .int .i64 k ∧ ShS w R M rc n sd (.slice d1 d2 d3) (.slice e1 k1 e2) L8 k vs wr)
  case atStart => exact ⟨0, vs, by omega, rfl, hS0.out⟩
  case round =>
    obtain ⟨k, vs, hk, rfl, hS⟩ := hrel
    obtain ⟨wo, rfl⟩ : ∃ x, x = wr := ⟨_, rfl⟩
    obtain ⟨f0, f1, f2, f3, f4, f5⟩ := five_cells hS.box
    have hB9 := hS.bel.size
    cases gk with
    | zero =>
      have hk2 : k = M := by omega
      have i1 : ¬ (k : Int) < (M : Int) := by omega
      rw [hk2] at hS
      have hfn := Lib.hid (hS.fin #[.int .i64 n, .int .i64 sd, .slice d1 d2 d3, .slice e1 k1 e2, .slice (some ⟨R, 0, none⟩) M rc])
      have hres := hS.res
      have hsh' := Lib.hid hsh
      clear hk2 hk hsh hS0
      go_upto_region 7 with (fail)
      go_wp2_with (refine wpList_store_row rfl 51 (.tmp 2) (.tmp 49) rfl (w.heap.size + 1) #[.int .i64 n, .int .i64 sd, .slice d1 d2 d3, .slice e1 k1 e2, .slice (some ⟨R, 0, none⟩) M rc] rfl rfl 51 _ hres (info51 _ _ _ _ _) rfl (by simp [Value.oneCell']) ?_)
      refine bodyPost_ret (v := _) (results_cell_row (fn := Try.f30) rfl _ _ (w.heap.size + 1) 51 #[.int .i64 n, .int .i64 sd, .slice d1 d2 d3, .slice e1 k1 e2, .slice (some ⟨R, 0, none⟩) M rc] (0, 0) _ rfl (setRow_heap _ _ _ _ _ _ hres) Try.underlying51 rfl (info51 _ _ _ _ _)) rfl ?_
      exact ⟨_, rfl, by rw [hsh'.out]; exact hfn.out.1, hfn.out.2⟩
    | succ ga =>
      have hkl : k < L8.length := by have := he2.out; omega
      have hxk := Lib.hid (List.getElem?_eq_getElem hkl)
      have huk := List.getElem?_eq_getElem (l := vs) (i := k) (by rw [hS.len]; exact hkl)
      have hdl := fun W' (BB : Below w.heap.size w W') => hS.lab k _ _ hxk.out huk W' BB
      have hxm := hx8'.out L8[k] (List.getElem_mem hkl)
      generalize L8[k] = x at *
      generalize vs[k]'(by rw [hS.len]; exact hkl) = u at *
      unfold shK at hdl
      simp only [Nat.lt_irrefl, if_false] at hdl
      obtain ⟨uf, uc, rfl⟩ := (hdl w (Below.refl _ _)).shape
      obtain ⟨hup1, hup2⟩ := (hdl w (Below.refl _ _)).upto 4
      have hUc : Hid (∀ W', Below w.heap.size w W' → DL W' (.slice uf (min x.2.length 4) uc) (x.2.take 4)) := fun W' BB => hup1.below BB
      obtain ⟨X, hX⟩ : ∃ X, Hid (X = x.2.length) := ⟨_, rfl⟩
      rw [← hX.out] at hUc hup2 huk hxm
      have m3 : ∀ ts t w, (Builtin.min_ ts t #[.int .i64 (X : Int), .int .i64 4]).run Try.prog w = .ok (.int .i64 ((min X 4 : Nat) : Int)) w := fun ts t w => mmin_run X 4 ts t w 4 rfl
      have p3 : min X 4 ≤ uc := by omega
      generalize min X 4 = Y at *
      obtain ⟨x0c, x1c, x2c⟩ := hS.cells k x _ hxk.out huk
      have fc := Lib.hid (fun W (q : Below wo.heap.size wo W) => (show W.cell? ⟨w.heap.size, 4, none⟩ = some (.slice (some ⟨R, 0, none⟩) M rc) ∧ W.cell? ⟨R, k * 2 + 1, none⟩ = some (.slice uf X uc) ∧ W.frozen? ⟨R, k * 2 + 1, none⟩ = false from
        ⟨(five_cells (hS.below q).box).2.2.2.2.1, ((hS.below q).cells k x _ hxk.out huk).2.1, ((hS.below q).cells k x _ hxk.out huk).2.2⟩))
      have i0 : (0 : Int) ≤ (k : Int) := by omega
      have i1 : (k : Int) < (M : Int) := by omega
      have hle : Hid (k + 1 + ga = M) := by show _ = _; omega
      replace hS := Lib.hid hS
      clear hdl huk hup1 hup2 hkl hk x0c x1c x2c hS0 hB9 m1 m2 hsh
      go_upto_region 6 with (fail)
      clear f0 f1 f2 f3 f4 f5
      refine Rel.c_region (fun _ => false) wo [some (.pointer (some ⟨w.heap.size, 4, none⟩)), some (.slice (some ⟨R, 0, none⟩) M rc), some (.int .i64 k), some (.pointer (some ⟨w.heap.size, 4, none⟩)), some (.slice (some ⟨R, 0, none⟩) M rc), some (.int .i64 k), some (.pointer (some ⟨R, k * 2, none⟩)), some (.pointer (some ⟨R, k * 2 + 1, none⟩)), some (.slice uf X uc), some (.pointer (some ⟨w.heap.size, 4, none⟩)), some (.slice (some ⟨R, 0, none⟩) M rc), some (.int .i64 k), some (.pointer (some ⟨R, k * 2, none⟩)), some (.pointer (some ⟨R, k * 2 + 1, none⟩)), some (.slice uf X uc), some (.int .i64 X), some (.int .i64 Y), some (.slice uf Y uc), some (.pointer (some ⟨R, k * 2, none⟩)), some (.pointer (some ⟨R, k * 2 + 1, none⟩)), none] (fun _ _ _ => True)
        (fun _ _ W => ∃ W0, Below wo.heap.size wo W0 ∧ W = W0.setCell ⟨R, k * 2 + 1, none⟩ (.slice uf Y uc)) 20 (by kernel_rfl) (by kernel_rfl) (fun i hi => by cases hi)
        (fun j hj => by simp only [List.getD_eq_getElem?_getD]; rcases Nat.eq_or_lt_of_le hj with rfl | hj2; rfl; rw [List.getElem?_eq_none (by simp; omega)]; rfl) (by decide) (fun i v W W' h Bl => trivial) ((Below.refl _ wo).drew) (fun vals hO => ?_)
      refine Rel.c_pure rfl (.pointer (some ⟨w.heap.size, 4, none⟩)) rfl (by decide) (hO 0 _ rfl) (by rfl) (fun w hC hd => ?_) ?_
      · clear hd hO; go_simp
      try simp only [Act.put, zT, z0, zS]
      refine Rel.c_pure rfl (.slice (some ⟨R, 0, none⟩) M rc) rfl (by decide) (hO 1 _ rfl) (by rfl) (fun w hC hd => ?_) ?_
      · obtain ⟨x0, x1, x2⟩ := fc.out w hC; clear hd hO; go_simp
      try simp only [Act.put, zT, z0, zS]
      refine Rel.c_pure rfl (.int .i64 k) rfl (by decide) (hO 2 _ rfl) (by rfl) (fun w hC hd => ?_) ?_
      · clear hd hO; go_simp
      try simp only [Act.put, zT, z0, zS]
      refine Rel.c_pure rfl (.pointer (some ⟨w.heap.size, 4, none⟩)) rfl (by decide) (hO 3 _ rfl) (by rfl) (fun w hC hd => ?_) ?_
      · clear hd hO; go_simp
      try simp only [Act.put, zT, z0, zS]
      refine Rel.c_pure rfl (.slice (some ⟨R, 0, none⟩) M rc) rfl (by decide) (hO 4 _ rfl) (by rfl) (fun w hC hd => ?_) ?_
      · obtain ⟨x0, x1, x2⟩ := fc.out w hC; clear hd hO; go_simp
      try simp only [Act.put, zT, z0, zS]
      refine Rel.c_pure rfl (.int .i64 k) rfl (by decide) (hO 5 _ rfl) (by rfl) (fun w hC hd => ?_) ?_
      · clear hd hO; go_simp
      try simp only [Act.put, zT, z0, zS]
      refine Rel.c_pure rfl (.pointer (some ⟨R, k * 2, none⟩)) rfl (by decide) (hO 6 _ rfl) (by rfl) (fun w hC hd => ?_) ?_
      · clear hd hO; go_simp
      try simp only [Act.put, zT, z0, zS]
      refine Rel.c_pure rfl (.pointer (some ⟨R, k * 2 + 1, none⟩)) rfl (by decide) (hO 7 _ rfl) (by rfl) (fun w hC hd => ?_) ?_
      · clear hd hO; go_simp
      try simp only [Act.put, zT, z0, zS]
      refine Rel.c_pure rfl (.slice uf X uc) rfl (by decide) (hO 8 _ rfl) (by rfl) (fun w hC hd => ?_) ?_
      · obtain ⟨x0, x1, x2⟩ := fc.out w hC; clear hd hO; go_simp
      try simp only [Act.put, zT, z0, zS]
      refine Rel.c_pure rfl (.pointer (some ⟨w.heap.size, 4, none⟩)) rfl (by decide) (hO 9 _ rfl) (by rfl) (fun w hC hd => ?_) ?_
      · clear hd hO; go_simp
      try simp only [Act.put, zT, z0, zS]
      refine Rel.c_pure rfl (.slice (some ⟨R, 0, none⟩) M rc) rfl (by decide) (hO 10 _ rfl) (by rfl) (fun w hC hd => ?_) ?_
      · obtain ⟨x0, x1, x2⟩ := fc.out w hC; clear hd hO; go_simp
      try simp only [Act.put, zT, z0, zS]
      refine Rel.c_pure rfl (.int .i64 k) rfl (by decide) (hO 11 _ rfl) (by rfl) (fun w hC hd => ?_) ?_
      · clear hd hO; go_simp
      try simp only [Act.put, zT, z0, zS]
      refine Rel.c_pure rfl (.pointer (some ⟨R, k * 2, none⟩)) rfl (by decide) (hO 12 _ rfl) (by rfl) (fun w hC hd => ?_) ?_
      · clear hd hO; go_simp
      try simp only [Act.put, zT, z0, zS]
      refine Rel.c_pure rfl (.pointer (some ⟨R, k * 2 + 1, none⟩)) rfl (by decide) (hO 13 _ rfl) (by rfl) (fun w hC hd => ?_) ?_
      · clear hd hO; go_simp
      try simp only [Act.put, zT, z0, zS]
      refine Rel.c_pure rfl (.slice uf X uc) rfl (by decide) (hO 14 _ rfl) (by rfl) (fun w hC hd => ?_) ?_
      · obtain ⟨x0, x1, x2⟩ := fc.out w hC; clear hd hO; go_simp
      try simp only [Act.put, zT, z0, zS]
      refine Rel.c_pure rfl (.int .i64 X) rfl (by decide) (hO 15 _ rfl) (by rfl) (fun w hC hd => ?_) ?_
      · clear hd hO; go_simp
      try simp only [Act.put, zT, z0, zS]
      refine Rel.c_pure rfl (.int .i64 Y) rfl (by decide) (hO 16 _ rfl) (by rfl) (fun w hC hd => ?_) ?_
      · clear hd hO; go_simp
      try simp only [Act.put, zT, z0, zS]
      refine Rel.c_pure rfl (.slice uf Y uc) rfl (by decide) (hO 17 _ rfl) (by rfl) (fun w hC hd => ?_) ?_
      · clear hd hO; go_simp
      try simp only [Act.put, zT, z0, zS]
      refine Rel.c_pure rfl (.pointer (some ⟨R, k * 2, none⟩)) rfl (by decide) (hO 18 _ rfl) (by rfl) (fun w hC hd => ?_) ?_
      · clear hd hO; go_simp
      try simp only [Act.put, zT, z0, zS]
      refine Rel.c_pure rfl (.pointer (some ⟨R, k * 2 + 1, none⟩)) rfl (by decide) (hO 19 _ rfl) (by rfl) (fun w hC hd => ?_) ?_
      · clear hd hO; go_simp
      try simp only [Act.put, zT, z0, zS]
      refine Rel.c_tail0 rfl rfl (by rfl) (fun w hC hd => ?_) ?_
      · refine post_skip' (w.setCell ⟨R, k * 2 + 1, none⟩ (.slice uf Y uc)) ?_ ⟨w, hC, rfl⟩
        obtain ⟨x0, x1, x2⟩ := fc.out w hC
        clear hd hO hC; go_simp
      try simp only [Act.put, zT, z0, zS]
      refine Rel.c_end ?_
      intro w8 hF
      obtain ⟨Wz, hWz, rfl⟩ := hF
      have hS8 := Lib.hid ((hS.out.below hWz).step x (.slice uf Y uc) hxk.out hUc.out)
      clear hO hWz
      go_wp2_with fail
      go_roundg ga
      case measure => omega
      case rel => exact ⟨k + 1, _, hle.out, by go_num, hS8.out⟩

end Go.Proofs.Ytlnbobclbaieoaa
