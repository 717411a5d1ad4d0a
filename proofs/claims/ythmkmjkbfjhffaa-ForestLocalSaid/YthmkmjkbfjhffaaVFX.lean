/- Contracts and facts. -/
import Derived.Deep.LoopGhost
import Derived.Handy
import Derived.WalkMore
import Derived.BigRegion
import Derived.Laws.EntriesVeiled
import Derived.Test.YthmkmjkbfjhffaaVFR
import Derived.Test.YthmkmjkbfjhffaaVFS
import Derived.Test.YthmkmjkbfjhffaaVFH
import Derived.RangeFuncNested
import Derived.RangeFuncBound
import Derived.RangeFuncBox
import Derived.RangeFuncCalls
import Derived.RangeFuncLeaves
import Derived.Shelf.Abstract
import Derived.Shelf.RegionOpen
import Derived.WalkKit
import Derived.OwnWalkIn
import Derived.TacticsInMore
import Derived.LoopNIn
import Derived.LoopIn
import Derived.Maps.OwnIn
set_option linter.unusedSimpArgs false
set_option maxRecDepth 100000
set_option maxHeartbeats 4000000
namespace Go.Proofs.Ythmkmjkbfjhffaa
open Go.RowKit
abbrev Nm := Int × List Int
def cN : List Nm → List Value → List Value
  | x :: L, u :: vs => .int .i64 x.1 :: u :: cN L vs
  | _, _ => []
theorem cN_snoc : ∀ (L : List Nm) (vs : List Value) (x : Nm) (u : Value), L.length = vs.length → cN (L ++ [x]) (vs ++ [u]) = cN L vs ++ [.int .i64 x.1, u] := by
  intro L
  induction L with
  | nil => intro vs x u h; cases vs with
    | nil => rfl
    | cons _ _ => simp at h
  | cons y L ih => intro vs x u h; cases vs with
    | nil => simp at h
    | cons z vs => simp only [List.cons_append, cN]; rw [ih vs x u (by simpa using h)]
theorem cN_at : ∀ (L : List Nm) (vs : List Value) (j : Nat) (x : Nm) (u : Value), L[j]? = some x → vs[j]? = some u → (cN L vs)[j * 2]? = some (.int .i64 x.1) ∧ (cN L vs)[j * 2 + 1]? = some u := by
  intro L
  induction L with
  | nil => intro vs j x u h; simp at h
  | cons y L ih => intro vs j x u h h2; cases vs with
    | nil => simp at h2
    | cons z vs =>
      cases j with
      | zero => simp at h h2; subst h h2; exact ⟨rfl, rfl⟩
      | succ j =>
        have := ih vs j x u (by simpa using h) (by simpa using h2)
        simp only [cN]
        rw [show (j + 1) * 2 = j * 2 + 1 + 1 by omega]
        simpa using this
/-- a row of named labels of the call's own -/
structure OwnN' (W : World) (base : Nat) (v : Value) (L : List Nm) (vs : List Value) : Prop where
  len : vs.length = L.length
  row : W.ownsRow base 54 2 v L.length (cN L vs)
  lab : ∀ (j : Nat) (x : Nm) (u : Value), L[j]? = some x → vs[j]? = some u → OwnI W base u x.2
  ap : ∀ (i j : Nat) (u u' : Value), vs[i]? = some u → vs[j]? = some u' → i ≠ j → ∀ b, u.ownBlock = some b → u'.ownBlock ≠ some b
def OwnN (W : World) (base : Nat) (v : Value) (L : List Nm) : Prop := ∃ vs, OwnN' W base v L vs
/-- a row of named labels that is read -/
def NL (W : World) (v : Value) (L : List Nm) : Prop :=
  (L = [] ∧ ∃ a c, v = .slice a 0 c) ∨ (L ≠ [] ∧ ∃ b o c, v = .slice (some ⟨b, o, none⟩) L.length c ∧ L.length ≤ c ∧ b < W.heap.size ∧ ∀ j x, L[j]? = some x → W.cell? ⟨b, o + j * 2, none⟩ = some (.int .i64 x.1) ∧ ∃ lv, W.cell? ⟨b, o + j * 2 + 1, none⟩ = some lv ∧ DL W lv x.2)
theorem NL.below {W W' : World} {v : Value} {L : List Nm} (h : NL W v L) (B : Below W.heap.size W W') : NL W' v L := by
  rcases h with h | ⟨h1, b, o, c, h2, h3, h4, h5⟩
  · exact .inl h
  · refine .inr ⟨h1, b, o, c, h2, h3, Nat.lt_of_lt_of_le h4 B.size, fun j x hx => ?_⟩
    obtain ⟨k1, lv, k2, k3⟩ := h5 j x hx
    exact ⟨by rw [B.cell (p := ⟨b, o + j * 2, none⟩) h4]; exact k1, lv, by rw [B.cell (p := ⟨b, o + j * 2 + 1, none⟩) h4]; exact k2, k3.below B⟩
theorem NL.shape {W : World} {v : Value} {L : List Nm} (h : NL W v L) : ∃ a c, v = .slice a L.length c := by
  rcases h with ⟨rfl, a, c, rfl⟩ | ⟨_, b, o, c, rfl, _⟩
  · exact ⟨_, _, rfl⟩
  · exact ⟨_, _, rfl⟩
theorem OwnN.NL {W : World} {base : Nat} {v : Value} {L : List Nm} (h : OwnN W base v L) : NL W v L := by
  obtain ⟨vs, h⟩ := h
  rcases h.row.2 with ⟨rfl, h0⟩ | ⟨g, cap, cur, rfl, hb, hg, hc, hm, hs, ht⟩
  · exact .inl ⟨List.length_eq_zero_iff.1 h0, _, _, rfl⟩
  · by_cases hl : L = []
    · subst hl; exact .inl ⟨rfl, _, _, rfl⟩
    · refine .inr ⟨hl, g, 0, cap, rfl, hc, (Array.getElem?_eq_some_iff.1 hg).1, fun j x hx => ?_⟩
      have hj := (List.getElem?_eq_some_iff.1 hx).1
      have hu := List.getElem?_eq_getElem (l := vs) (i := j) (by rw [h.len]; exact hj)
      obtain ⟨k1, k2⟩ := cN_at L vs j x _ hx hu
      rw [← ht, List.getElem?_take_of_lt (by omega)] at k1 k2
      refine ⟨?_, vs[j]'(by rw [h.len]; exact hj), ?_, OwnI.DL (h.lab j x _ hx hu)⟩
      · rw [Nat.zero_add, cell_of_row _ _ _ _ _ _ hg]; simpa using k1
      · rw [Nat.zero_add, cell_of_row _ _ _ _ _ _ hg]; simpa using k2
theorem OwnN.nil (W : World) (base : Nat) : OwnN W base (.slice none 0 0) [] := ⟨[], rfl, World.ownsRow_nil _ _ _ _, fun _ _ _ h => by simp at h, fun _ _ _ _ h => by simp at h⟩
theorem OwnN.below {W W' : World} {base : Nat} {v : Value} {L : List Nm} (h : OwnN W base v L) (B : Below W.heap.size W W') : OwnN W' base v L := by
  obtain ⟨vs, h⟩ := h
  exact ⟨vs, h.len, own_below h.row B, fun j x u a b => own_below (h.lab j x u a b) B, h.ap⟩
theorem info54 : (Try.prog.info? 54).map (fun i => (i.zero, i.size, i.bytes)) = some (some (.agg #[.int .i64 0, .slice none 0 0]), 2, 32) := by kernel_rfl
/-- one named label more -/
theorem snocN (W : World) (base : Nat) (v : Value) (L : List Nm) (x : Nm) (f : Option Addr) (c : Nat) (vs : List Value) (h : OwnN' W base v L vs) (hu : OwnI W base (.slice f x.2.length c) x.2) (hfr : ∀ b, (Value.slice f x.2.length c).ownBlock = some b → ∀ (j : Nat) (u : Value), vs[j]? = some u → u.ownBlock ≠ some b) (hl : L.length ≤ 1000) (hb : base ≤ W.heap.size) :
    ∃ v' w', (Builtin.append_ #[46, 46] 46 #[v, .slice (some ⟨W.heap.size, 0, none⟩) 1 1]).run Try.prog (W.alloc (.cells #[.int .i64 x.1, .slice f x.2.length c] 54)) = .ok v' w' ∧ OwnN w' base v' (L ++ [x]) ∧ (W.alloc (.cells #[.int .i64 x.1, .slice f x.2.length c] 54)).grownBy w' v.ownBlock := by
  obtain ⟨i0, hi, hz0, hz1, hz2⟩ := info_parts info54
  obtain ⟨g, cap, w', hr, ho, hg⟩ := snocX base 46 54 i0 _ 2 32 Try.underlying46 hi hz0 hz1 hz2 rfl (by omega) (by omega) W v L.length (cN L vs) #[.int .i64 x.1, .slice f x.2.length c] rfl (by simp [Value.oneCell']) h.row (by omega) hb
  have kept : ∀ (u : Value) (l : List Int), OwnI W base u l → OwnI w' base u l := fun u l ho => by
    refine own_apart (own_below ho ((Below.refl _ W).alloc (Nat.le_refl _) _)) hg (fun b hb2 e => ?_)
    obtain ⟨_, cur, k1⟩ := own_row ho b hb2
    obtain ⟨_, cur2, k2⟩ := own_row h.row b e
    rw [k1] at k2; injection k2 with k2; injection k2 with _ k2; cases k2
  refine ⟨_, w', hr, ⟨vs ++ [.slice f x.2.length c], by simp [h.len], ?_, fun j y u h1 h2 => ?_, fun i j u u' h1 h2 hij b h3 => ?_⟩, hg⟩
  · rw [cN_snoc L vs x _ h.len.symm, List.length_append]; exact ho
  · by_cases hj : j < L.length
    · rw [List.getElem?_append_left hj] at h1
      rw [List.getElem?_append_left (by rw [h.len]; exact hj)] at h2
      exact kept _ _ (h.lab j y u h1 h2)
    · have hj2 : j = L.length := by
        have := (List.getElem?_eq_some_iff.1 h1).1
        simp at this; omega
      subst hj2
      simp at h1; subst h1
      rw [← h.len] at h2
      simp at h2; subst h2
      exact kept _ _ hu
  · have hv : ∀ (k : Nat) (z : Value), (vs ++ [Value.slice f x.2.length c])[k]? = some z → (vs[k]? = some z ∧ k < vs.length) ∨ (k = vs.length ∧ z = .slice f x.2.length c) := fun k z hz => by
      by_cases hk : k < vs.length
      · rw [List.getElem?_append_left hk] at hz; exact .inl ⟨hz, hk⟩
      · have := (List.getElem?_eq_some_iff.1 hz).1
        simp at this
        have hk2 : k = vs.length := by omega
        subst hk2
        simp at hz; exact .inr ⟨rfl, hz.symm⟩
    rcases hv i u h1 with ⟨a1, a2⟩ | ⟨a1, rfl⟩
    · rcases hv j u' h2 with ⟨b1, b2⟩ | ⟨b1, rfl⟩
      · exact h.ap i j u u' a1 b1 hij b h3
      · exact fun e => hfr b e i u a1 h3
    · rcases hv j u' h2 with ⟨b1, b2⟩ | ⟨b1, rfl⟩
      · exact hfr b h3 j u' b1
      · omega
theorem OwnN'.below {W W' : World} {base : Nat} {v : Value} {L : List Nm} {vs : List Value} (h : OwnN' W base v L vs) (B : Below W.heap.size W W') : OwnN' W' base v L vs :=
  ⟨h.len, own_below h.row B, fun j x u a b => own_below (h.lab j x u a b) B, h.ap⟩
theorem OwnN'.lt {W : World} {base : Nat} {v : Value} {L : List Nm} {vs : List Value} (h : OwnN' W base v L vs) (j : Nat) (u : Value) (hu : vs[j]? = some u) (b : Nat) (hb : u.ownBlock = some b) : b < W.heap.size := by
  have hj := (List.getElem?_eq_some_iff.1 hu).1
  rw [h.len] at hj
  exact (OwnI.base (h.lab j _ u (List.getElem?_eq_getElem hj) hu) b hb).2
theorem three_own (W : World) (a b c : Int) : OwnI (W.alloc (.cells #[.int .i64 a, .int .i64 b, .int .i64 c] 3)) W.heap.size (.slice (some ⟨W.heap.size, 0, none⟩) 3 3) [a, b, c] :=
  ⟨rfl, .inr ⟨W.heap.size, 3, _, rfl, Nat.le_refl _, heap_alloc_new W _, by simp, by unfold maxLen; omega, by simp, by simp [cI]⟩⟩
def labF (m : PM) (V : List Int) : List Nm := V.map fun v => (v, [(gp m v).root, (gp m v).depth, (gp m v).edge])
def labelsC (g : Gr) : List Nm × Int := if g.ok = true then (labF (growF g.es (keysV g.vs)) (keysV g.vs), 0) else ([], 70)
set_option maxRecDepth 100000 in
theorem Labels_any (v : Value) (g : Gr) (w : World) (hv : GV w v g) (hn : g.small) :
    Calls Try.prog 17 #[v] w fun e w' => ∃ r, e = .returned (.tuple #[r, .int .i64 (labelsC g).2]) ∧ OwnN w' w.heap.size r (labelsC g).1 ∧ Below w.heap.size w w' := by
  obtain ⟨a1, a2, b1, b2, c1v, c2, rfl, hv1, _, _⟩ := gv_shape hv
  have hR : Hid (labelsC g = if g.ok = true then (labF (growF g.es (keysV g.vs)) (keysV g.vs), 0) else ([], 70)) := rfl
  obtain ⟨w1, hw1⟩ : ∃ w1, w1 = w.alloc (.cells #[.slice a1 g.vs.length a2, .slice b1 g.es.length b2, .slice c1v g.ds.length c2] 28) := ⟨_, rfl⟩
  have gb : w1.heap[w.heap.size]? = some (.cells #[.slice a1 g.vs.length a2, .slice b1 g.es.length b2, .slice c1v g.ds.length c2] 28 (0, 0)) := by rw [hw1]; exact heap_alloc_new w _
  have B0 : Below w.heap.size w w1 := by rw [hw1]; exact (Below.refl _ w).alloc (Nat.le_refl _) _
  have hs1 : w1.heap.size = w.heap.size + 1 := by rw [hw1]; simp
  obtain ⟨g0, g1, g2⟩ := box3g gb
  have hG1 := Lib.hid (fun W (q : Below w1.heap.size w1 W) => box3g ((q.block _ (by omega)).trans gb))
  have hVal := Lib.hid (Valid_any _ g w1 (hv.below B0) hn)
  have hGr := Lib.hid (fun (h : g.ok = true) W (q : Below w1.heap.size w1 W) => grow_any _ g W ((hv.below B0).below q) (ok_facts h).1 (ok_facts h).2)
  have hsm := Lib.hid (fun (h : g.ok = true) => (ok_facts h).1.1)
  have cellV := Lib.hid (fun (k : Nat) (hk : k < g.vs.length) => by
    obtain ⟨b, o, h1, h2⟩ := (hv1.below B0).cells k hk
    exact (show ∃ b o, a1 = some ⟨b, o, none⟩ ∧ ∀ W, Below w1.heap.size w1 W → W.cell? ⟨b, o + k * 2, none⟩ = some (.int .i64 g.vs[k].id) ∧ W.cell? ⟨b, o + k * 2 + 1, none⟩ = some (.int .i64 g.vs[k].side) from ⟨b, o, h1, h2⟩))
  replace hw1 := Lib.hid hw1
  have hB0 := Lib.hid B0
  have hbase : Hid (w.heap.size ≤ w1.heap.size) := by show _ ≤ _; omega
  generalize labelsC g = R at *
  obtain ⟨R1, R2⟩ := R
  generalize hmm : growF g.es (keysV g.vs) = m at *
  obtain ⟨A, hA⟩ : ∃ A : Nat → List Nm, ∀ k, A k = labF m ((keysV g.vs).take k) := ⟨_, fun _ => rfl⟩
  have hA0 : Hid (A 0 = []) := by show _ = _; rw [hA]; rfl
  have hAs := Lib.hid (fun (k : Nat) (hk : k < g.vs.length) => (show A (k + 1) = A k ++ [(g.vs[k].id, [(gp m g.vs[k].id).root, (gp m g.vs[k].id).depth, (gp m g.vs[k].id).edge])] by
    have hk' : k < (keysV g.vs).length := by simpa [keysV] using hk
    rw [hA, hA, List.take_succ_eq_append_getElem hk']
    unfold labF
    rw [List.map_append, show (keysV g.vs)[k] = g.vs[k].id from by simp [keysV]]; rfl))
  have hAe : Hid (A g.vs.length = labF m (keysV g.vs)) := by show _ = _; rw [hA, List.take_of_length_le (by simp [keysV])]
  have hAl := Lib.hid (fun k => (show (A k).length ≤ g.vs.length by
    rw [hA]; unfold labF; rw [List.length_map, List.length_take]
    have h3 : (keysV g.vs).length = g.vs.length := by simp [keysV]
    omega))
  replace hmm := Lib.hid hmm
  generalize hok : g.ok = ok at *
  obtain ⟨N, hN⟩ : ∃ N, Hid (N = g.vs.length) := ⟨_, rfl⟩
  rw [← hN.out] at hw1 hVal hG1 hAe hAl hGr hsm g0
  rw [← hN.out]
  generalize g.es.length = n2 at *
  generalize g.ds.length = n3 at *
  clear hs1 B0 gb hv hv1 hA hok
  cases ok with
  | false =>
    obtain ⟨r1, r2⟩ := Prod.mk.inj hR.out
    replace r1 := Lib.hid r1
    replace r2 := Lib.hid r2
    clear hR hGr hAs
    go_enter Try.func17, Try.ntmps17
    go_upto_region 1 with (fail)
    rw [← hw1.out]
    go_wp2_with fail
    refine hVal.out.mono ?_
    rintro e w2 ⟨rfl, b2⟩
    have B2 := Lib.hid (hB0.out.trans (b2.mono hB0.out.size))
    clear b2 hVal g0 g1 g2
    go_wp2_with fail
    go_ret2
    rw [r1.out, r2.out]
    exact ⟨_, rfl, OwnN.nil _ _, B2.out⟩
  | true =>
    obtain ⟨r1, r2⟩ := Prod.mk.inj hR.out
    replace r1 := Lib.hid r1
    replace r2 := Lib.hid r2
    have hg2 := Lib.hid (hGr.out (by trivial))
    have hN24 : N ≤ 24 := hsm.out (by trivial)
    clear hR hGr hsm
    go_enter Try.func17, Try.ntmps17
    go_upto_region 1 with (fail)
    rw [← hw1.out]
    go_wp2_with fail
    refine hVal.out.mono ?_
    rintro e w2 ⟨rfl, b2⟩
    have B2 := Lib.hid b2
    clear b2 hVal g0 g1 g2
    obtain ⟨g0, g1, g2⟩ := hG1.out w2 B2.out
    go_wp2_with fail
    refine (hg2.out w2 B2.out).mono ?_
    rintro e w3 ⟨mb, rfl, h1, h2, hP, b3⟩
    have B3 := Lib.hid (B2.out.trans (b3.mono B2.out.size))
    have hPW := Lib.hid (fun W (q : Below w3.heap.size w3 W) => hP.below q h2)
    clear b3 g0 g1 g2 hP hg2
    obtain ⟨g0, g1, g2⟩ := hG1.out w3 B3.out
    go_wp2_with fail
    clear g0 g1 g2
    go_loopg [5, 17] N (fun n lv iv wr => ∃ k : Nat, k + n = N ∧ iv = .int .i64 k ∧ OwnN wr w3.heap.size lv (A k) ∧ Below w3.heap.size w3 wr)
    case atStart => exact ⟨0, by omega, rfl, by rw [hA0.out]; exact OwnN.nil _ _, Below.refl _ _⟩
    case round =>
      obtain ⟨k, hk, rfl, hown, B⟩ := hrel
      obtain ⟨wo, rfl⟩ : ∃ x, x = wr := ⟨_, rfl⟩
      cases gk with
      | zero =>
        have hk2 : k = N := by omega
        have i1 : ¬ (k : Int) < (N : Int) := by omega
        rw [hk2, hAe.out] at hown
        have hB := Lib.hid (B3.out.trans (B.mono B3.out.size))
        have hfin := Lib.hid hown
        clear hk2 hk hown B
        go_wp2_with fail
        go_ret2
        rw [r1.out, r2.out]
        have hle := B3.out.size
        have hbs := hbase.out
        obtain ⟨vs, hf⟩ := hfin.out
        have lw : ∀ {e : TypeId} {s n : Nat} {v : Value} {xs : List Value}, wo.ownsRow w3.heap.size e s v n xs → wo.ownsRow w.heap.size e s v n xs := fun h => ⟨h.1, h.2.imp id fun ⟨g, cap, cur, h1, h2, h3⟩ => ⟨g, cap, cur, h1, by omega, h3⟩⟩
        exact ⟨_, rfl, ⟨vs, hf.len, lw hf.row, fun j x u a b => lw (hf.lab j x u a b), hf.ap⟩, hB0.out.trans (hB.out.mono hbs)⟩
      | succ ga =>
        have hlt : k < N := by omega
        have hkl : k < g.vs.length := by rw [← hN.out]; exact hlt
        obtain ⟨bv, ov, rfl, cv⟩ := cellV.out k hkl
        obtain ⟨d0, d1⟩ := cv wo (B3.out.trans (B.mono B3.out.size))
        have i0 : (0 : Int) ≤ (k : Int) := by omega
        have i1 : (k : Int) < (N : Int) := by omega
        have hst := Lib.hid (hAs.out k hkl)
        have hln := hAl.out k
        have hle : Hid (k + 1 + ga = N) := by show _ = _; omega
        generalize g.vs[k].id = r at *
        generalize g.vs[k].side = sd at *
        generalize A k = L at *
        obtain ⟨W0, hW0⟩ : ∃ W0, W0 = wo.alloc (.cells #[.int .i64 r, .int .i64 sd] 31) := ⟨_, rfl⟩
        obtain ⟨W1, hW1⟩ : ∃ W1, W1 = W0.alloc (.cells #[.int .i64 (gp m r).root, .int .i64 (gp m r).depth, .int .i64 (gp m r).edge] 72) := ⟨_, rfl⟩
        have C0 : Below wo.heap.size wo W0 := by rw [hW0]; exact (Below.refl _ wo).alloc (Nat.le_refl _) _
        have C1 : Below W0.heap.size W0 W1 := by rw [hW1]; exact (Below.refl _ W0).alloc (Nat.le_refl _) _
        have z0' : W0.heap.size = wo.heap.size + 1 := by rw [hW0]; simp
        have z1' : W1.heap.size = wo.heap.size + 2 := by rw [hW1]; simp; omega
        have vb : W0.heap[wo.heap.size]? = some (.cells #[.int .i64 r, .int .i64 sd] 31 (0, 0)) := by rw [hW0]; exact two_cells _ _ _ _
        have v0 : W0.cell? ⟨wo.heap.size, 0, none⟩ = some (.int .i64 r) := by rw [cell_of_row _ _ _ _ _ _ vb]; rfl
        have v1 : W1.cell? ⟨wo.heap.size, 0, none⟩ = some (.int .i64 r) := by rw [cell_of_row _ _ _ _ _ _ ((C1.block _ (by omega)).trans vb)]; rfl
        have pb : W1.heap[W0.heap.size]? = some (.cells #[.int .i64 (gp m r).root, .int .i64 (gp m r).depth, .int .i64 (gp m r).edge] 72 (0, 0)) := by rw [hW1]; exact heap_alloc_new _ _
        obtain ⟨p0, p1, p2⟩ := box3g pb
        have C2 := C0.trans (C1.mono (by omega))
        have hget := (hPW.out W0 (B.trans (C0.mono B.size))).get r
        obtain ⟨vs, hown⟩ := hown
        generalize (gp m r).root = x1 at *
        generalize (gp m r).depth = x2 at *
        generalize (gp m r).edge = x3 at *
        obtain ⟨W2, hW2⟩ : ∃ W2, W2 = W1.alloc (.cells #[.int .i64 x1, .int .i64 x2, .int .i64 x3] 3) := ⟨_, rfl⟩
        have C3 : Below W1.heap.size W1 W2 := by rw [hW2]; exact (Below.refl _ W1).alloc (Nat.le_refl _) _
        have C4 := C2.trans (C3.mono (by omega))
        have Bw := B.trans (C4.mono B.size)
        have h3o : OwnI W2 w3.heap.size (.slice (some ⟨W1.heap.size, 0, none⟩) 3 3) [x1, x2, x3] := by
          have h := three_own W1 x1 x2 x3
          rw [← hW2] at h
          exact ⟨h.1, h.2.imp id fun ⟨g, cap, cur, h1, h2, h3⟩ => ⟨g, cap, cur, h1, by have := B.size; omega, h3⟩⟩
        obtain ⟨v', w', hr, ho2, gg⟩ := snocN W2 w3.heap.size _ L (r, [x1, x2, x3]) (some ⟨W1.heap.size, 0, none⟩) 3 vs (hown.below C4) h3o (fun b hb j u hu e => by
          have e1 : W1.heap.size = b := by simpa [Value.ownBlock] using hb
          have := hown.lt j u hu b e
          omega) (by omega) Bw.size
        have hb3 := Lib.hid ((Bw.alloc Bw.size (.cells #[.int .i64 r, .slice (some ⟨W1.heap.size, 0, none⟩) 3 3] 54)).grown gg (by have := Bw.size; simp; omega) (fun b hb => (own_row (hown.below C4).row b hb).1))
        have hnew : Hid (A (k + 1) = L ++ [(r, [x1, x2, x3])]) := hst.out
        replace ho2 := Lib.hid ho2
        replace hW0 := Lib.hid hW0
        replace hW1 := Lib.hid hW1
        replace hW2 := Lib.hid hW2
        clear hst hown B C0 C1 C2 C3 C4 Bw h3o gg vb pb cv hk hkl hlt hln z0' z1'
        go_upto_region 8 with (fail)
        rw [← hW0.out]
        clear d0 d1
        go_upto_region 9 with (fail)
        rw [← hW1.out]
        rw [show W2.heap.size = W1.heap.size + 1 by rw [hW2.out]; simp, hW2.out] at hr
        clear hPW cellV hAs hAl hAe hA0 hB0 r1 r2 hG1 B3 hmm
        go_wp2_with (at_builtin; refine wpList_append_runB rfl (.tmp 25) (.tmp 36) 46 rfl u5 (.slice (some ⟨W1.heap.size + 1, 0, none⟩) 1 1) rfl rfl _ _ hr ?_)
        go_roundg ga
        case measure => omega
        case rel => exact ⟨k + 1, hle.out, by go_num, by rw [hnew.out]; exact ho2.out, hb3.out⟩

end Go.Proofs.Ythmkmjkbfjhffaa
/- Contracts and facts. -/
set_option linter.unusedSimpArgs false
set_option maxRecDepth 100000
set_option maxHeartbeats 4000000
namespace Go.Proofs.Ythmkmjkbfjhffaa
open Go.RowKit Go.Shelf
attribute [local go_sem] Oper.semAt_some
def KB (n₀ Bs : Nat) (A B : World) : Prop := Below n₀ A B ∧ B.heap[Bs]? = A.heap[Bs]?
theorem KB.trans {n₀ Bs : Nat} {A B C : World} (h : KB n₀ Bs A B) (g : KB n₀ Bs B C) : KB n₀ Bs A C := ⟨h.1.trans g.1, g.2.trans h.2⟩
set_option maxRecDepth 100000 in
/-- slices.Backward's closure: for every body that keeps what lay below n₀ -/
theorem back1_in {α : Type} (F : Fence) (n : Nat) (h7 : F.fn 69) (hro : F.round = none) (hn : 1 ≤ n) (l Bs n₀ len cap : Nat) (a : Option Addr) (enc : α → Array Value) (zs : List α) (hl : zs.length = len) (hlen : len ≤ 1000000000) (J Jx : List α → World → Prop)
    (hY : ∀ pre x W, J pre W → pre.length < len → YieldAt F (n - 1) Try.prog l (enc x) W fun e W' =>
      (e = .returned (.bool true) ∧ J (pre ++ [x]) W' ∧ KB n₀ Bs W W') ∨ (e = .returned (.bool false) ∧ Jx (pre ++ [x]) W'))
    (W : World) (hBs : Boxed W Bs 46 (.slice a len cap))
    (hc : ∀ j (h : j < zs.length), ∃ b o i lv, a = some ⟨b, o, none⟩ ∧ b < n₀ ∧ W.cell? ⟨b, o + j * 2, none⟩ = some (.int .i64 i) ∧ W.cell? ⟨b, o + j * 2 + 1, none⟩ = some lv ∧ enc zs[j] = #[.int .i64 j, .agg #[.int .i64 i, lv]]) (h0 : J [] W) :
    CallsIn F n Try.prog 69 #[.func (.yield l) #[] #[], .pointer (some ⟨Bs, 0, none⟩)] W fun e W' => (∃ v, e = .returned v) ∧
      ((∃ ys, ys = zs.reverse ∧ J ys W') ∨ (∃ pre, True ∧ Jx pre W')) := by
  refine callsIn_of_wp Try.func69 rfl h7 ?_ hro
  simp only [Try.ntmps69, List.size_toArray, List.length_cons, List.length_nil, Nat.reduceAdd, Nat.reduceSub, Array.replicate_succ, Array.replicate_zero, List.push_toArray, List.append_toArray, List.nil_append, List.cons_append]
  have cB := hBs.cell
  gi_wp2
  gi_loopw [3] (fun i wr => ∃ k : Nat, k ≤ len ∧ i = .int .i64 ((k : Int) - 1) ∧ J (zs.drop k).reverse wr ∧ KB n₀ Bs W wr)
    (fun i _ => (intOf i + 1).toNat)
  case atStart => exact ⟨len, Nat.le_refl _, by go_num, by rw [← hl, List.drop_length]; exact h0, Below.refl _ _, rfl⟩
  case round =>
    obtain ⟨k, hk, rfl, hJs, hnx⟩ := hrel
    cases k with
    | zero =>
      have i1 : ¬ (0 : Int) ≤ ((0 : Nat) : Int) - 1 := by omega
      gi_wp2
      go_end0
      exact ⟨⟨_, rfl⟩, .inl (by simpa using hJs)⟩
    | succ m =>
      have hm : m < zs.length := by omega
      obtain ⟨b, o, i, lv, rfl, hb, c0, c1, he⟩ := hc m hm
      obtain ⟨fn, tmps, assign, body, hy, hR⟩ := hY _ zs[m] wr hJs (by rw [List.length_reverse, List.length_drop]; omega)
      rw [he] at hy
      have c0' := (hnx.1.cell (p := ⟨b, o + m * 2, none⟩) hb).trans c0
      have c1' := (hnx.1.cell (p := ⟨b, o + m * 2 + 1, none⟩) hb).trans c1
      have cB := (show Boxed wr Bs 46 (.slice (some ⟨b, o, none⟩) len cap) from hnx.2.trans hBs).cell
      rw [show ((m + 1 : Nat) : Int) - 1 = (m : Int) by omega]
      have i0 : (0 : Int) ≤ (m : Int) := by omega
      have i1 : (m : Int) < (len : Int) := by omega
      gi_wp2
      refine hR.mono ?_
      rintro e W3 (⟨rfl, hJ3, hk3⟩ | ⟨rfl, hJx3⟩)
      · gi_wp2
        go_roundw
        case rel => exact ⟨m, by omega, by go_num, by rw [List.drop_eq_getElem_cons hm, List.reverse_cons]; exact hJ3, hnx.trans hk3⟩
        case measure => simp [intOf]
      · gi_wp2
        refine bodyPost_ret (results_none rfl _ _ _) rfl ?_
        exact ⟨⟨_, rfl⟩, .inr ⟨_, trivial, hJx3⟩⟩
theorem back_in (F : Fence) (n : Nat) (h5 : F.fn 57) (hro : F.round = none) (a : Option Addr) (len cap : Nat) (w : World) :
    CallsIn F n Try.prog 57 #[.slice a len cap] w fun e w' => e = .returned (.func (.func 69) #[] #[.pointer (some ⟨w.heap.size, 0, none⟩)]) ∧ w' = w.alloc (.cells #[.slice a len cap] 46) := by
  refine callsIn_of_wp Try.func57 rfl h5 ?_ hro
  simp only [Try.ntmps57, List.size_toArray, List.length_cons, List.length_nil, Nat.reduceAdd, Nat.reduceSub, Array.replicate_succ, Array.replicate_zero, List.push_toArray, List.append_toArray, List.nil_append, List.cons_append]
  gi_wp2
  go_ret
  exact ⟨rfl, rfl⟩
theorem list_choose {α β : Type} : ∀ (L : List β) (Q : Nat → β → α → Prop), (∀ j x, L[j]? = some x → ∃ y, Q j x y) → ∃ zs : List α, zs.length = L.length ∧ ∀ j (h1 : j < zs.length) (x : β), L[j]? = some x → Q j x zs[j] := by
  intro L
  induction L with
  | nil => intro Q _; exact ⟨[], rfl, fun j h1 => absurd h1 (by simp)⟩
  | cons b L ih =>
    intro Q h
    obtain ⟨y, hy⟩ := h 0 b rfl
    obtain ⟨zs, h1, h2⟩ := ih (fun j x y => Q (j + 1) x y) (fun j x hx => h (j + 1) x (by simpa using hx))
    refine ⟨y :: zs, by simp [h1], fun j hj x hx => ?_⟩
    cases j with
    | zero => simp at hx; subst hx; exact hy
    | succ j => exact h2 j (by simpa using hj) x (by simpa using hx)
theorem wlIn_delete {F : Fence} {nF : Nat} {P : Program} {ops : Array Oper} {rest : List Oper} {o : Oper} {a : Act} {Q : Exit → Act → World → Prop} {w : World} (hg : o.guard = none) (m x : Operand) (t k : TypeId)
    (hop : o.op = Op.call { callee := Callee.builtin Builtin.delete, args := #[m, x], argTypes := #[t, k] }) (mv kv : Value) (hm : a.eval m = mv) (hx : a.eval x = kv) (w' : World)
    (hrun : (Builtin.delete_ #[t, k] o.type #[mv, kv]).run P w = .ok (.tuple #[]) w') (h : wpListIn F nF P ops Q rest (a.put o.dst (.tuple #[])) w') : wpListIn F nF P ops Q (o :: rest) a w := by
  refine wpListIn_plain hg fun K' hK' => ?_
  unfold Oper.wpIn
  refine ⟨by simp [Oper.about, hop, resolve, Target.leads, Sem.run_pure], ?_⟩
  rw [Oper.semAt_plain F _ _ (by rw [hop]; intro c hc'; cases hc')]
  simp [execOp, hop, resolve, invoke, builtin, hm, hx, hrun, Result.andThen]
  exact hK' _ _ h
theorem wlIn_update {F : Fence} {nF : Nat} {P : Program} {ops : Array Oper} {rest : List Oper} {o : Oper} {a : Act} {Q : Exit → Act → World → Prop} {w : World} (hg : o.guard = none) (m x v : Operand) (t : TypeId)
    (hop : o.op = Op.mapUpdate t m x v) (mv kv vv : Value) (hm : a.eval m = mv) (hx : a.eval x = kv) (hv : a.eval v = vv) (w' : World)
    (hrun : (Instr.mapUpdate t mv kv vv).run P w = .ok () w') (h : wpListIn F nF P ops Q rest (a.put o.dst undef) w') : wpListIn F nF P ops Q (o :: rest) a w := by
  refine wpListIn_plain hg fun K' hK' => ?_
  unfold Oper.wpIn
  refine ⟨by simp [Oper.about, hop], ?_⟩
  rw [Oper.semAt_plain F _ _ (by rw [hop]; intro c hc'; cases hc')]
  simp [execOp, hop, hm, hx, hv, hrun, Result.andThen]
  exact hK' _ _ h
def stepR (m : PM) (x : Nm) : PM := if x.2.length = 3 then putP m x.1 ⟨x.2[0]?.getD 0, x.2[1]?.getD 0, x.2[2]?.getD 0⟩ else fun k => if k = x.1 then none else m k
def readF (L : List Nm) : PM := L.reverse.foldl stepR (fun _ => none)
theorem PMV.strike {W : World} {mb : Nat} {m : PM} (h : PMV W mb m) (i : Int) (ty : TypeId) : ∃ W', (Builtin.delete_ #[69, 3] ty #[.map (some mb), .int .i64 i]).run Try.prog W = .ok (.tuple #[]) W' ∧ PMV W' mb (fun k => if k = i then none else m k) ∧ W.grownBy W' (some mb) ∧ W'.heap.size = W.heap.size := by
  obtain ⟨W', h1, h2, h3, h4⟩ := MI.MI.strike Try.underlying69 Try.underlying3 h i ty
  refine ⟨W', h1, MI.MI.congr h2 (fun k => ?_), h3, h4⟩
  show (if k = i then none else (m k).map plV) = ((if k = i then none else m k) : Option Pl).map plV
  split <;> rfl
abbrev RX (n₀ : Nat) (w : World) := { x : Nat × Int × Value × List Int // ∀ W, Below n₀ w W → DL W x.2.2.1 x.2.2.2 }
def RX.enc {n₀ : Nat} {w : World} (x : RX n₀ w) : Array Value := #[.int .i64 x.1.1, .agg #[.int .i64 x.1.2.1, x.1.2.2.1]]
def RX.nm {n₀ : Nat} {w : World} (x : RX n₀ w) : Nm := (x.1.2.1, x.1.2.2.2)

end Go.Proofs.Ythmkmjkbfjhffaa
