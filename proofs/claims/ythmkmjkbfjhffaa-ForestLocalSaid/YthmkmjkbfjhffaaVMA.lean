/- Contracts and facts. -/
import Derived.Deep.LoopGhost
import Derived.Handy
import Derived.Lib.SliceRun
import Derived.WalkMore
import Derived.BigRegion
import Derived.Laws.EntriesVeiled
import Derived.Test.YthmkmjkbfjhffaaVGI
import Derived.Test.YthmkmjkbfjhffaaVHA
import Derived.Maps.OwnSet
import Derived.RangeFuncCalls
import Derived.Test.YthmkmjkbfjhffaaVShelf
import Derived.Test.YthmkmjkbfjhffaaVFA
import Derived.Test.YthmkmjkbfjhffaaVNVYMw
import Derived.Test.YthmkmjkbfjhffaaVNVYR
import Derived.Test.YthmkmjkbfjhffaaVNVYPO
set_option linter.unusedSimpArgs false
set_option maxRecDepth 100000
set_option maxHeartbeats 4000000
namespace Go.Proofs.Ythmkmjkbfjhffaa
open Go.RowKit
theorem below_setRowL {W W' : World} {B b : Nat} (h : Below B W W') (hb : B ≤ b) (cs : Array Value) : Below B W (W'.setRow b cs) :=
  h.trans ⟨rfl, rfl, rfl, by simp, fun k hk => setRow_other W' b k _ (by omega)⟩
theorem results_cell_tmp1_row {P : Program} {fn : Func} {p q : Tmp} {ty : TypeId} (h : fn.results = #[.cell p ty, .tmp q]) (tmps : Array Value) (w : World) (g : Nat) (t : TypeId) (cs : Array Value) (fr : Nat × Nat) (d : TypeDesc) (u : Value)
    (hp : tmps.getD p undef = .pointer (some ⟨g, 0, none⟩)) (hq : tmps.getD q undef = u) (hg : w.heap[g]? = some (.cells cs t fr))
    (hu : P.underlying ty = some d) (hd : (match d with | .struct _ | .array _ _ => true | _ => false) = true) (hi : (P.info? ty).map (·.size) = some cs.size) :
    (results fn tmps).run P w = .ok (.tuple #[.agg cs, u]) w := by
  have hp' : tmps[p]?.getD undef = .pointer (some ⟨g, 0, none⟩) := by simpa using hp
  have hq' : tmps[q]?.getD undef = u := by simpa using hq
  simp [results, h, hp', hq', asAddr, run_loadVar_row w g t ty cs fr d hg hu hd hi]
set_option maxRecDepth 100000 in
set_option maxHeartbeats 4000000 in
theorem clone_any (v : Value) (l : List Int) (w : World) (hv : DL w v l) (hl : l.length ≤ 1000000) :
    Calls Try.prog 60 #[v] w fun e w' => ∃ r, e = .returned r ∧ OwnI w' w.heap.size r l ∧ Below w.heap.size w w' := by
  obtain ⟨a, c, rfl⟩ := hv.shape
  cases a with
  | none =>
    have hl0 : l = [] := by
      rcases hv with ⟨h, _⟩ | ⟨_, b, o, c', e, _⟩
      · exact h
      · injection e with e; cases e
    subst hl0
    have hq : ∀ W, (binOp .eql 26 (.slice none 0 c) (.slice none 0 0)).run Try.prog W = .ok (.bool true) W := fun W => Lib.run_eql_slice_nil W 26 3 none 0 c 0 0 Try.underlying26
    go_enter Try.func60, Try.ntmps60
    go_wp2_with fail
    go_ret
    exact ⟨_, rfl, World.ownsRow_nil _ _ _ _, Below.refl _ _⟩
  | some x =>
    have hEm : OwnI (w.alloc (.cells #[] 3)) w.heap.size (.slice (some ⟨w.heap.size, 0, none⟩) 0 0) [] := ⟨rfl, .inr ⟨w.heap.size, 0, #[], rfl, Nat.le_refl _, heap_alloc_new w _, by simp, by unfold maxLen; omega, by simp, by simp [cI]⟩⟩
    have hb : Below w.heap.size w (w.alloc (.cells #[] 3)) := (Below.refl _ w).alloc (Nat.le_refl _) _
    obtain ⟨v', w', hr, ho, hbz⟩ := app_emptyI (w.alloc (.cells #[] 3)) w.heap.size w.heap.size hEm _ l (hv.below hb) (by simp) hl
    have hfin := Lib.hid (show OwnI w' w.heap.size v' l ∧ Below w.heap.size w w' from ⟨ho, hb.trans (hbz.mono hb.size)⟩)
    clear hEm hb ho hbz hv
    have hq : ∀ W, (binOp .eql 26 (.slice (some x) l.length c) (.slice none 0 0)).run Try.prog W = .ok (.bool false) W := fun W => Lib.run_eql_slice_nil W 26 3 (some x) l.length c 0 0 Try.underlying26
    go_enter Try.func60, Try.ntmps60
    go_wp2_with (at_builtin; refine wpList_append_runB rfl (.tmp 5) (.tmp 6) 26 rfl (.slice (some ⟨w.heap.size, 0, none⟩) 0 0) (.slice (some x) l.length c) rfl rfl _ _ hr ?_)
    go_ret
    exact ⟨_, rfl, hfin.out.1, hfin.out.2⟩
def vtxF (vs : List Vx) (id : Int) : Vx := (vs.find? (fun v => v.id == id)).getD ⟨0, 0⟩
theorem info31s (a b : Value) : (Try.prog.info? 31).map (·.size) = some (#[a, b] : Array Value).size := by kernel_rfl
set_option maxRecDepth 100000 in
theorem vertex_any (v : Value) (g : Gr) (id : Int) (w : World) (hv : GV w v g) (hn : g.vs.length ≤ 1000000) :
    Calls Try.prog 58 #[v, .int .i64 id] w fun e w' => e = .returned (.tuple #[.agg #[.int .i64 (vtxF g.vs id).id, .int .i64 (vtxF g.vs id).side], .bool (decide (id ∈ keysV g.vs))]) ∧ Below w.heap.size w w' := by
  obtain ⟨a1, a2, b1, b2, c1v, c2, rfl, hv1, _, _⟩ := gv_shape hv
  obtain ⟨W0, hW0⟩ : ∃ W0, W0 = (w.alloc (.cells #[.slice a1 g.vs.length a2, .slice b1 g.es.length b2, .slice c1v g.ds.length c2] 28)).alloc (.cells #[.int .i64 0, .int .i64 0] 31) := ⟨_, rfl⟩
  have B0 : Below w.heap.size w W0 := by rw [hW0]; exact ((Below.refl _ w).alloc (Nat.le_refl _) _).alloc (by simp) _
  have z0 : W0.heap.size = w.heap.size + 2 := by rw [hW0]; simp
  have x2 : W0.heap[w.heap.size]? = some (.cells #[.slice a1 g.vs.length a2, .slice b1 g.es.length b2, .slice c1v g.ds.length c2] 28 (0, 0)) := by rw [hW0]; exact al_keep1 (heap_alloc_new w _)
  have x4 : W0.heap[w.heap.size + 1]? = some (.cells #[.int .i64 0, .int .i64 0] 31 (0, 0)) := by
    rw [hW0]
    have h := heap_alloc_new (w.alloc (.cells #[.slice a1 g.vs.length a2, .slice b1 g.es.length b2, .slice c1v g.ds.length c2] 28)) (.cells #[.int .i64 0, .int .i64 0] 31)
    simpa using h
  have h2 := Lib.hid (fun W (BB : Below W0.heap.size W0 W) => box3g ((BB.block w.heap.size (by omega)).trans x2))
  have h4 := Lib.hid (fun W (BB : Below W0.heap.size W0 W) => (BB.block (w.heap.size + 1) (by omega)).trans x4)
  have hfin := Lib.hid (fun (W : World) (BB : Below W0.heap.size W0 W) cs => below_setRowL (B0.trans (BB.mono B0.size)) (show w.heap.size ≤ w.heap.size + 1 by omega) cs)
  have cellV := Lib.hid (fun (k : Nat) (hk : k < g.vs.length) => by
    obtain ⟨b, o, h1, h2⟩ := (hv1.below B0).cells k hk
    exact (show ∃ b o, a1 = some ⟨b, o, none⟩ ∧ ∀ W, Below W0.heap.size W0 W → W.cell? ⟨b, o + k * 2, none⟩ = some (.int .i64 g.vs[k].id) ∧ W.cell? ⟨b, o + k * 2 + 1, none⟩ = some (.int .i64 g.vs[k].side) from ⟨b, o, h1, h2⟩))
  obtain ⟨N, hN⟩ : ∃ N, Hid (N = g.vs.length) := ⟨_, rfl⟩
  have hyes := Lib.hid (fun (k : Nat) (hk : k < g.vs.length) (hno : ∀ j (h : j < g.vs.length), j < k → g.vs[j].id ≠ id) (he : g.vs[k].id = id) => (show vtxF g.vs id = g.vs[k] ∧ id ∈ keysV g.vs from by
    have hf : g.vs.find? (fun v => v.id == id) = some g.vs[k] := List.find?_eq_some_iff_getElem.2 ⟨by simpa using he, k, hk, rfl, fun j hj => by
      have := hno j (by omega) hj
      simpa using this⟩
    exact ⟨by unfold vtxF; rw [hf]; rfl, mem_keysV.2 ⟨g.vs[k], List.getElem_mem hk, he⟩⟩))
  have hnon := Lib.hid (fun (hno : ∀ j (h : j < g.vs.length), g.vs[j].id ≠ id) => (show vtxF g.vs id = ⟨0, 0⟩ ∧ id ∉ keysV g.vs from by
    refine ⟨?_, fun h => ?_⟩
    · unfold vtxF
      rw [List.find?_eq_none.2 (fun x hx => by
        obtain ⟨j, hj, rfl⟩ := List.getElem_of_mem hx
        simpa using hno j hj)]
      rfl
    · obtain ⟨u, hu, he⟩ := mem_keysV.1 h
      obtain ⟨j, hj, rfl⟩ := List.getElem_of_mem hu
      exact hno j hj he))
  obtain ⟨RV, hRV⟩ : ∃ x, Hid (x = vtxF g.vs id) := ⟨_, rfl⟩
  obtain ⟨RB, hRB⟩ : ∃ x, Hid (x = decide (id ∈ keysV g.vs)) := ⟨_, rfl⟩
  rw [← hRV.out, ← hRB.out]
  rw [← hN.out] at hW0 h2 hn
  rw [← hN.out]
  replace hW0 := Lib.hid hW0
  generalize g.es.length = n2 at *
  generalize g.ds.length = n3 at *
  clear B0 z0 x2 x4 hv hv1
  obtain ⟨g0, g1, g2⟩ := h2.out W0 (Below.refl _ _)
  go_enter Try.func58, Try.ntmps58
  go_upto_region 1 with (fail)
  rw [← hW0.out]
  go_wp2_with fail
  go_loopg [11] N (fun n iv wr => ∃ k : Nat, k + n = N ∧ iv = .int .i64 k ∧ Hid (∀ j (h : j < g.vs.length), j < k → g.vs[j].id ≠ id) ∧ Below W0.heap.size W0 wr)
  case atStart => exact ⟨0, by omega, rfl, fun j h hj => by omega, Below.refl _ _⟩
  case round =>
    obtain ⟨k, hk, rfl, hno, B⟩ := hrel
    obtain ⟨wo, rfl⟩ : ∃ x, x = wr := ⟨_, rfl⟩
    clear g0 g1 g2
    cases gk with
    | zero =>
      have hk2 : k = N := by omega
      have i1 : ¬ (k : Int) < (N : Int) := by omega
      obtain ⟨e1, e2⟩ := hnon.out (fun j h => hno.out j h (by rw [hk2, hN.out]; exact h))
      have f1 : Hid (RV = ⟨0, 0⟩) := by show _ = _; rw [hRV.out, e1]
      have f2 : Hid (RB = false) := by show _ = _; rw [hRB.out, decide_eq_false e2]
      have r4 := h4.out wo B
      have hf := Lib.hid (hfin.out wo B #[.int .i64 0, .int .i64 0])
      clear e1 e2 hk2 hno hk B
      go_wp2_with (refine wpList_store_row rfl 31 (.tmp 4) (.tmp 21) rfl (w.heap.size + 1) #[.int .i64 0, .int .i64 0] rfl rfl 31 _ r4 (info31s _ _) rfl (by simp [Value.oneCell']) ?_)
      refine bodyPost_ret (results_cell_tmp1_row (fn := Try.f58) rfl _ _ (w.heap.size + 1) 31 #[.int .i64 0, .int .i64 0] (0, 0) _ _ rfl rfl (setRow_heap _ _ _ _ _ _ r4) Try.underlying31 rfl (info31s _ _)) rfl ?_
      exact ⟨by rw [f1.out, f2.out]; rfl, hf.out⟩
    | succ ga =>
      have hlt : k < N := by omega
      have hkl : k < g.vs.length := by rw [← hN.out]; exact hlt
      obtain ⟨bv, ov, rfl, cv⟩ := cellV.out k hkl
      obtain ⟨d0, d1⟩ := cv wo B
      have i0 : (0 : Int) ≤ (k : Int) := by omega
      have i1 : (k : Int) < (N : Int) := by omega
      have hle : Hid (k + 1 + ga = N) := by show _ = _; omega
      have hy := Lib.hid (hyes.out k hkl hno.out)
      have hnx := Lib.hid (fun (hne : g.vs[k].id ≠ id) j (h : j < g.vs.length) (hj : j < k + 1) => show g.vs[j].id ≠ id from by
        rcases Nat.lt_or_ge j k with h1 | h1
        · exact hno.out j h h1
        · have : j = k := by omega
          subst this; exact hne)
      generalize g.vs[k] = u at *
      obtain ⟨W1, hW1⟩ : ∃ W1, W1 = wo.alloc (.cells #[.int .i64 u.id, .int .i64 u.side] 31) := ⟨_, rfl⟩
      have b1 : Below wo.heap.size wo W1 := by rw [hW1]; exact (Below.refl _ wo).alloc (Nat.le_refl _) _
      have vb : W1.heap[wo.heap.size]? = some (.cells #[.int .i64 u.id, .int .i64 u.side] 31 (0, 0)) := by rw [hW1]; exact two_cells _ _ _ _
      have v0 : W1.cell? ⟨wo.heap.size, 0, none⟩ = some (.int .i64 u.id) := by rw [cell_of_row _ _ _ _ _ _ vb]; rfl
      have v1 : W1.cell? ⟨wo.heap.size, 1, none⟩ = some (.int .i64 u.side) := by rw [cell_of_row _ _ _ _ _ _ vb]; rfl
      have hB1 := Lib.hid (B.trans (b1.mono B.size))
      replace hW1 := Lib.hid hW1
      clear hno hk hlt hkl cv vb b1 B
      go_upto_region 4 with (fail)
      rw [← hW1.out]
      clear d0 d1
      by_cases he : u.id = id
      · have t1 : (u.id == id) = true := by simpa using he
        obtain ⟨e1, e2⟩ := hy.out he
        have f1 : Hid (RV = u) := by show _ = _; rw [hRV.out, e1]
        have f2 : Hid (RB = true) := by show _ = _; rw [hRB.out, decide_eq_true e2]
        have r4 := h4.out W1 hB1.out
        have hf := Lib.hid (hfin.out W1 hB1.out #[.int .i64 u.id, .int .i64 u.side])
        clear e1 e2 hy hnx he
        go_wp2_with (refine wpList_store_row rfl 31 (.tmp 4) (.tmp 19) rfl (w.heap.size + 1) #[.int .i64 u.id, .int .i64 u.side] rfl rfl 31 _ r4 (info31s _ _) rfl (by simp [Value.oneCell']) ?_)
        refine bodyPost_ret (results_cell_tmp1_row (fn := Try.f58) rfl _ _ (w.heap.size + 1) 31 #[.int .i64 u.id, .int .i64 u.side] (0, 0) _ _ rfl rfl (setRow_heap _ _ _ _ _ _ r4) Try.underlying31 rfl (info31s _ _)) rfl ?_
        exact ⟨by rw [f1.out, f2.out]; rfl, hf.out⟩
      · have t1 : (u.id == id) = false := by simpa using he
        have hn2 := Lib.hid (hnx.out he)
        clear hy hnx he
        go_wp2_with fail
        go_roundg ga
        case measure => omega
        case rel => exact ⟨k + 1, hle.out, by go_num, hn2.out, hB1.out⟩
def vlabF : Int → List Nm → Bool
  | _, [] => true
  | last, x :: l => !(decide (x.1 ≤ last) || decide (24 ≤ x.1) || decide (64 < (x.2.length : Int))) && vlabF x.1 l
set_option maxRecDepth 100000 in
theorem validLabels_any (v : Value) (L : List Nm) (w : World) (hL : NL w v L) (hn : L.length ≤ 1000000) (hx : ∀ x ∈ L, x.2.length ≤ 9223372036854775807) :
    Calls Try.prog 59 #[v] w fun e w' => e = .returned (.bool (vlabF (-1) L)) ∧ Below w.heap.size w w' := by
  obtain ⟨a, c, rfl⟩ := hL.shape
  obtain ⟨R, hR⟩ : ∃ R, Hid (vlabF (-1) L = R) := ⟨_, rfl⟩
  rw [hR.out]
  obtain ⟨N, hN⟩ : ∃ N, Hid (N = L.length) := ⟨_, rfl⟩
  have cL := Lib.hid hL.cells
  have hx2 := Lib.hid hx
  rw [← hN.out] at hn ⊢
  clear hL hx
  go_enter Try.func59, Try.ntmps59
  go_wp2_with fail
  go_loopg [3, 8] N (fun n lv iv wr => ∃ (k : Nat) (last : Int), k + n = N ∧ iv = .int .i64 k ∧ lv = .int .i64 last ∧ Hid (vlabF last (L.drop k) = R) ∧ Below w.heap.size w wr)
  case atStart => exact ⟨0, -1, by omega, rfl, rfl, hR, Below.refl _ _⟩
  case round =>
    obtain ⟨k, last, hk, rfl, rfl, hr, B⟩ := hrel
    obtain ⟨wo, rfl⟩ : ∃ x, x = wr := ⟨_, rfl⟩
    have hB := Lib.hid B
    cases gk with
    | zero =>
      have hk2 : k = N := by omega
      have i1 : ¬ (k : Int) < (N : Int) := by omega
      have hfin : Hid (R = true) := by
        show _ = _
        rw [← hr.out, List.drop_of_length_le (by rw [hk2, hN.out]; exact Nat.le_refl _)]; rfl
      clear hk2 hr hk B
      go_wp2_with fail
      go_ret
      exact ⟨ret_bool hfin.out.symm, hB.out⟩
    | succ ga =>
      have hkl : k < L.length := by have := hN.out; omega
      obtain ⟨bv, ov, lv, rfl, cv⟩ := cL.out k hkl
      obtain ⟨d0, d1, d2⟩ := cv wo B
      have i0 : (0 : Int) ≤ (k : Int) := by omega
      have i1 : (k : Int) < (N : Int) := by have := hN.out; omega
      have hle : Hid (k + 1 + ga = N) := by show _ = _; omega
      have hr2 := hr.out
      rw [List.drop_eq_getElem_cons hkl] at hr2
      have hxk := hx2.out L[k] (List.getElem_mem hkl)
      generalize hdr : L.drop (k + 1) = LD at *
      generalize L[k] = x at *
      obtain ⟨xi, xl⟩ := x
      obtain ⟨l1, l2, rfl⟩ := d2.shape
      simp only at *
      have hst : Hid ((!(decide (xi ≤ last) || decide (24 ≤ xi) || decide (64 < (xl.length : Int))) && vlabF xi LD) = R) := hr2
      generalize hXL : xl.length = XL at *
      obtain ⟨W1, hW1⟩ : ∃ W1, W1 = wo.alloc (.cells #[.int .i64 xi, .slice l1 XL l2] 54) := ⟨_, rfl⟩
      have b1 : Below wo.heap.size wo W1 := by rw [hW1]; exact (Below.refl _ wo).alloc (Nat.le_refl _) _
      have vb : W1.heap[wo.heap.size]? = some (.cells #[.int .i64 xi, .slice l1 XL l2] 54 (0, 0)) := by rw [hW1]; exact heap_alloc_new wo _
      have v0 : W1.cell? ⟨wo.heap.size, 0, none⟩ = some (.int .i64 xi) := by rw [cell_of_row _ _ _ _ _ _ vb]; rfl
      have v1 : W1.cell? ⟨wo.heap.size, 1, none⟩ = some (.slice l1 XL l2) := by rw [cell_of_row _ _ _ _ _ _ vb]; rfl
      have hB1 := Lib.hid (hB.out.trans (b1.mono hB.out.size))
      replace hW1 := Lib.hid hW1
      replace hdr := Lib.hid hdr
      clear hr hk hkl cv vb b1 B hr2 d2 hXL
      go_upto_region 5 with (fail)
      rw [← hW1.out]
      clear d0 d1
      by_cases c1 : xi ≤ last
      · have c1d : decide (xi ≤ last) = true := decide_eq_true c1
        have hfin : Hid (R = false) := by show _ = _; rw [← hst.out, c1d]; rfl
        clear hst
        go_wp2_with fail
        go_ret
        exact ⟨ret_bool hfin.out.symm, hB1.out⟩
      have c1d : decide (xi ≤ last) = false := decide_eq_false c1
      by_cases c2 : 24 ≤ xi
      · have c2d : decide (24 ≤ xi) = true := decide_eq_true c2
        have hfin : Hid (R = false) := by show _ = _; rw [← hst.out, c1d, c2d]; rfl
        clear hst
        go_wp2_with fail
        go_ret
        exact ⟨ret_bool hfin.out.symm, hB1.out⟩
      have c2d : decide (24 ≤ xi) = false := decide_eq_false c2
      by_cases c3 : (64 : Int) < (XL : Int)
      · have c3d : decide ((64 : Int) < (XL : Int)) = true := decide_eq_true c3
        have c3e : decide (64 < XL) = true := by rw [decide_eq_true_iff]; omega
        have hfin : Hid (R = false) := by show _ = _; rw [← hst.out, c1d, c2d, c3d]; rfl
        clear hst
        go_wp2_with fail
        go_ret
        exact ⟨ret_bool hfin.out.symm, hB1.out⟩
      have c3d : decide ((64 : Int) < (XL : Int)) = false := decide_eq_false c3
      have c3e : decide (64 < XL) = false := by rw [decide_eq_false_iff_not]; omega
      have c3f : ¬ 64 < XL := by omega
      have hnx : Hid (vlabF xi LD = R) := by show _ = _; rw [← hst.out, c1d, c2d, c3d]; rfl
      clear hst
      go_wp2_with fail
      go_roundg ga
      case measure => omega
      case rel => exact ⟨k + 1, xi, hle.out, by go_num, rfl, by rw [hdr.out]; exact hnx, hB1.out⟩

end Go.Proofs.Ythmkmjkbfjhffaa
/- Contracts and facts. -/
set_option linter.unusedSimpArgs false
set_option maxRecDepth 100000
set_option maxHeartbeats 4000000
namespace Go.Proofs.Ythmkmjkbfjhffaa
open Go.RowKit Go.Shelf

open Go.Maps
theorem law3 : Keyed Try.prog 3 := int_keyed Try.underlying3
/-- the keys of a map of integers -/
def KeysAre (D : DataW Unit) (S : Int → Prop) : Prop := ∃ es, D = .map es ∧ (∀ p ∈ es, ∃ a, p.1 = Lit.int .i64 a ∧ S a) ∧ ∀ a, S a → ∃ p ∈ es, p.1 = Lit.int .i64 a
theorem KeysAre.none : KeysAre (.map []) (fun _ => False) := ⟨[], rfl, by simp, fun _ h => h.elim⟩
theorem KeysAre.iff {D : DataW Unit} {S T : Int → Prop} (h : KeysAre D S) (e : ∀ a, S a ↔ T a) : KeysAre D T := by
  obtain ⟨es, rfl, h1, h2⟩ := h
  exact ⟨es, rfl, fun p hp => by
    obtain ⟨a, h3, h4⟩ := h1 p hp
    exact ⟨a, h3, (e a).1 h4⟩, fun a ha => h2 a ((e a).2 ha)⟩
theorem kept_ne {p : Lit × DataW Unit} {x a : Int} (h : p.1 = Lit.int .i64 x) : (!p.1.sameKey (Lit.int .i64 a)) = true ↔ x ≠ a := by
  rw [h]; simp [Lit.sameKey]
theorem KeysAre.put {D : DataW Unit} {S : Int → Prop} (h : KeysAre D S) (a : Int) (d : DataW Unit) : KeysAre (D.put (Lit.int .i64 a) d) (fun x => S x ∨ x = a) := by
  obtain ⟨es, rfl, h1, h2⟩ := h
  refine ⟨_, rfl, fun p hp => ?_, fun x hx => ?_⟩
  · rcases ChangeMaps.mem_insert_iff.1 hp with rfl | hp
    · exact ⟨a, rfl, .inr rfl⟩
    · obtain ⟨b, h3, h4⟩ := h1 p (List.mem_filter.1 hp).1
      exact ⟨b, h3, .inl h4⟩
  · by_cases hxa : x = a
    · exact ⟨_, ChangeMaps.mem_insert_iff.2 (.inl rfl), by rw [hxa]⟩
    · rcases hx with hx | hx
      · obtain ⟨p, hp, h3⟩ := h2 x hx
        exact ⟨p, ChangeMaps.mem_insert_iff.2 (.inr (List.mem_filter.2 ⟨hp, (kept_ne h3).2 hxa⟩)), h3⟩
      · exact absurd hx hxa
theorem KeysAre.del {D : DataW Unit} {S : Int → Prop} (h : KeysAre D S) (a : Int) : KeysAre (D.del (Lit.int .i64 a)) (fun x => x ≠ a ∧ S x) := by
  obtain ⟨es, rfl, h1, h2⟩ := h
  refine ⟨_, rfl, fun p hp => ?_, fun x hx => ?_⟩
  · obtain ⟨hp, hk⟩ := List.mem_filter.1 hp
    obtain ⟨b, h3, h4⟩ := h1 p hp
    exact ⟨b, h3, (kept_ne h3).1 hk, h4⟩
  · obtain ⟨p, hp, h3⟩ := h2 x hx.2
    exact ⟨p, List.mem_filter.2 ⟨hp, (kept_ne h3).2 hx.1⟩, h3⟩
theorem KeysAre.mem {D : DataW Unit} {S : Int → Prop} (h : KeysAre D S) (x : Int) : x ∈ intKeys D ↔ S x := by
  obtain ⟨es, rfl, h1, h2⟩ := h
  show x ∈ es.map (fun p => Go.intOf p.1) ↔ S x
  rw [List.mem_map]
  constructor
  · rintro ⟨p, hp, rfl⟩
    obtain ⟨a, h3, h4⟩ := h1 p hp
    rw [h3]; exact h4
  · intro hx
    obtain ⟨p, hp, h3⟩ := h2 x hx
    exact ⟨p, hp, by rw [h3]; rfl⟩
theorem KeysAre.len {D : DataW Unit} {S : Int → Prop} (h : KeysAre D S) : (intKeys D).length = Maps.size D := by
  obtain ⟨es, rfl, _⟩ := h
  show (es.map _).length = es.length
  simp
theorem sorts_in (m : Nat) : AnyZI.SortsIn Try.prog Try.sortedA_ren Fence.wide m :=
  ⟨fun blk off cap ss W hH hblk hsz => callsIn_wide.2 (AnyM.slices_Sort_int Try.sortA blk off cap ss W hH hblk hsz),
   fun p cap W => callsIn_wide.2 (AnyM.slices_Sort_int_none Try.sortA p cap W)⟩
theorem keys_any (b : Nat) (W : World) : Calls Try.prog 71 #[.map (some b)] W fun e w' => e = .returned (.func (.func 76) #[] #[.pointer (some ⟨W.heap.size, 0, none⟩)]) ∧ w' = W.alloc (.cells #[.map (some b)] 113) :=
  (callsIn_wide (n := 6)).1 (AnyZI.keys_in Try.keysA Fence.wide 6 trivial rfl (some b) W)
theorem sorted_any (b nn : Nat) (D : DataW Unit) (S : Int → Prop) (R : Value → Option (DataW Unit × List MemPlace)) (W : World) (hown : W.ownsMap Try.prog 3 R b nn D) (hK : KeysAre D S) (hmax : nn ≤ 1000000000) :
    Calls Try.prog 70 #[.func (.func 76) #[] #[.pointer (some ⟨W.heap.size, 0, none⟩)]] (W.alloc (.cells #[.map (some b)] 113)) fun e w' => ∃ v s, e = .returned v ∧ OwnI w' W.heap.size v s ∧ Below W.heap.size W w' ∧ s.length ≤ nn ∧ ∀ x, x ∈ s ↔ S x := by
  have hbl := hown.lt
  have hsz := hown.size_le
  refine (callsIn_wide (n := 6)).1 ?_
  have hseq : SeqGives Fence.wide 3 Try.prog 76 #[.pointer (some ⟨W.heap.size, 0, none⟩)] encZ (fun ss => ss.Perm (intKeys D)) (Maps.size D) (W.alloc (.cells #[.map (some b)] 113)) :=
    AnyZI.keys_gives (ρ := Try.keysA_ren) { Try.keysA with } Fence.wide _ trivial rfl (by omega) W.heap.size b nn D _ (by simp) (by simp) (by
      obtain ⟨es, clock, hb, Ft, hs, hD⟩ := hown
      exact ⟨es, clock, (Below.heap_alloc _ _ b hbl).trans hb, Ft, hs, hD⟩)
  refine (AnyZI.sorted_in Try.sortedA Fence.wide 6 trivial trivial trivial trivial rfl (by omega) (sorts_in _) (enters_of Try.func75 (by kernel_rfl) rfl) 76 #[.pointer (some ⟨W.heap.size, 0, none⟩)] trivial (enters_of Try.func76 (by kernel_rfl) rfl) _ _ (by unfold maxLen; omega) (by omega) _ hseq).mono ?_
  rintro e w' ⟨v, ss, rfl, hS, hrow, _, hb⟩
  refine ⟨v, ss.mergeSort (fun x y => decide (x ≤ y)), rfl, ?_, ((Below.refl _ W).alloc (Nat.le_refl _) _).trans (hb.mono (by simp)), ?_, fun x => ?_⟩
  · have := ownsRow_base_a hrow (base' := W.heap.size) (by simp)
    unfold OwnI
    rw [List.length_mergeSort]
    exact this
  · rw [List.length_mergeSort, hS.length_eq, hK.len]; exact hsz
  · rw [List.mem_mergeSort, hS.mem_iff, hK.mem]
def nearL (l : List Ed) (id : Int) : List Int := (atF l id).map (fun e => otherI e id)
theorem nearL_snoc (l : List Ed) (id : Int) (k : Nat) (h : k < l.length) (x : Int) : x ∈ nearL (l.take (k + 1)) id ↔ x ∈ nearL (l.take k) id ∨ ((l[k].src == id || l[k].dst == id) = true ∧ x = otherI l[k] id) := by
  unfold nearL
  rw [atF_snoc l id k h]
  split
  · rename_i hc
    simp only [List.map_append, List.map_cons, List.map_nil, List.mem_append, List.mem_singleton]
    constructor
    · rintro (h1 | h1)
      · exact .inl h1
      · exact .inr ⟨hc, h1⟩
    · rintro (h1 | ⟨_, h1⟩)
      · exact .inl h1
      · exact .inr h1
  · rename_i hc
    constructor
    · exact .inl
    · rintro (h1 | ⟨h1, _⟩)
      · exact h1
      · exact absurd h1 hc
theorem below_turned {B b : Nat} {w W W' : World} (h : Below B w W) (g : W.mapTurned W' b) (hb : B ≤ b) (hz : B ≤ W.heap.size) : Below B w W' :=
  h.grown g.grown hz (fun j e => by cases e; exact hb)
theorem keyI (x : Int) (h : i64B x) : keyOf Try.prog 3 (.int .i64 x) = some (.int .i64 x) := keyOf_int_mk Try.underlying3 (by simp only [Lit.wf, Bool.and_eq_true, decide_eq_true_eq]; exact h)
set_option maxRecDepth 100000 in
theorem Neighbours_any (v : Value) (id : Int) (l : List Ed) (w : World) (hl : EL w v l) (hn : l.length ≤ 1000000000) (hid : i64B id) (he : ∀ e ∈ l, i64B (otherI e id)) :
    Calls Try.prog 61 #[.int .i64 id, v] w fun r w' => ∃ q s, r = .returned q ∧ OwnI w' w.heap.size q s ∧ Below w.heap.size w w' ∧ s.length ≤ l.length ∧ ∀ x, x ∈ s ↔ x ≠ id ∧ x ∈ nearL l id := by
  obtain ⟨a, c, rfl⟩ := hl.shape
  have hmm := @run_makeMap Try.prog
  obtain ⟨N, hN⟩ : ∃ N, Hid (N = l.length) := ⟨_, rfl⟩
  have cE := Lib.hid hl.cells
  have he2 := Lib.hid he
  have hid2 := Lib.hid (keyI id hid)
  rw [← hN.out] at hn ⊢
  obtain ⟨S, hS⟩ : ∃ S : Nat → Int → Prop, ∀ k, S k = fun x => x ∈ nearL (l.take k) id := ⟨_, fun _ => rfl⟩
  have hS0 := Lib.hid (show ∀ x, False ↔ S 0 x from fun x => by rw [hS]; simp [nearL, atF])
  have hSs := Lib.hid (fun (k : Nat) (hk : k < l.length) x => (show S (k + 1) x ↔ S k x ∨ ((l[k].src == id || l[k].dst == id) = true ∧ x = otherI l[k] id) from by rw [hS, hS]; exact nearL_snoc l id k hk x))
  have hSe := Lib.hid (show ∀ x, S N x ↔ x ∈ nearL l id from fun x => by rw [hS, hN.out, List.take_of_length_le (Nat.le_refl _)])
  clear hl he hid hS
  go_enter Try.func61, Try.ntmps61
  go_wp2_with fail
  go_loopg [11] N (fun q iv wr => ∃ (k : Nat) (D : DataW Unit), k + q = N ∧ iv = .int .i64 k ∧ wr.ownsMap Try.prog 3 (plainElem Try.prog 4) w.heap.size k D ∧ Hid (KeysAre D (S k)) ∧ Below w.heap.size w wr)
  case atStart => exact ⟨0, _, by omega, rfl, World.ownsMap_made _ _ _ _, KeysAre.none.iff hS0.out, (Below.refl _ _).alloc (Nat.le_refl _) _⟩
  case round =>
    obtain ⟨k, D, hk, rfl, hown, hK, B⟩ := hrel
    obtain ⟨wo, rfl⟩ : ∃ x, x = wr := ⟨_, rfl⟩
    clear hS0
    have hB := Lib.hid B
    cases gk with
    | zero =>
      have hk2 : k = N := by omega
      have i1 : ¬ (k : Int) < (N : Int) := by omega
      obtain ⟨w1, hd, hown1, ht1⟩ := hown.drop law3 Try.underlying113 hid2.out 0
      have hB1 := Lib.hid (below_turned B ht1 (Nat.le_refl _) B.size)
      subst hk2
      have hkeys : Hid (KeysAre (D.del (.int .i64 id)) (fun x => x ≠ id ∧ S k x)) := hK.out.del id
      have cK := keys_any w.heap.size
      have cS := sorted_any w.heap.size k _ _ _ w1 hown1 hkeys.out hn
      clear hK hkeys ht1 hown hown1 B hSs hk cE
      go_wp2_with (first
        | (go_at_call 71; refine (cK _).mono ?_; rintro e w' ⟨rfl, rfl⟩)
        | (go_at_call 70; refine cS.mono ?_; rintro e w' ⟨v, s, rfl, hrow, hb, hlen, hmem⟩))
      go_ret
      refine ⟨v, s, rfl, ownsRow_base_a hrow hB1.out.size, hB1.out.trans (hb.mono hB1.out.size), hlen, fun x => ?_⟩
      rw [hmem, hSe.out]
    | succ ga =>
      have hkl : k < l.length := by have := hN.out; omega
      obtain ⟨bv, ov, rfl, cv⟩ := cE.out k hkl
      have i0 : (0 : Int) ≤ (k : Int) := by omega
      have i1 : (k : Int) < (N : Int) := by have := hN.out; omega
      have hle : Hid (k + 1 + ga = N) := by show _ = _; omega
      obtain ⟨d0, d1, d2, d3, d4, d5⟩ := cv wo B
      have hst := Lib.hid (hSs.out k hkl)
      have hkey := Lib.hid (keyI _ (he2.out _ (List.getElem_mem hkl)))
      generalize l[k] = u at *
      obtain ⟨W1, hW1⟩ : ∃ W1, W1 = wo.alloc (.cells (edCells u) 40) := ⟨_, rfl⟩
      have b1 : Below wo.heap.size wo W1 := by rw [hW1]; exact (Below.refl _ wo).alloc (Nat.le_refl _) _
      have vb : W1.heap[wo.heap.size]? = some (.cells (edCells u) 40 (0, 0)) := by rw [hW1]; exact heap_alloc_new wo _
      have hB1 := Lib.hid (B.trans (b1.mono B.size))
      have hO : ∀ W, Calls Try.prog 13 #[u.val, .int .i64 id] W _ := fun W => Other_any u id W
      have hown1 : W1.ownsMap Try.prog 3 (plainElem Try.prog 4) w.heap.size k D := by rw [hW1]; exact hown.alloc _
      unfold edCells at vb hW1
      unfold Ed.val at hO
      have v0 : W1.cell? ⟨wo.heap.size, 0, none⟩ = some (.int .i64 u.id) := by rw [cell_of_row _ _ _ _ _ _ vb]; rfl
      have v1 : W1.cell? ⟨wo.heap.size, 1, none⟩ = some (.int .i64 u.src) := by rw [cell_of_row _ _ _ _ _ _ vb]; rfl
      have v2 : W1.cell? ⟨wo.heap.size, 2, none⟩ = some (.int .i64 u.dst) := by rw [cell_of_row _ _ _ _ _ _ vb]; rfl
      have v3 : W1.cell? ⟨wo.heap.size, 3, none⟩ = some (.bool u.dir) := by rw [cell_of_row _ _ _ _ _ _ vb]; rfl
      have v4 : W1.cell? ⟨wo.heap.size, 4, none⟩ = some (.int .i64 u.wt) := by rw [cell_of_row _ _ _ _ _ _ vb]; rfl
      have v5 : W1.cell? ⟨wo.heap.size, 5, none⟩ = some (.int .i64 u.cap) := by rw [cell_of_row _ _ _ _ _ _ vb]; rfl
      generalize hy : otherI u id = y at *
      have hOw := Lib.hid (fun W (q : Below W1.heap.size W1 W) => (show W.ownsMap Try.prog 3 (plainElem Try.prog 4) w.heap.size k D from by
        obtain ⟨es, clock, hb, r⟩ := hown1
        exact ⟨es, clock, (q.block _ (Array.getElem?_eq_some_iff.1 hb).1).trans hb, r⟩))
      replace hW1 := Lib.hid hW1
      have hown1 := Lib.hid hown1
      clear hk hkl cv vb b1 B hSs hSe cE he2 hid2 hown hmm hy
      go_upto_region 5 with (fail)
      rw [← hW1.out]
      clear d0 d1 d2 d3 d4 d5
      have hstep : ∀ (w3 : World), Below W1.heap.size W1 w3 → Hid ((u.src == id || u.dst == id) = true) → ∃ w4, (Instr.mapUpdate 113 (.map (some w.heap.size)) (.int .i64 y) (.bool true)).run Try.prog w3 = .ok () w4 ∧ Hid (∃ D, w4.ownsMap Try.prog 3 (plainElem Try.prog 4) w.heap.size (k + 1) D ∧ KeysAre D (S (k + 1)) ∧ Below w.heap.size w w4) := fun w3 q ht => by
        obtain ⟨w4, r1, r2, r3⟩ := (hOw.out w3 q).store law3 Try.underlying113 (by unfold maxLen; omega) hkey.out (plainElem_bool Try.underlying4 true)
        exact ⟨w4, r1, _, r2, (hK.out.put y _).iff (fun x => by rw [hst.out x, ht.out]; simp), below_turned (hB1.out.trans (q.mono hB1.out.size)) r3 (Nat.le_refl _) (hB1.out.trans (q.mono hB1.out.size)).size⟩
      by_cases hs : u.src = id
      · have t1 : (u.src == id) = true := by simpa using hs
        have ht : Hid ((u.src == id || u.dst == id) = true) := by show _ = _; rw [t1]; rfl
        clear hs
        go_wp2_with (go_at_call 13; refine (hO _).mono ?_; rintro e w3 ⟨rfl, hb3⟩; obtain ⟨w4, hr4, hf4⟩ := hstep w3 hb3 ht)
        go_roundg ga
        case measure => omega
        case rel =>
          obtain ⟨D4, f1, f2, f3⟩ := hf4.out
          exact ⟨k + 1, D4, hle.out, by go_num, f1, f2, f3⟩
      · have t1 : (u.src == id) = false := by simpa using hs
        by_cases hd : u.dst = id
        · have t2 : (u.dst == id) = true := by simpa using hd
          have ht : Hid ((u.src == id || u.dst == id) = true) := by show _ = _; rw [t1, t2]; rfl
          clear hs hd
          go_wp2_with (go_at_call 13; refine (hO _).mono ?_; rintro e w3 ⟨rfl, hb3⟩; obtain ⟨w4, hr4, hf4⟩ := hstep w3 hb3 ht)
          go_roundg ga
          case measure => omega
          case rel =>
            obtain ⟨D4, f1, f2, f3⟩ := hf4.out
            exact ⟨k + 1, D4, hle.out, by go_num, f1, f2, f3⟩
        · have t2 : (u.dst == id) = false := by simpa using hd
          have hf : Hid (KeysAre D (S (k + 1))) := hK.out.iff (fun x => by rw [hst.out x, t1, t2]; simp)
          clear hs hd hstep hst
          go_wp2_with fail
          go_roundg ga
          case measure => omega
          case rel => exact ⟨k + 1, D, hle.out, by go_num, hown1.out.mono (by omega), hf, hB1.out⟩
end Go.Proofs.Ythmkmjkbfjhffaa
