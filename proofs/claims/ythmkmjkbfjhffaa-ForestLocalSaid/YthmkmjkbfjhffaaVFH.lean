/- Contracts and facts. -/
import Derived.Deep.LoopGhost
import Derived.Handy
import Derived.WalkMore
import Derived.Test.YthmkmjkbfjhffaaVFG
set_option linter.unusedSimpArgs false
set_option maxRecDepth 100000
set_option maxHeartbeats 4000000
namespace Go.Proofs.Ythmkmjkbfjhffaa
open Go.RowKit
theorem climb_le {es : List Ed} {V : List Int} {m : PM} (G : GrOk es V) (M : Gd es V m) {k : Int} (hk : k ∈ V) : (climb es m k).length ≤ V.length := by
  rw [climb_len G M hk]; have := M.hi k hk; have := M.lo k; omega
set_option maxRecDepth 100000 in
theorem climb_any (v : Value) (g : Gr) (mb : Nat) (m : PM) (i : Int) (w : World) (hv : GV w v g) (hn : g.vs.length ≤ 24 ∧ g.es.length ≤ 1000) (G : GrOk g.es (keysV g.vs)) (M : Gd g.es (keysV g.vs) m) (hP : PMV w mb m) (hmb : mb < w.heap.size) (hi : i ∈ keysV g.vs) :
    Calls Try.prog 30 #[v, .map (some mb), .int .i64 i] w fun e w' => ∃ r, e = .returned r ∧ OwnI w' w.heap.size r (climb g.es m i) ∧ Below w.heap.size w w' := by
  obtain ⟨a1, a2, b1, b2, c1v, c2, rfl, _, _, _⟩ := gv_shape hv
  have hV : (keysV g.vs).length ≤ 24 := by simpa [keysV] using hn.1
  have hn2 : g.es.length ≤ 1000000000 := by have := hn.2; omega
  generalize g.vs.length = n1 at *
  generalize hN2 : g.es.length = n2 at *
  generalize g.ds.length = n3 at *
  obtain ⟨w1, hw1⟩ : ∃ w1, w1 = w.alloc (.cells #[.slice a1 n1 a2, .slice b1 n2 b2, .slice c1v n3 c2] 28) := ⟨_, rfl⟩
  have gb : w1.heap[w.heap.size]? = some (.cells #[.slice a1 n1 a2, .slice b1 n2 b2, .slice c1v n3 c2] 28 (0, 0)) := by rw [hw1]; exact heap_alloc_new w _
  have B0 : Below w.heap.size w w1 := by rw [hw1]; exact (Below.refl _ w).alloc (Nat.le_refl _) _
  have hs1 : w1.heap.size = w.heap.size + 1 := by rw [hw1]; simp
  have hG1 := Lib.hid (fun W (q : Below w1.heap.size w1 W) => box3g ((q.block _ (by omega)).trans gb))
  have hPW := Lib.hid (fun W (q : Below w1.heap.size w1 W) => (hP.below B0 hmb).below q (by omega))
  have hStp := Lib.hid (fun (a x : Int) W (q : Below w1.heap.size w1 W) => step_any _ g a x W ((hv.below B0).below q) (by omega))
  have hB0 := Lib.hid B0
  have hw2 := Lib.hid hw1
  have f1 := fld1
  have f2 := fld2
  have hd0 := M.lo i
  clear hw1 hv gb hP
  go_enter Try.func30, Try.ntmps30
  go_upto_region 1 with (fail)
  rw [← hw2.out]
  go_wp2_with fail
  go_loopg [2, 7] (gp m i).depth.toNat (fun n iv lv wr => ∃ cur acc, iv = .int .i64 cur ∧ cur ∈ keysV g.vs ∧ (gp m cur).depth.toNat = n ∧ OwnI wr w1.heap.size lv acc ∧ acc ++ climb g.es m cur = climb g.es m i ∧ Below w1.heap.size w1 wr)
  case atStart => exact ⟨i, [], rfl, hi, rfl, World.ownsRow_nil _ _ _ _, rfl, Below.refl _ _⟩
  case round =>
    obtain ⟨cur, acc, rfl, hc, hd, ho, he, B⟩ := hrel
    obtain ⟨wo, rfl⟩ : ∃ x, x = wr := ⟨_, rfl⟩
    have hget := (hPW.out wo B).get cur
    have hlo := M.lo cur
    cases gk with
    | zero =>
      have hz : (gp m cur).depth = 0 := by omega
      have t1 : decide ((gp m cur).depth > 0) = false := by rw [hz]; rfl
      have t2 : decide ((0 : Int) < (gp m cur).depth) = false := by rw [hz]; rfl
      rw [climb_nil hz, List.append_nil] at he
      subst he
      have hfin := Lib.hid ho
      have hBf := Lib.hid (hB0.out.trans (B.mono hB0.out.size))
      have hbase : Hid (w.heap.size ≤ w1.heap.size) := by show _ ≤ _; omega
      clear hz hlo hd ho B
      go_wp2_with fail
      go_ret
      exact ⟨_, rfl, ⟨hfin.out.1, hfin.out.2.imp id fun ⟨g, cap, cur, h1, h2, h3⟩ => ⟨g, cap, cur, h1, Nat.le_trans hbase.out h2, h3⟩⟩, hBf.out⟩
    | succ ga =>
      have hp : 0 < (gp m cur).depth := by omega
      have t1 : decide ((gp m cur).depth > 0) = true := by rw [decide_eq_true_iff]; omega
      have t2 : decide ((0 : Int) < (gp m cur).depth) = true := by rw [decide_eq_true_iff]; omega
      obtain ⟨e, z1, z2, z3, pm, z4, pd, ps⟩ := par_ok G M hc hp
      have hcl := climb_cons G M hc hp
      have hlen : acc.length ≤ 1000000000 := by
        have h1 := climb_le G M hi
        rw [← he, List.length_append] at h1; omega
      rw [hcl] at he
      generalize hpar : parF g.es m cur = par at *
      generalize hed : (gp m cur).edge = ed at *
      obtain ⟨v', w', hr, ho2, hb2, _⟩ := snocI wo w1.heap.size _ acc ed ho hlen B.size
      have hb3 := Lib.hid (hb2 w1 B (Nat.le_refl _) (Nat.le_refl _))
      have hst := Lib.hid (hStp.out cur ed)
      rw [ps] at hst
      have hne : Hid ((acc ++ [ed]) ++ climb g.es m par = climb g.es m i) := by show _ = _; rw [List.append_assoc]; exact he
      have hdn : Hid ((gp m par).depth.toNat = ga) := by show _ = _; omega
      have hpm := Lib.hid pm
      replace ho2 := Lib.hid ho2
      obtain ⟨g0, g1, g2⟩ := hG1.out w' hb3.out
      clear hb2 he hcl ps pd pm hp hlo hd ho z1 z2 z3 z4
      go_wp2_with (at_builtin; refine wpList_append_runB rfl (.tmp 18) (.tmp 20) 26 rfl u7 (.slice (some ⟨wo.heap.size, 0, none⟩) 1 1) rfl rfl _ _ hr ?_)
      refine (hst.out w' hb3.out).mono ?_
      rintro e w3 ⟨rfl, b3⟩
      have ho3 : Hid (OwnI w3 w1.heap.size v' (acc ++ [ed])) := own_below ho2.out b3
      have hb4 := Lib.hid (hb3.out.trans (b3.mono hb3.out.size))
      clear b3 g0 g1 g2
      go_wp2_with fail
      go_roundg ga
      case measure => omega
      case rel => exact ⟨par, acc ++ [ed], rfl, hpm.out, hdn.out, ho3.out, hne.out, hb4.out⟩

end Go.Proofs.Ythmkmjkbfjhffaa
/- Contracts and facts. -/
set_option linter.unusedSimpArgs false
set_option maxRecDepth 100000
set_option maxHeartbeats 4000000
namespace Go.Proofs.Ythmkmjkbfjhffaa
open Go.RowKit
theorem DL.cells {w : World} {b1 : Option Addr} {n c : Nat} {l : List Int} (hv : DL w (.slice b1 n c) l) : ∀ (k : Nat) (_ : k < l.length), ∃ b o, b1 = some ⟨b, o, none⟩ ∧ ∀ W, Below w.heap.size w W → W.cell? ⟨b, o + k, none⟩ = some (.int .i64 l[k]) := fun k hk => by
  rcases hv with ⟨rfl, _⟩ | ⟨h1, b, o, c', e, h2, h3, h4⟩
  · simp at hk
  · injection e with e1 e2 e3
    exact ⟨b, o, e1, fun W B => by rw [B.cell (p := ⟨b, o + k, none⟩) h3]; exact h4 k _ (List.getElem?_eq_getElem hk)⟩
/-- the first place at which a closure says yes -/
theorem idx78_any (ib : Nat) (caps : Array Value) (hcaps : caps = #[.pointer (some ⟨ib, 0, none⟩)]) (p : Vx → Bool) (vl : Value) (l : List Vx) (w : World) (hl : VL w vl l) (hn : l.length ≤ 1000000000)
    (hc : ∀ u W, Below w.heap.size w W → Calls Try.prog 49 (#[u.val] ++ caps) W fun e w' => e = .returned (.bool (p u)) ∧ Below W.heap.size W w') :
    Calls Try.prog 63 #[vl, .func (.func 49) #[] caps] w fun e w' => (∃ r, e = .returned (.int .i64 r) ∧ (decide (r ≥ 0) = l.any p)) ∧ Below w.heap.size w w' := by
  subst hcaps
  obtain ⟨b1, b2, rfl⟩ := hl.shape
  have cellE := Lib.hid hl.cells
  have hcc := Lib.hid (fun u W (B : Below w.heap.size w W) => hc u W B)
  simp only [List.append_toArray, List.cons_append, List.nil_append] at hcc
  obtain ⟨A, hA⟩ : ∃ A, Hid (A = l.any p) := ⟨_, rfl⟩
  rw [← hA.out]
  obtain ⟨N, hN⟩ : ∃ N, Hid (N = l.length) := ⟨_, rfl⟩
  rw [← hN.out] at hn ⊢
  clear hl hc
  go_enter Try.func63, Try.ntmps63
  go_wp2_with fail
  go_loopg [8] N (fun n iv wr => ∃ k : Nat, k + n = N ∧ iv = .int .i64 k ∧ (l.take k).any p = false ∧ Below w.heap.size w wr)
  case atStart => exact ⟨0, by omega, rfl, by simp, Below.refl _ _⟩
  case round =>
    obtain ⟨k, hk, rfl, hnone, B⟩ := hrel
    obtain ⟨wo, rfl⟩ : ∃ x, x = wr := ⟨_, rfl⟩
    have hkN : (k : Int) ≤ 1000000000 := by omega
    cases gk with
    | zero =>
      have hk2 : k = N := by omega
      have hr : Hid (decide ((-1 : Int) ≥ 0) = A) := by
        rw [List.take_of_length_le (by rw [hk2, hN.out]; exact Nat.le_refl _)] at hnone
        show _ = _; rw [hA.out, hnone]; rfl
      have i1 : ¬ (k : Int) < (N : Int) := by omega
      clear hk2 hnone hk
      go_wp2_with fail
      go_ret
      exact ⟨⟨_, rfl, hr.out⟩, B⟩
    | succ ga =>
      have hlt : k < N := by omega
      have hkl : k < l.length := by rw [← hN.out]; exact hlt
      obtain ⟨bv, ov, rfl, cv⟩ := cellE.out k hkl
      have cv1 := cv wo B
      obtain ⟨d0, d1⟩ := cv1
      have i0 : (0 : Int) ≤ (k : Int) := by omega
      have i1 : (k : Int) < (N : Int) := by omega
      have hle : Hid (k + 1 + ga = N) := by show _ = _; omega
      have hhit : Hid (p l[k] = true → decide ((k : Int) ≥ 0) = A) := fun h => by
        rw [hA.out, show l.any p = true from List.any_eq_true.2 ⟨_, List.getElem_mem hkl, h⟩, decide_eq_true_iff]; exact i0
      have hmiss : Hid (p l[k] = false → (l.take (k + 1)).any p = false) := fun h => by
        rw [List.take_succ_eq_append_getElem hkl, List.any_append, hnone]; simp [h]
      clear cv hnone hk hlt
      have hcu := Lib.hid (hcc.out l[k] wo B)
      generalize l[k] = u at *
      unfold Vx.val at hcu
      generalize p u = x at *
      cases x with
      | true =>
        have hr := Lib.hid (hhit.out rfl)
        clear hhit hmiss
        go_wp2_with fail
        refine hcu.out.mono ?_
        rintro e w2 ⟨rfl, b2⟩
        have B2 := Lib.hid (B.trans (b2.mono B.size))
        clear b2
        go_wp2_with fail
        go_ret
        exact ⟨⟨_, rfl, hr.out⟩, B2.out⟩
      | false =>
        have hr := Lib.hid (hmiss.out rfl)
        clear hhit hmiss
        go_wp2_with fail
        refine hcu.out.mono ?_
        rintro e w2 ⟨rfl, b2⟩
        have B2 := Lib.hid (B.trans (b2.mono B.size))
        clear b2
        go_wp2_with fail
        go_roundg ga
        case measure => omega
        case rel => exact ⟨k + 1, hle.out, by go_num, hr.out, B2.out⟩
theorem cont65_any (ib : Nat) (caps : Array Value) (hcaps : caps = #[.pointer (some ⟨ib, 0, none⟩)]) (p : Vx → Bool) (vl : Value) (l : List Vx) (w : World) (hl : VL w vl l) (hn : l.length ≤ 1000000000)
    (hc : ∀ u W, Below w.heap.size w W → Calls Try.prog 49 (#[u.val] ++ caps) W fun e w' => e = .returned (.bool (p u)) ∧ Below W.heap.size W w') :
    Calls Try.prog 48 #[vl, .func (.func 49) #[] caps] w fun e w' => e = .returned (.bool (l.any p)) ∧ Below w.heap.size w w' := by
  subst hcaps
  have h := Lib.hid (idx78_any ib _ rfl p vl l w hl hn hc)
  generalize l.any p = A at *
  clear hl hc
  go_enter Try.func48, Try.ntmps48
  go_wp2_with fail
  refine h.out.mono ?_
  rintro e w2 ⟨⟨r, rfl, hr⟩, b2⟩
  clear h
  by_cases h0 : (0 : Int) ≤ r
  · have hA : Hid (A = true) := by rw [← hr]; exact decide_eq_true h0
    have t1 : decide (r ≥ 0) = true := decide_eq_true h0
    clear hr
    go_wp2_with fail
    go_ret
    exact ⟨ret_bool hA.out.symm, b2⟩
  · have hA : Hid (A = false) := by rw [← hr]; exact decide_eq_false h0
    have t1 : decide (r ≥ 0) = false := decide_eq_false h0
    have t2 : decide ((0 : Int) ≤ r) = false := decide_eq_false h0
    clear hr h0
    go_wp2_with fail
    go_ret
    exact ⟨ret_bool hA.out.symm, b2⟩
/-- the first place at which a closure says yes -/
theorem idx79_any (ib : Nat) (caps : Array Value) (hcaps : caps = #[.pointer (some ⟨ib, 0, none⟩)]) (p : Int → Bool) (vl : Value) (l : List Int) (w : World) (hl : DL w vl l) (hn : l.length ≤ 1000000000)
    (hc : ∀ u W, Below w.heap.size w W → Calls Try.prog 47 (#[.int .i64 u] ++ caps) W fun e w' => e = .returned (.bool (p u)) ∧ Below W.heap.size W w') :
    Calls Try.prog 64 #[vl, .func (.func 47) #[] caps] w fun e w' => (∃ r, e = .returned (.int .i64 r) ∧ (decide (r ≥ 0) = l.any p)) ∧ Below w.heap.size w w' := by
  subst hcaps
  obtain ⟨b1, b2, rfl⟩ := hl.shape
  have cellE := Lib.hid hl.cells
  have hcc := Lib.hid (fun u W (B : Below w.heap.size w W) => hc u W B)
  simp only [List.append_toArray, List.cons_append, List.nil_append] at hcc
  obtain ⟨A, hA⟩ : ∃ A, Hid (A = l.any p) := ⟨_, rfl⟩
  rw [← hA.out]
  obtain ⟨N, hN⟩ : ∃ N, Hid (N = l.length) := ⟨_, rfl⟩
  rw [← hN.out] at hn ⊢
  clear hl hc
  go_enter Try.func64, Try.ntmps64
  go_wp2_with fail
  go_loopg [8] N (fun n iv wr => ∃ k : Nat, k + n = N ∧ iv = .int .i64 k ∧ (l.take k).any p = false ∧ Below w.heap.size w wr)
  case atStart => exact ⟨0, by omega, rfl, by simp, Below.refl _ _⟩
  case round =>
    obtain ⟨k, hk, rfl, hnone, B⟩ := hrel
    obtain ⟨wo, rfl⟩ : ∃ x, x = wr := ⟨_, rfl⟩
    have hkN : (k : Int) ≤ 1000000000 := by omega
    cases gk with
    | zero =>
      have hk2 : k = N := by omega
      have hr : Hid (decide ((-1 : Int) ≥ 0) = A) := by
        rw [List.take_of_length_le (by rw [hk2, hN.out]; exact Nat.le_refl _)] at hnone
        show _ = _; rw [hA.out, hnone]; rfl
      have i1 : ¬ (k : Int) < (N : Int) := by omega
      clear hk2 hnone hk
      go_wp2_with fail
      go_ret
      exact ⟨⟨_, rfl, hr.out⟩, B⟩
    | succ ga =>
      have hlt : k < N := by omega
      have hkl : k < l.length := by rw [← hN.out]; exact hlt
      obtain ⟨bv, ov, rfl, cv⟩ := cellE.out k hkl
      have cv1 := cv wo B
      have d0 := cv1
      have i0 : (0 : Int) ≤ (k : Int) := by omega
      have i1 : (k : Int) < (N : Int) := by omega
      have hle : Hid (k + 1 + ga = N) := by show _ = _; omega
      have hhit : Hid (p l[k] = true → decide ((k : Int) ≥ 0) = A) := fun h => by
        rw [hA.out, show l.any p = true from List.any_eq_true.2 ⟨_, List.getElem_mem hkl, h⟩, decide_eq_true_iff]; exact i0
      have hmiss : Hid (p l[k] = false → (l.take (k + 1)).any p = false) := fun h => by
        rw [List.take_succ_eq_append_getElem hkl, List.any_append, hnone]; simp [h]
      clear cv hnone hk hlt
      have hcu := Lib.hid (hcc.out l[k] wo B)
      generalize l[k] = u at *
      skip
      generalize p u = x at *
      cases x with
      | true =>
        have hr := Lib.hid (hhit.out rfl)
        clear hhit hmiss
        go_wp2_with fail
        refine hcu.out.mono ?_
        rintro e w2 ⟨rfl, b2⟩
        have B2 := Lib.hid (B.trans (b2.mono B.size))
        clear b2
        go_wp2_with fail
        go_ret
        exact ⟨⟨_, rfl, hr.out⟩, B2.out⟩
      | false =>
        have hr := Lib.hid (hmiss.out rfl)
        clear hhit hmiss
        go_wp2_with fail
        refine hcu.out.mono ?_
        rintro e w2 ⟨rfl, b2⟩
        have B2 := Lib.hid (B.trans (b2.mono B.size))
        clear b2
        go_wp2_with fail
        go_roundg ga
        case measure => omega
        case rel => exact ⟨k + 1, hle.out, by go_num, hr.out, B2.out⟩
theorem cont67_any (ib : Nat) (caps : Array Value) (hcaps : caps = #[.pointer (some ⟨ib, 0, none⟩)]) (p : Int → Bool) (vl : Value) (l : List Int) (w : World) (hl : DL w vl l) (hn : l.length ≤ 1000000000)
    (hc : ∀ u W, Below w.heap.size w W → Calls Try.prog 47 (#[.int .i64 u] ++ caps) W fun e w' => e = .returned (.bool (p u)) ∧ Below W.heap.size W w') :
    Calls Try.prog 50 #[vl, .func (.func 47) #[] caps] w fun e w' => e = .returned (.bool (l.any p)) ∧ Below w.heap.size w w' := by
  subst hcaps
  have h := Lib.hid (idx79_any ib _ rfl p vl l w hl hn hc)
  generalize l.any p = A at *
  clear hl hc
  go_enter Try.func50, Try.ntmps50
  go_wp2_with fail
  refine h.out.mono ?_
  rintro e w2 ⟨⟨r, rfl, hr⟩, b2⟩
  clear h
  by_cases h0 : (0 : Int) ≤ r
  · have hA : Hid (A = true) := by rw [← hr]; exact decide_eq_true h0
    have t1 : decide (r ≥ 0) = true := decide_eq_true h0
    clear hr
    go_wp2_with fail
    go_ret
    exact ⟨ret_bool hA.out.symm, b2⟩
  · have hA : Hid (A = false) := by rw [← hr]; exact decide_eq_false h0
    have t1 : decide (r ≥ 0) = false := decide_eq_false h0
    have t2 : decide ((0 : Int) ≤ r) = false := decide_eq_false h0
    clear hr h0
    go_wp2_with fail
    go_ret
    exact ⟨ret_bool hA.out.symm, b2⟩

end Go.Proofs.Ythmkmjkbfjhffaa
/- Contracts and facts. -/
set_option linter.unusedSimpArgs false
set_option maxRecDepth 100000
set_option maxHeartbeats 4000000
namespace Go.Proofs.Ythmkmjkbfjhffaa
open Go.RowKit
theorem has1_any (u : Vx) (ib : Nat) (x : Int) (W : World) (hib : ib < W.heap.size) (hx : W.cell? ⟨ib, 0, none⟩ = some (.int .i64 x)) :
    Calls Try.prog 49 #[u.val, .pointer (some ⟨ib, 0, none⟩)] W fun e w' => e = .returned (.bool (u.id == x)) ∧ Below W.heap.size W w' := by
  unfold Vx.val
  obtain ⟨W1, hW1⟩ : ∃ W1, W1 = W.alloc (.cells #[.int .i64 u.id, .int .i64 u.side] 31) := ⟨_, rfl⟩
  have B1 : Below W.heap.size W W1 := by rw [hW1]; exact (Below.refl _ W).alloc (Nat.le_refl _) _
  have vb : W1.heap[W.heap.size]? = some (.cells #[.int .i64 u.id, .int .i64 u.side] 31 (0, 0)) := by rw [hW1]; exact two_cells _ _ _ _
  have v0 : W1.cell? ⟨W.heap.size, 0, none⟩ = some (.int .i64 u.id) := by rw [cell_of_row _ _ _ _ _ _ vb]; rfl
  have x1 : W1.cell? ⟨ib, 0, none⟩ = some (.int .i64 x) := by rw [B1.cell (p := ⟨ib, 0, none⟩) hib]; exact hx
  replace hW1 := Lib.hid hW1
  replace B1 := Lib.hid B1
  clear vb hx
  go_enter Try.func49, Try.ntmps49
  go_upto_region 1 with (fail)
  rw [← hW1.out]
  go_wp2_with fail
  go_ret
  exact ⟨rfl, B1.out⟩
def missP (vs : List Vx) (x : Int) : Bool := !(vs.any fun u => u.id == x)
theorem miss_any (x : Int) (gb : Nat) (a b c : Value) (vs : List Vx) (W : World) (hgb : W.heap[gb]? = some (.cells #[a, b, c] 28 (0, 0))) (hv : VL W a vs) (hn : vs.length ≤ 1000) :
    Calls Try.prog 47 #[.int .i64 x, .pointer (some ⟨gb, 0, none⟩)] W fun e w' => e = .returned (.bool (missP vs x)) ∧ Below W.heap.size W w' := by
  have hlt := (Array.getElem?_eq_some_iff.1 hgb).1
  obtain ⟨a1, a2, rfl⟩ := hv.shape
  obtain ⟨W1, hW1⟩ : ∃ W1, W1 = W.alloc (.cells #[.int .i64 x] 3) := ⟨_, rfl⟩
  have B1 : Below W.heap.size W W1 := by rw [hW1]; exact (Below.refl _ W).alloc (Nat.le_refl _) _
  have xb : W1.heap[W.heap.size]? = some (.cells #[.int .i64 x] 3 (0, 0)) := by rw [hW1]; exact heap_alloc_new _ _
  have hs : W1.heap.size = W.heap.size + 1 := by rw [hW1]; simp
  obtain ⟨g0, g1, g2⟩ := box3g ((B1.block _ hlt).trans hgb)
  have hc := Lib.hid (cont65_any W.heap.size #[.pointer (some ⟨W.heap.size, 0, none⟩)] rfl (fun u => u.id == x) _ vs W1 (hv.below B1) (by omega) (fun u W2 q => has1_any u W.heap.size x W2 (by have := q.size; omega) (by rw [cell_of_row _ _ _ _ _ _ ((q.block _ (by omega)).trans xb)]; rfl)))
  have hB1 := Lib.hid B1
  replace hW1 := Lib.hid hW1
  obtain ⟨A, hA⟩ : ∃ A, Hid (A = vs.any fun u => u.id == x) := ⟨_, rfl⟩
  rw [← hA.out] at hc
  have hR : Hid (missP vs x = !A) := by show _ = _; rw [hA.out]; rfl
  generalize vs.length = n at *
  clear xb hs B1 hgb hv
  go_enter Try.func47, Try.ntmps47
  go_upto_region 1 with (fail)
  rw [← hW1.out]
  go_wp2_with fail
  refine hc.out.mono ?_
  rintro e w2 ⟨rfl, b2⟩
  have B2 := Lib.hid (hB1.out.trans (b2.mono hB1.out.size))
  clear b2 hc g0 g1 g2
  go_wp2_with fail
  go_ret
  exact ⟨ret_bool hR.out.symm, B2.out⟩
def holdsF (g : Gr) (l : List Int) : Bool := g.ok && !l.any (missP g.vs)
theorem holds_any (v : Value) (g : Gr) (vl : Value) (l : List Int) (w : World) (hv : GV w v g) (hn : g.small) (hl : DL w vl l) (hm : l.length ≤ 1000000000) (hk : g.ok = true → g.vs.length ≤ 1000) :
    Calls Try.prog 28 #[v, vl] w fun e w' => e = .returned (.bool (holdsF g l)) ∧ Below w.heap.size w w' := by
  obtain ⟨a1, a2, b1, b2, c1v, c2, rfl, hv1, _, _⟩ := gv_shape hv
  obtain ⟨l1, l2, rfl⟩ := hl.shape
  obtain ⟨w1, hw1⟩ : ∃ w1, w1 = w.alloc (.cells #[.slice a1 g.vs.length a2, .slice b1 g.es.length b2, .slice c1v g.ds.length c2] 28) := ⟨_, rfl⟩
  have gb : w1.heap[w.heap.size]? = some (.cells #[.slice a1 g.vs.length a2, .slice b1 g.es.length b2, .slice c1v g.ds.length c2] 28 (0, 0)) := by rw [hw1]; exact heap_alloc_new w _
  have B0 : Below w.heap.size w w1 := by rw [hw1]; exact (Below.refl _ w).alloc (Nat.le_refl _) _
  have hs1 : w1.heap.size = w.heap.size + 1 := by rw [hw1]; simp
  obtain ⟨g0, g1, g2⟩ := box3g gb
  have hVal := Lib.hid (Valid_any _ g w1 (hv.below B0) hn)
  have hCon := Lib.hid (fun (h : g.ok = true) W (q : Below w1.heap.size w1 W) => cont67_any w.heap.size #[.pointer (some ⟨w.heap.size, 0, none⟩)] rfl (missP g.vs) _ l W ((hl.below B0).below q) hm (fun u W2 q2 => miss_any u w.heap.size _ _ _ g.vs W2 ((q2.block _ (by have := q.size; omega)).trans ((q.block _ (by omega)).trans gb)) (((hv1.below B0).below q).below q2) (hk h)))
  have hB0 := Lib.hid B0
  replace hw1 := Lib.hid hw1
  have hR : Hid (holdsF g l = (g.ok && !l.any (missP g.vs))) := rfl
  generalize holdsF g l = R at *
  generalize g.ok = ok at *
  generalize l.any (missP g.vs) = A at *
  generalize g.vs.length = n1 at *
  generalize g.es.length = n2 at *
  generalize g.ds.length = n3 at *
  generalize l.length = n4 at *
  clear hs1 B0 gb hv hl hv1 hk
  cases ok with
  | false =>
    go_enter Try.func28, Try.ntmps28
    go_upto_region 1 with (fail)
    rw [← hw1.out]
    go_wp2_with fail
    refine hVal.out.mono ?_
    rintro e w2 ⟨rfl, b2⟩
    have B2 := Lib.hid (hB0.out.trans (b2.mono hB0.out.size))
    clear b2 hVal g0 g1 g2
    go_wp2_with fail
    go_ret
    exact ⟨ret_bool hR.out.symm, B2.out⟩
  | true =>
    go_enter Try.func28, Try.ntmps28
    go_upto_region 1 with (fail)
    rw [← hw1.out]
    go_wp2_with fail
    refine hVal.out.mono ?_
    rintro e w2 ⟨rfl, b2⟩
    have hC2 := Lib.hid (hCon.out (by trivial) w2 b2)
    have B2 := Lib.hid (hB0.out.trans (b2.mono hB0.out.size))
    clear b2 hVal g0 g1 g2 hCon
    go_wp2_with fail
    refine hC2.out.mono ?_
    rintro e w3 ⟨rfl, b3⟩
    have B3 := Lib.hid (B2.out.trans (b3.mono B2.out.size))
    clear b3 hC2
    go_wp2_with fail
    go_ret
    exact ⟨ret_bool hR.out.symm, B3.out⟩

end Go.Proofs.Ythmkmjkbfjhffaa
/- Contracts and facts. -/
set_option linter.unusedSimpArgs false
set_option maxRecDepth 100000
set_option maxHeartbeats 4000000
namespace Go.Proofs.Ythmkmjkbfjhffaa
open Go.RowKit
theorem appI (W : World) (base : Nat) (v u : Value) (l k : List Int) (h : OwnI W base v l) (hu : DL W u k) (hl : l.length + k.length ≤ 1000000) (hb : base ≤ W.heap.size) :
    ∃ v' w', (Builtin.append_ #[26, 26] 26 #[v, u]).run Try.prog W = .ok v' w' ∧ OwnI w' base v' (l ++ k) ∧ W.grownBy w' v.ownBlock := by
  obtain ⟨i0, hi, hz0, hz1, hz2⟩ := info_parts info3
  rcases hu with ⟨rfl, a, c, rfl⟩ | ⟨h1, b, o, c, rfl, h2, h3, h4⟩
  · refine ⟨v, W, ?_, by rw [List.append_nil]; exact h, ⟨rfl, rfl, rfl, Nat.le_refl _, fun _ _ _ => rfl⟩⟩
    have hfn := run_firstCells_none (P := Try.prog) (w := W) i0.size 0 0 c
    have hfs := fun x => run_firstCells_some (P := Try.prog) W i0.size 0 x 0 c [] (by simp) (by simp)
    rcases h.2 with ⟨rfl, h0⟩ | ⟨g, cap, cur, rfl, h5, h6, h7, _⟩
    · cases a with
      | none => simp [Builtin.append_, run_underlying Try.underlying26, sizeOf, typeInfo, zeroValue, hi, hz0, Builtin.lenOf, Question.forced, hfn, storeCells]
      | some x => simp [Builtin.append_, run_underlying Try.underlying26, sizeOf, typeInfo, zeroValue, hi, hz0, Builtin.lenOf, Question.forced, hfs, storeCells]
    · cases a with
      | none => simp [Builtin.append_, run_underlying Try.underlying26, sizeOf, typeInfo, zeroValue, hi, hz0, Builtin.lenOf, Question.forced, hfn, storeCells, h7]
      | some x => simp [Builtin.append_, run_underlying Try.underlying26, sizeOf, typeInfo, zeroValue, hi, hz0, Builtin.lenOf, Question.forced, hfs, storeCells, h7]
  · have hk : 0 < k.length := by rcases k with _ | _; exact absurd rfl h1; simp
    obtain ⟨g, cap, w', hr, ho, hg, _, _⟩ := run_append_lies (P := Try.prog) W 26 26 base 3 i0 _ 1 8 Try.underlying26 hi hz0 hz1 hz2 rfl (by omega) v l.length (cI l) h ⟨b, o, none⟩ k.length c (cI k) (by simp [cI]) (fun j x hx => lieD_cells h4 j x hx) (by simp [cI, Value.oneCell']) hk (by unfold maxLen; omega) (by omega) hb W.heap.size rfl
    refine ⟨_, w', hr, ?_, hg⟩
    unfold OwnI
    rw [List.length_append, cI, List.map_append]; exact ho
theorem asc_len {n : Nat} {l : List Int} (h : l.Pairwise (· < ·)) (hr : ∀ x ∈ l, 0 ≤ x ∧ x < n) : l.length ≤ n := by
  have h1 : l.Nodup := h.imp (fun hab e => by omega)
  have := nodup_len (k := (List.range n).map fun i : Nat => (i : Int)) h1 (fun x hx => List.mem_map.2 ⟨x.toNat, List.mem_range.2 (by have := hr x hx; omega), by have := hr x hx; omega⟩)
  simpa using this
theorem ok_facts {g : Gr} (h : g.ok = true) : (g.vs.length ≤ 24 ∧ g.es.length ≤ 1000) ∧ GrOk g.es (keysV g.vs) := by
  have o := (ok_iff g).1 h
  have hv : ∀ x ∈ keysV g.vs, 0 ≤ x ∧ x < (24 : Nat) := fun x hx => by
    obtain ⟨u, hu, rfl⟩ := mem_keysV.1 hx
    have := Vx.ok_iff u |>.1 (o.vok u hu); omega
  have he : ∀ e ∈ g.es, (0 ≤ e.id ∧ e.id < (40 : Nat)) ∧ e.src ∈ keysV g.vs ∧ e.dst ∈ keysV g.vs := fun e he => by
    have := o.eok e he
    unfold Ed.okIn inB at this
    simp only [Bool.and_eq_true, decide_eq_true_eq] at this
    obtain ⟨⟨⟨⟨h1, h2⟩, h3⟩, h4⟩, h5⟩ := this
    exact ⟨⟨h1.1, by omega⟩, h2, h3⟩
  have l1 := asc_len o.vasc hv
  have l2 := asc_len (n := 40) o.easc (fun x hx => by obtain ⟨e, h1, rfl⟩ := mem_keysE.1 hx; exact (he e h1).1)
  simp only [keysV, keysE, List.length_map] at l1 l2
  refine ⟨⟨l1, by omega⟩, fun e h => (he e h).2, fun e h1 f h2 hi => ?_, fun e h => (he e h).1.1, fun x hx => (hv x hx).1, o.vasc.imp (fun hab q => by omega)⟩
  obtain ⟨i, hi1, rfl⟩ := List.getElem_of_mem h1
  obtain ⟨j, hj1, rfl⟩ := List.getElem_of_mem h2
  have hp := List.pairwise_iff_getElem.1 o.easc
  rcases Nat.lt_trichotomy i j with hij | hij | hij
  · have := hp i j (by simpa [keysE] using hi1) (by simpa [keysE] using hj1) hij
    simp [keysE] at this; omega
  · subst hij; rfl
  · have := hp j i (by simpa [keysE] using hj1) (by simpa [keysE] using hi1) hij
    simp [keysE] at this; omega
theorem ok_small {g : Gr} (h : g.ok = true) : g.small := by
  have h1 := (ok_facts h).1
  have h2 := ((ok_iff g).1 h).dlen
  unfold Gr.small; omega

end Go.Proofs.Ythmkmjkbfjhffaa
