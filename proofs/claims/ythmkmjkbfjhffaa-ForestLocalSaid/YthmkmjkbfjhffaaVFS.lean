/- Contracts and facts. -/
import Derived.Deep.LoopGhost
import Derived.Handy
import Derived.WalkMore
import Derived.BigRegion
import Derived.Test.YthmkmjkbfjhffaaVFL
import Derived.Test.YthmkmjkbfjhffaaVFH
set_option linter.unusedSimpArgs false
set_option maxRecDepth 100000
set_option maxHeartbeats 4000000
namespace Go.Proofs.Ythmkmjkbfjhffaa
open Go.RowKit
theorem one_int (W : World) (a : Int) : DL (W.alloc (.cells #[.int .i64 a] 3)) (.slice (some ⟨W.heap.size, 0, none⟩) 1 1) [a] := by
  refine .inr ⟨by simp, W.heap.size, 0, 1, rfl, by simp, by simp, fun j x hx => ?_⟩
  have h := heap_alloc_new W (.cells #[.int .i64 a] 3)
  have hj := (List.getElem?_eq_some_iff.1 hx).1
  simp only [List.length_cons, List.length_nil] at hj
  rw [Nat.zero_add, cell_of_row _ _ _ _ _ _ h]
  have : j = 0 := by omega
  subst this
  simp at hx; subst hx; rfl
theorem holds_one {g : Gr} {a : Int} (h : holdsF g [a] = true) : g.ok = true ∧ a ∈ keysV g.vs := by
  unfold holdsF missP at h
  simp only [Bool.and_eq_true, Bool.not_eq_true', List.any_cons, List.any_nil, Bool.or_false, Bool.not_eq_false'] at h
  obtain ⟨h0, h1⟩ := h
  rw [List.any_eq_true] at h1
  obtain ⟨u, u1, u2⟩ := h1
  exact ⟨h0, mem_keysV.2 ⟨u, u1, by simpa using u2⟩⟩
def sideC (g : Gr) (a : Int) : List Int × Int := if holdsF g [a] = true then (sideF (growF g.es (keysV g.vs)) (keysV g.vs) a, 0) else ([], 70)
set_option maxRecDepth 100000 in
theorem Side_any (v : Value) (g : Gr) (a : Int) (w : World) (hv : GV w v g) (hn : g.small) :
    Calls Try.prog 14 #[v, .int .i64 a] w fun e w' => ∃ r, e = .returned (.tuple #[r, .int .i64 (sideC g a).2]) ∧ OwnI w' w.heap.size r (sideC g a).1 ∧ Below w.heap.size w w' := by
  obtain ⟨a1, a2, b1, b2, c1v, c2, rfl, hv1, _, _⟩ := gv_shape hv
  have hR : Hid (sideC g a = if holdsF g [a] = true then (sideF (growF g.es (keysV g.vs)) (keysV g.vs) a, 0) else ([], 70)) := rfl
  obtain ⟨w1, hw1⟩ : ∃ w1, w1 = w.alloc (.cells #[.slice a1 g.vs.length a2, .slice b1 g.es.length b2, .slice c1v g.ds.length c2] 28) := ⟨_, rfl⟩
  have gb : w1.heap[w.heap.size]? = some (.cells #[.slice a1 g.vs.length a2, .slice b1 g.es.length b2, .slice c1v g.ds.length c2] 28 (0, 0)) := by rw [hw1]; exact heap_alloc_new w _
  have B0 : Below w.heap.size w w1 := by rw [hw1]; exact (Below.refl _ w).alloc (Nat.le_refl _) _
  have hs1 : w1.heap.size = w.heap.size + 1 := by rw [hw1]; simp
  obtain ⟨g0, g1, g2⟩ := box3g gb
  have hG1 := Lib.hid (fun W (q : Below w1.heap.size w1 W) => box3g ((q.block _ (by omega)).trans gb))
  have B1 : Below w1.heap.size w1 (w1.alloc (.cells #[.int .i64 a] 3)) := (Below.refl _ w1).alloc (Nat.le_refl _) _
  have hHo := Lib.hid (holds_any _ g _ [a] (w1.alloc (.cells #[.int .i64 a] 3)) ((hv.below B0).below B1) hn (one_int w1 a) (by simp) (fun h => by have := (ok_facts h).1; omega))
  have hB1 := Lib.hid B1
  have hGr := Lib.hid (fun (h : g.ok = true) W (q : Below w1.heap.size w1 W) => grow_any _ g W ((hv.below B0).below q) (ok_facts h).1 (ok_facts h).2)
  have hok := Lib.hid (fun h => (holds_one (g := g) (a := a) h).1)
  have hsm := Lib.hid (fun (h : g.ok = true) => (ok_facts h).1.1)
  have cellV := Lib.hid (fun (k : Nat) (hk : k < g.vs.length) => by
    obtain ⟨b, o, h1, h2⟩ := (hv1.below B0).cells k hk
    exact (show ∃ b o, a1 = some ⟨b, o, none⟩ ∧ ∀ W, Below w1.heap.size w1 W → W.cell? ⟨b, o + k * 2, none⟩ = some (.int .i64 g.vs[k].id) ∧ W.cell? ⟨b, o + k * 2 + 1, none⟩ = some (.int .i64 g.vs[k].side) from ⟨b, o, h1, h2⟩))
  replace hw1 := Lib.hid hw1
  have hB0 := Lib.hid B0
  have hbase : Hid (w.heap.size ≤ w1.heap.size) := by show _ ≤ _; omega
  have f0 := fld0
  generalize sideC g a = R at *
  obtain ⟨R1, R2⟩ := R
  generalize holdsF g [a] = ho at *
  generalize hmm : growF g.es (keysV g.vs) = m at *
  obtain ⟨A, hA⟩ : ∃ A : Nat → List Int, ∀ k, A k = sideF m ((keysV g.vs).take k) a := ⟨_, fun _ => rfl⟩
  have hA0 : Hid (A 0 = []) := by show _ = _; rw [hA]; rfl
  have hAs := Lib.hid (fun (k : Nat) (hk : k < g.vs.length) => (show A (k + 1) = if (gp m g.vs[k].id).root = (gp m a).root then A k ++ [g.vs[k].id] else A k by
    have hk' : k < (keysV g.vs).length := by simpa [keysV] using hk
    rw [hA, hA, List.take_succ_eq_append_getElem hk']
    unfold sideF
    rw [List.filter_append, show (keysV g.vs)[k] = g.vs[k].id from by simp [keysV]]
    by_cases h : (gp m g.vs[k].id).root = (gp m a).root
    · rw [if_pos h, List.filter_cons_of_pos (by simpa using h)]; rfl
    · rw [if_neg h, List.filter_cons_of_neg (by simpa using h)]; simp))
  have hAe : Hid (A g.vs.length = sideF m (keysV g.vs) a) := by show _ = _; rw [hA, List.take_of_length_le (by simp [keysV])]
  have hAl := Lib.hid (fun k => (show (A k).length ≤ g.vs.length by
    rw [hA]; unfold sideF
    have h1 := List.length_filter_le (fun v => decide ((gp m v).root = (gp m a).root)) ((keysV g.vs).take k)
    have h2 := List.length_take_le k (keysV g.vs)
    have h3 : (keysV g.vs).length = g.vs.length := by simp [keysV]
    have h4 : ((keysV g.vs).take k).length ≤ (keysV g.vs).length := by rw [List.length_take]; omega
    omega))
  replace hmm := Lib.hid hmm
  obtain ⟨N, hN⟩ : ∃ N, Hid (N = g.vs.length) := ⟨_, rfl⟩
  rw [← hN.out] at hw1 hHo hG1 hAe hAl hGr hsm g0
  rw [← hN.out]
  generalize g.es.length = n2 at *
  generalize g.ds.length = n3 at *
  clear hs1 B0 B1 gb hv hv1 hA
  cases ho with
  | false =>
    obtain ⟨r1, r2⟩ := Prod.mk.inj hR.out
    replace r1 := Lib.hid r1
    replace r2 := Lib.hid r2
    clear hR hGr hok hAs
    go_enter Try.func14, Try.ntmps14
    go_upto_region 1 with (fail)
    rw [← hw1.out]
    go_wp2_with fail
    refine hHo.out.mono ?_
    rintro e w2 ⟨rfl, b2⟩
    have B2 := Lib.hid ((hB0.out.trans (hB1.out.mono hB0.out.size)).trans (b2.mono (hB0.out.trans (hB1.out.mono hB0.out.size)).size))
    clear b2 hHo g0 g1 g2
    go_wp2_with fail
    go_ret2
    rw [r1.out, r2.out]
    exact ⟨_, rfl, World.ownsRow_nil _ _ _ _, B2.out⟩
  | true =>
    obtain ⟨r1, r2⟩ := Prod.mk.inj hR.out
    replace r1 := Lib.hid r1
    replace r2 := Lib.hid r2
    have hg2 := Lib.hid (hGr.out (hok.out rfl))
    have hN24 : N ≤ 24 := hsm.out (hok.out rfl)
    clear hR hok hGr hsm
    go_enter Try.func14, Try.ntmps14
    go_upto_region 1 with (fail)
    rw [← hw1.out]
    go_wp2_with fail
    refine hHo.out.mono ?_
    rintro e w2 ⟨rfl, b2⟩
    have B2 := Lib.hid (hB1.out.trans (b2.mono hB1.out.size))
    clear b2 hHo g0 g1 g2
    obtain ⟨g0, g1, g2⟩ := hG1.out w2 B2.out
    go_wp2_with fail
    refine (hg2.out w2 B2.out).mono ?_
    rintro e w3 ⟨mb, rfl, h1, h2, hP, b3⟩
    have B3 := Lib.hid (B2.out.trans (b3.mono B2.out.size))
    have hPW := Lib.hid (fun W (q : Below w3.heap.size w3 W) => hP.below q h2)
    clear b3 g0 g1 g2 hP hg2
    obtain ⟨g0, g1, g2⟩ := hG1.out w3 B3.out
    go_wp2_with fail
    clear g0 g1 g2
    go_loopg [7, 20] N (fun n lv iv wr => ∃ k : Nat, k + n = N ∧ iv = .int .i64 k ∧ OwnI wr w3.heap.size lv (A k) ∧ Below w3.heap.size w3 wr)
    case atStart => exact ⟨0, by omega, rfl, by rw [hA0.out]; exact World.ownsRow_nil _ _ _ _, Below.refl _ _⟩
    case round =>
      obtain ⟨k, hk, rfl, hown, B⟩ := hrel
      obtain ⟨wo, rfl⟩ : ∃ x, x = wr := ⟨_, rfl⟩
      cases gk with
      | zero =>
        have hk2 : k = N := by omega
        have i1 : ¬ (k : Int) < (N : Int) := by omega
        rw [hk2, hAe.out] at hown
        have hB := Lib.hid (B3.out.trans (B.mono B3.out.size))
        have hfin := Lib.hid hown
        clear hk2 hk hown B
        go_wp2_with fail
        go_ret2
        rw [r1.out, r2.out]
        have hle := B3.out.size
        have hbs := hbase.out
        exact ⟨_, rfl, ⟨hfin.out.1, hfin.out.2.imp id fun ⟨g, cap, cur, h1, h2, h3⟩ => ⟨g, cap, cur, h1, by omega, h3⟩⟩, hB0.out.trans (hB.out.mono hbs)⟩
      | succ ga =>
        have hlt : k < N := by omega
        have hkl : k < g.vs.length := by rw [← hN.out]; exact hlt
        obtain ⟨bv, ov, rfl, cv⟩ := cellV.out k hkl
        obtain ⟨d0, d1⟩ := cv wo (B3.out.trans (B.mono B3.out.size))
        have i0 : (0 : Int) ≤ (k : Int) := by omega
        have i1 : (k : Int) < (N : Int) := by omega
        have hst := Lib.hid (hAs.out k hkl)
        have hln := hAl.out k
        have hle : Hid (k + 1 + ga = N) := by show _ = _; omega
        generalize g.vs[k].id = r at *
        generalize g.vs[k].side = sd at *
        generalize A k = L at *
        obtain ⟨W1, hW1⟩ : ∃ W1, W1 = wo.alloc (.cells #[.int .i64 r, .int .i64 sd] 31) := ⟨_, rfl⟩
        have B1 : Below wo.heap.size wo W1 := by rw [hW1]; exact (Below.refl _ wo).alloc (Nat.le_refl _) _
        have vb : W1.heap[wo.heap.size]? = some (.cells #[.int .i64 r, .int .i64 sd] 31 (0, 0)) := by rw [hW1]; exact two_cells _ _ _ _
        have v0 : W1.cell? ⟨wo.heap.size, 0, none⟩ = some (.int .i64 r) := by rw [cell_of_row _ _ _ _ _ _ vb]; rfl
        have hBw := B.trans (B1.mono B.size)
        have hget := (hPW.out W1 hBw).get
        have ho1 : OwnI W1 w3.heap.size _ L := own_below hown B1
        obtain ⟨v', w', hr, ho2, hb2, _⟩ := snocI W1 w3.heap.size _ L r ho1 (by omega) hBw.size
        have hb3 := Lib.hid (hb2 w3 hBw (Nat.le_refl _) (Nat.le_refl _))
        replace ho2 := Lib.hid ho2
        replace ho1 := Lib.hid ho1
        replace hBw := Lib.hid hBw
        replace hW1 := Lib.hid hW1
        clear hb2 hown B B1 vb cv hk hkl hlt hln
        go_upto_region 8 with (fail)
        rw [← hW1.out]
        clear d0 d1
        by_cases hx : (gp m r).root = (gp m a).root
        · have t1 : ((gp m r).root == (gp m a).root) = true := by simpa using hx
          have hnew : Hid (A (k + 1) = L ++ [r]) := by show _ = _; rw [hst.out, if_pos hx]
          clear hx hst
          go_wp2_with (at_builtin; refine wpList_append_runB rfl (.tmp 34) (.tmp 37) 26 rfl u7 (.slice (some ⟨W1.heap.size, 0, none⟩) 1 1) rfl rfl _ _ hr ?_)
          go_roundg ga
          case measure => omega
          case rel => exact ⟨k + 1, hle.out, by go_num, by rw [hnew.out]; exact ho2.out, hb3.out⟩
        · have t1 : ((gp m r).root == (gp m a).root) = false := by simpa using hx
          have hnew : Hid (A (k + 1) = L) := by show _ = _; rw [hst.out, if_neg hx]
          clear hx hst hr
          go_wp2_with fail
          go_roundg ga
          case measure => omega
          case rel => exact ⟨k + 1, hle.out, by go_num, by rw [hnew.out]; exact ho1.out, hBw.out⟩

end Go.Proofs.Ythmkmjkbfjhffaa
/- Contracts and facts. -/
set_option linter.unusedSimpArgs false
set_option maxRecDepth 100000
set_option maxHeartbeats 4000000
namespace Go.Proofs.Ythmkmjkbfjhffaa
open Go.RowKit
theorem walk_snoc {es : List Ed} : ∀ (l : List Int) (a x : Int), walkF es a (l ++ [x]) = (walkF es a l).bind fun c => if (stepF es c x).2 = true then some (stepF es c x).1 else none := by
  intro l
  induction l with
  | nil => intro a x; simp [walkF]
  | cons y l ih =>
    intro a x
    simp only [List.cons_append, walkF]
    split
    · exact ih _ x
    · rfl
theorem walk_stop {es : List Ed} : ∀ (l m : List Int) (a : Int), walkF es a l = none → walkF es a (l ++ m) = none := by
  intro l
  induction l with
  | nil => intro m a h; cases h
  | cons y l ih =>
    intro m a h
    simp only [List.cons_append, walkF] at h ⊢
    split at h
    · next h2 => rw [if_pos h2]; exact ih m _ h
    · next h2 => rw [if_neg h2]
def ckPathC (g : Gr) (a b : Int) (l : List Int) : Bool := decide (l.length ≤ 40) && (holdsF g [a, b] && decide (walkF g.es a l = some b))
set_option maxRecDepth 100000 in
theorem CheckPath_any (v : Value) (g : Gr) (a b : Int) (vl : Value) (l : List Int) (w : World) (hv : GV w v g) (hn : g.small) (hl : DL w vl l) (hm : l.length ≤ 1000000000) (hes : g.es.length ≤ 1000000000) :
    Calls Try.prog 15 #[v, .int .i64 a, .int .i64 b, vl] w fun e w' => e = .returned (.bool (ckPathC g a b l)) ∧ Below w.heap.size w w' := by
  obtain ⟨a1, a2, b1, b2, c1v, c2, rfl, _, _, _⟩ := gv_shape hv
  obtain ⟨l1, l2, rfl⟩ := hl.shape
  have hR : Hid (ckPathC g a b l = (decide (l.length ≤ 40) && (holdsF g [a, b] && decide (walkF g.es a l = some b)))) := rfl
  obtain ⟨w1, hw1⟩ : ∃ w1, w1 = w.alloc (.cells #[.slice a1 g.vs.length a2, .slice b1 g.es.length b2, .slice c1v g.ds.length c2] 28) := ⟨_, rfl⟩
  have gb : w1.heap[w.heap.size]? = some (.cells #[.slice a1 g.vs.length a2, .slice b1 g.es.length b2, .slice c1v g.ds.length c2] 28 (0, 0)) := by rw [hw1]; exact heap_alloc_new w _
  have B0 : Below w.heap.size w w1 := by rw [hw1]; exact (Below.refl _ w).alloc (Nat.le_refl _) _
  have hs1 : w1.heap.size = w.heap.size + 1 := by rw [hw1]; simp
  obtain ⟨g0, g1, g2⟩ := box3g gb
  have hG1 := Lib.hid (fun W (q : Below w1.heap.size w1 W) => box3g ((q.block _ (by omega)).trans gb))
  have B1 : Below w1.heap.size w1 (w1.alloc (.cells #[.int .i64 a, .int .i64 b] 3)) := (Below.refl _ w1).alloc (Nat.le_refl _) _
  have hHo := Lib.hid (holds_any _ g _ [a, b] (w1.alloc (.cells #[.int .i64 a, .int .i64 b] 3)) ((hv.below B0).below B1) hn (two_ints w1 a b) (by simp) (fun h => by have := (ok_facts h).1; omega))
  have hSt := Lib.hid (fun (c x : Int) W (q : Below w1.heap.size w1 W) => step_any _ g c x W ((hv.below B0).below q) hes)
  have cellD := Lib.hid (hl.below B0).cells
  have hB1 := Lib.hid B1
  replace hw1 := Lib.hid hw1
  have hB0 := Lib.hid B0
  generalize ckPathC g a b l = R at *
  generalize holdsF g [a, b] = ho at *
  obtain ⟨N, hN⟩ : ∃ N, Hid (N = l.length) := ⟨_, rfl⟩
  rw [← hN.out] at hR hm ⊢
  have hWs := Lib.hid (fun (k : Nat) (hk : k < l.length) c (h : walkF g.es a (l.take k) = some c) => (show walkF g.es a (l.take (k + 1)) = (if (stepF g.es c l[k]).2 = true then some (stepF g.es c l[k]).1 else none) by
    rw [List.take_succ_eq_append_getElem hk, walk_snoc, h]; rfl))
  have hWn := Lib.hid (fun (k : Nat) (h : walkF g.es a (l.take k) = none) => (show walkF g.es a l = none by
    have := walk_stop (l.take k) (l.drop k) a h
    rwa [List.take_append_drop] at this))
  have hWe : Hid (walkF g.es a (l.take N) = walkF g.es a l) := by show _ = _; rw [List.take_of_length_le (by rw [hN.out]; exact Nat.le_refl _)]
  generalize g.vs.length = n1 at *
  generalize g.es.length = n2 at *
  generalize g.ds.length = n3 at *
  clear hs1 B0 B1 gb hv hl hes
  by_cases hlong : (40 : Int) < (N : Int)
  · have t1 : decide ((N : Int) > 40) = true := decide_eq_true hlong
    have t2 : decide ((40 : Int) < (N : Int)) = true := decide_eq_true hlong
    have t3 : decide (40 < N) = true := by rw [decide_eq_true_iff]; omega
    have hF : Hid (R = false) := by
      show _ = _
      rw [hR.out, decide_eq_false (by omega)]; rfl
    clear hlong hR
    go_enter Try.func15, Try.ntmps15
    go_upto_region 1 with (fail)
    rw [← hw1.out]
    go_wp2_with fail
    go_ret
    exact ⟨ret_bool hF.out.symm, hB0.out⟩
  · have t1 : decide ((N : Int) > 40) = false := decide_eq_false hlong
    have t2 : decide ((40 : Int) < (N : Int)) = false := decide_eq_false hlong
    have t3 : decide (40 < N) = false := by rw [decide_eq_false_iff_not]; omega
    have hR2 : Hid (R = (ho && decide (walkF g.es a l = some b))) := by
      show _ = _
      rw [hR.out, decide_eq_true (by omega)]; rfl
    have hN40 : N ≤ 40 := by omega
    clear hlong hR
    cases ho with
    | false =>
      go_enter Try.func15, Try.ntmps15
      go_upto_region 1 with (fail)
      rw [← hw1.out]
      go_wp2_with fail
      refine hHo.out.mono ?_
      rintro e w2 ⟨rfl, b2⟩
      have B2 := Lib.hid ((hB0.out.trans (hB1.out.mono hB0.out.size)).trans (b2.mono (hB0.out.trans (hB1.out.mono hB0.out.size)).size))
      clear b2 hHo g0 g1 g2
      go_wp2_with fail
      go_ret
      exact ⟨ret_bool hR2.out.symm, B2.out⟩
    | true =>
      have hR3 : Hid (R = decide (walkF g.es a l = some b)) := by show _ = _; rw [hR2.out]; rfl
      clear hR2
      go_enter Try.func15, Try.ntmps15
      go_upto_region 1 with (fail)
      rw [← hw1.out]
      go_wp2_with fail
      refine hHo.out.mono ?_
      rintro e w2 ⟨rfl, b2⟩
      have B2 := Lib.hid (hB1.out.trans (b2.mono hB1.out.size))
      clear b2 hHo g0 g1 g2 t1 t2 t3
      go_wp2_with fail
      go_loopg [9, 28] N (fun n cv iv wr => ∃ k : Nat, ∃ c, k + n = N ∧ iv = .int .i64 k ∧ cv = .int .i64 c ∧ walkF g.es a (l.take k) = some c ∧ Below w1.heap.size w1 wr)
      case atStart => exact ⟨0, a, by omega, rfl, rfl, rfl, B2.out⟩
      case round =>
        obtain ⟨k, c, hk, rfl, rfl, hW, B⟩ := hrel
        obtain ⟨wo, rfl⟩ : ∃ x, x = wr := ⟨_, rfl⟩
        cases gk with
        | zero =>
          have hk2 : k = N := by omega
          have i1 : ¬ (k : Int) < (N : Int) := by omega
          rw [hk2, hWe.out] at hW
          have hfin : Hid (R = decide (c = b)) := by show _ = _; rw [hR3.out, hW]; simp
          have hB := Lib.hid (hB0.out.trans (B.mono hB0.out.size))
          clear hk2 hk hW B
          go_wp2_with fail
          go_ret
          refine ⟨ret_bool ?_, hB.out⟩
          rw [hfin.out, Bool.eq_iff_iff]; simp
        | succ ga =>
          have hlt : k < N := by omega
          have hkl : k < l.length := by rw [← hN.out]; exact hlt
          obtain ⟨bv, ov, rfl, cv⟩ := cellD.out k hkl
          have d0 := cv wo B
          have i0 : (0 : Int) ≤ (k : Int) := by omega
          have i1 : (k : Int) < (N : Int) := by omega
          have hle : Hid (k + 1 + ga = N) := by show _ = _; omega
          have hws := Lib.hid (hWs.out k hkl c hW)
          obtain ⟨q0, q1, q2⟩ := hG1.out wo B
          generalize l[k] = x at *
          have hst := Lib.hid (hSt.out c x wo B)
          generalize stepF g.es c x = p at *
          obtain ⟨p1, p2⟩ := p
          have hk40 : (k : Int) ≤ 40 := by omega
          clear cv hW hk hlt hkl
          cases p2 with
          | false =>
            have hfin : Hid (R = false) := by
              show _ = _
              rw [hR3.out, hWn.out (k + 1) (by rw [hws.out]; rfl)]; simp
            clear hws
            go_wp2_with fail
            refine hst.out.mono ?_
            rintro e w3 ⟨rfl, b3⟩
            have hB := Lib.hid (hB0.out.trans ((B.trans (b3.mono B.size)).mono hB0.out.size))
            clear b3 q0 q1 q2 d0
            go_wp2_with fail
            go_ret
            exact ⟨ret_bool hfin.out.symm, hB.out⟩
          | true =>
            have hnx : Hid (walkF g.es a (l.take (k + 1)) = some p1) := by show _ = _; rw [hws.out]; rfl
            clear hws
            go_wp2_with fail
            refine hst.out.mono ?_
            rintro e w3 ⟨rfl, b3⟩
            have hB := Lib.hid (B.trans (b3.mono B.size))
            clear b3 q0 q1 q2 d0
            go_wp2_with fail
            go_roundg ga
            case measure => omega
            case rel => exact ⟨k + 1, p1, hle.out, by go_num, rfl, hnx.out, hB.out⟩

end Go.Proofs.Ythmkmjkbfjhffaa
