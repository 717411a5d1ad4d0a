/- Contracts and facts. -/
import Derived.Deep.LoopGhost
import Derived.Handy
import Derived.WalkMore
import Derived.BigRegion
import Derived.Test.YtlnbobclbaieoaaUFS
import Derived.Test.YtlnbobclbaieoaaUFH
set_option linter.unusedSimpArgs false
set_option maxRecDepth 100000
set_option maxHeartbeats 4000000
namespace Go.Proofs.Ytlnbobclbaieoaa
open Go.RowKit
theorem walk_snoc {es : List Ed} : ∀ (l : List Int) (a x : Int), walkF es a (l ++ [x]) = (walkF es a l).bind fun c => if (stepF es c x).2 = true then some (stepF es c x).1 else none := by
  intro l
  induction l with
  | nil => intro a x; simp [walkF]
  | cons y l ih =>
    intro a x
    simp only [List.cons_append, walkF]
    split
    · exact ih _ x
    · rfl
theorem walk_stop {es : List Ed} : ∀ (l m : List Int) (a : Int), walkF es a l = none → walkF es a (l ++ m) = none := by
  intro l
  induction l with
  | nil => intro m a h; cases h
  | cons y l ih =>
    intro m a h
    simp only [List.cons_append, walkF] at h ⊢
    split at h
    · next h2 => rw [if_pos h2]; exact ih m _ h
    · next h2 => rw [if_neg h2]
def ckPathC (g : Gr) (a b : Int) (l : List Int) : Bool := decide (l.length ≤ 40) && (holdsF g [a, b] && decide (walkF g.es a l = some b))
set_option maxRecDepth 100000 in
theorem CheckPath_any (v : Value) (g : Gr) (a b : Int) (vl : Value) (l : List Int) (w : World) (hv : GV w v g) (hn : g.small) (hl : DL w vl l) (hm : l.length ≤ 1000000000) (hes : g.es.length ≤ 1000000000) :
    Calls Try.prog 15 #[v, .int .i64 a, .int .i64 b, vl] w fun e w' => e = .returned (.bool (ckPathC g a b l)) ∧ Below w.heap.size w w' := by
  obtain ⟨a1, a2, b1, b2, c1v, c2, rfl, _, _, _⟩ := gv_shape hv
  obtain ⟨l1, l2, rfl⟩ := hl.shape
  have hR : Hid (ckPathC g a b l = (decide (l.length ≤ 40) && (holdsF g [a, b] && decide (walkF g.es a l = some b)))) := rfl
  obtain ⟨w1, hw1⟩ : ∃ w1, w1 = w.alloc (.cells #[.slice a1 g.vs.length a2, .slice b1 g.es.length b2, .slice c1v g.ds.length c2] 28) := ⟨_, rfl⟩
  have gb : w1.heap[w.heap.size]? = some (.cells #[.slice a1 g.vs.length a2, .slice b1 g.es.length b2, .slice c1v g.ds.length c2] 28 (0, 0)) := by rw [hw1]; exact heap_alloc_new w _
  have B0 : Below w.heap.size w w1 := by rw [hw1]; exact (Below.refl _ w).alloc (Nat.le_refl _) _
  have hs1 : w1.heap.size = w.heap.size + 1 := by rw [hw1]; simp
  obtain ⟨g0, g1, g2⟩ := box3g gb
  have hG1 := Lib.hid (fun W (q : Below w1.heap.size w1 W) => box3g ((q.block _ (by omega)).trans gb))
  have B1 : Below w1.heap.size w1 (w1.alloc (.cells #[.int .i64 a, .int .i64 b] 3)) := (Below.refl _ w1).alloc (Nat.le_refl _) _
  have hHo := Lib.hid (holds_any _ g _ [a, b] (w1.alloc (.cells #[.int .i64 a, .int .i64 b] 3)) ((hv.below B0).below B1) hn (two_ints w1 a b) (by simp) (fun h => by have := (ok_facts h).1; omega))
  have hSt := Lib.hid (fun (c x : Int) W (q : Below w1.heap.size w1 W) => step_any _ g c x W ((hv.below B0).below q) hes)
  have cellD := Lib.hid (hl.below B0).cells
  have hB1 := Lib.hid B1
  replace hw1 := Lib.hid hw1
  have hB0 := Lib.hid B0
  generalize ckPathC g a b l = R at *
  generalize holdsF g [a, b] = ho at *
  obtain ⟨N, hN⟩ : ∃ N, Hid (N = l.length) := ⟨_, rfl⟩
  rw [← hN.out] at hR hm ⊢
  have hWs := Lib.hid (fun (k : Nat) (hk : k < l.length) c (h : walkF g.es a (l.take k) = some c) => (show walkF g.es a (l.take (k + 1)) = (if (stepF g.es c l[k]).2 = true then some (stepF g.es c l[k]).1 else none) by
    rw [List.take_succ_eq_append_getElem hk, walk_snoc, h]; rfl))
  have hWn := Lib.hid (fun (k : Nat) (h : walkF g.es a (l.take k) = none) => (show walkF g.es a l = none by
    have := walk_stop (l.take k) (l.drop k) a h
    rwa [List.take_append_drop] at this))
  have hWe : Hid (walkF g.es a (l.take N) = walkF g.es a l) := by show _ = _; rw [List.take_of_length_le (by rw [hN.out]; exact Nat.le_refl _)]
  generalize g.vs.length = n1 at *
  generalize g.es.length = n2 at *
  generalize g.ds.length = n3 at *
  clear hs1 B0 B1 gb hv hl hes
  by_cases hlong : (40 : Int) < (N : Int)
  · have t1 : decide ((N : Int) > 40) = true := decide_eq_true hlong
    have t2 : decide ((40 : Int) < (N : Int)) = true := decide_eq_true hlong
    have t3 : decide (40 < N) = true := by rw [decide_eq_true_iff]; omega
    have hF : Hid (R = false) := by
      show _ = _
      rw [hR.out, decide_eq_false (by omega)]; rfl
    clear hlong hR
    go_enter Try.func15, Try.ntmps15
    go_upto_region 1 with (fail)
    rw [← hw1.out]
    go_wp2_with fail
    go_ret
    exact ⟨ret_bool hF.out.symm, hB0.out⟩
  · have t1 : decide ((N : Int) > 40) = false := decide_eq_false hlong
    have t2 : decide ((40 : Int) < (N : Int)) = false := decide_eq_false hlong
    have t3 : decide (40 < N) = false := by rw [decide_eq_false_iff_not]; omega
    have hR2 : Hid (R = (ho && decide (walkF g.es a l = some b))) := by
      show _ = _
      rw [hR.out, decide_eq_true (by omega)]; rfl
    have hN40 : N ≤ 40 := by omega
    clear hlong hR
    cases ho with
    | false =>
      go_enter Try.func15, Try.ntmps15
      go_upto_region 1 with (fail)
      rw [← hw1.out]
      go_wp2_with fail
      refine hHo.out.mono ?_
      rintro e w2 ⟨rfl, b2⟩
      have B2 := Lib.hid ((hB0.out.trans (hB1.out.mono hB0.out.size)).trans (b2.mono (hB0.out.trans (hB1.out.mono hB0.out.size)).size))
      clear b2 hHo g0 g1 g2
      go_wp2_with fail
      go_ret
      exact ⟨ret_bool hR2.out.symm, B2.out⟩
    | true =>
      have hR3 : Hid (R = decide (walkF g.es a l = some b)) := by show _ = _; rw [hR2.out]; rfl
      clear hR2
      go_enter Try.func15, Try.ntmps15
      go_upto_region 1 with (fail)
      rw [← hw1.out]
      go_wp2_with fail
      refine hHo.out.mono ?_
      rintro e w2 ⟨rfl, b2⟩
      have B2 := Lib.hid (hB1.out.trans (b2.mono hB1.out.size))
      clear b2 hHo g0 g1 g2 t1 t2 t3
      go_wp2_with fail
      go_loopg [9, 28] N (fun n cv iv wr => ∃ k : Nat, ∃ c, k + n = N ∧ iv = .int .i64 k ∧ cv = .int .i64 c ∧ walkF g.es a (l.take k) = some c ∧ Below w1.heap.size w1 wr)
      case atStart => exact ⟨0, a, by omega, rfl, rfl, rfl, B2.out⟩
      case round =>
        obtain ⟨k, c, hk, rfl, rfl, hW, B⟩ := hrel
        obtain ⟨wo, rfl⟩ : ∃ x, x = wr := ⟨_, rfl⟩
        cases gk with
        | zero =>
          have hk2 : k = N := by omega
          have i1 : ¬ (k : Int) < (N : Int) := by omega
          rw [hk2, hWe.out] at hW
          have hfin : Hid (R = decide (c = b)) := by show _ = _; rw [hR3.out, hW]; simp
          have hB := Lib.hid (hB0.out.trans (B.mono hB0.out.size))
          clear hk2 hk hW B
          go_wp2_with fail
          go_ret
          refine ⟨ret_bool ?_, hB.out⟩
          rw [hfin.out, Bool.eq_iff_iff]; simp
        | succ ga =>
          have hlt : k < N := by omega
          have hkl : k < l.length := by rw [← hN.out]; exact hlt
          obtain ⟨bv, ov, rfl, cv⟩ := cellD.out k hkl
          have d0 := cv wo B
          have i0 : (0 : Int) ≤ (k : Int) := by omega
          have i1 : (k : Int) < (N : Int) := by omega
          have hle : Hid (k + 1 + ga = N) := by show _ = _; omega
          have hws := Lib.hid (hWs.out k hkl c hW)
          obtain ⟨q0, q1, q2⟩ := hG1.out wo B
          generalize l[k] = x at *
          have hst := Lib.hid (hSt.out c x wo B)
          generalize stepF g.es c x = p at *
          obtain ⟨p1, p2⟩ := p
          have hk40 : (k : Int) ≤ 40 := by omega
          clear cv hW hk hlt hkl
          cases p2 with
          | false =>
            have hfin : Hid (R = false) := by
              show _ = _
              rw [hR3.out, hWn.out (k + 1) (by rw [hws.out]; rfl)]; simp
            clear hws
            go_wp2_with fail
            refine hst.out.mono ?_
            rintro e w3 ⟨rfl, b3⟩
            have hB := Lib.hid (hB0.out.trans ((B.trans (b3.mono B.size)).mono hB0.out.size))
            clear b3 q0 q1 q2 d0
            go_wp2_with fail
            go_ret
            exact ⟨ret_bool hfin.out.symm, hB.out⟩
          | true =>
            have hnx : Hid (walkF g.es a (l.take (k + 1)) = some p1) := by show _ = _; rw [hws.out]; rfl
            clear hws
            go_wp2_with fail
            refine hst.out.mono ?_
            rintro e w3 ⟨rfl, b3⟩
            have hB := Lib.hid (B.trans (b3.mono B.size))
            clear b3 q0 q1 q2 d0
            go_wp2_with fail
            go_roundg ga
            case measure => omega
            case rel => exact ⟨k + 1, p1, hle.out, by go_num, rfl, hnx.out, hB.out⟩

end Go.Proofs.Ytlnbobclbaieoaa
