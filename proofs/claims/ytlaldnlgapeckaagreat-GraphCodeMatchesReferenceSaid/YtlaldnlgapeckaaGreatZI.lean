/- The reference's Same. -/
import Derived.Test.YtlaldnlgapeckaaGreatYF
import Derived.Test.YtlaldnlgapeckaaGreatYH
set_option maxRecDepth 100000
set_option maxHeartbeats 4000000
namespace Go.Proofs.YtlaldnlgapeckaaGreat
open Go.RowKit
theorem SameEdges_any (va vb : Value) (A B : List Ed) (w : World) (ha : EL w va A) (hb : EL w vb B) (hAl : A.length ≤ 1000000000000) (_ : B.length ≤ 1000000000000) :
  Calls Tryz.prog 27 #[va, vb] w fun e w' => e = .returned (.bool (decide (A = B))) ∧ Below w.heap.size w w' := by
 by_cases hlen : A.length = B.length;rotate_left
 ·have hr : decide (A = B) = false := by rw [decide_eq_false_iff_not]; exact fun e => hlen (by rw [e])
  rw [hr];obtain ⟨a1, c1, rfl⟩ := ha.shape;obtain ⟨a2, c2, rfl⟩ := hb.shape;clear ha hb hr;generalize A.length = N at *
  generalize B.length = M at *
  have t0 : ((N : Int) != (M : Int)) = true := by rw [bne_iff_ne]; omega
  have t0n : ((N : Int) == (M : Int)) = false := by rw [beq_eq_false_iff_ne]; omega
  go_enter Tryz.func27, Tryz.ntmps27;go_wp2_with fail;go_ret;exact ⟨rfl, Below.refl _ _⟩
 by_cases h0 : A = []
 ·subst h0;obtain rfl : B = [] := List.length_eq_zero_iff.1 hlen.symm;obtain ⟨a1, c1, rfl⟩ := ha.shape;obtain ⟨a2, c2, rfl⟩ := hb.shape;clear ha hb;have hr : decide (([] : List Ed) = []) = true := by simp
  rw [hr];go_enter Tryz.func27, Tryz.ntmps27;go_wp2_with fail
  go_loop [5] (fun i => i = .int .i64 0) (fun _ => 0)
  case atStart => rfl
  case round =>
   obtain rfl := hrel;go_wp2_with fail;go_ret;exact ⟨rfl, Below.refl _ _⟩
 ·have h0B : B ≠ [] := fun e => by rw [e] at hlen; exact h0 (List.length_eq_zero_iff.1 hlen)
  obtain ⟨b1, o1, k1, rfl, e1, e2, e3⟩ := ha.own h0;obtain ⟨b2, o2, k2, rfl, f1, f2, f3⟩ := hb.own h0B;rw [← hlen] at f1 ⊢;have cellA := Hd (fun (k : Nat) (hk : k < A.length) w' (B : Below w.heap.size w w') => (e3.below e2 B) k _ (List.getElem?_eq_getElem hk));have cellB := Hd (fun (k : Nat) (hk : k < B.length) w' (B : Below w.heap.size w w') => (f3.below f2 B) k _ (List.getElem?_eq_getElem hk));clear ha hb e3 f3 h0 h0B;obtain ⟨N, hN, hM⟩ : ∃ N, Hid (N = A.length) ∧ Hid (N = B.length) := ⟨_, rfl, hlen⟩;clear hlen;rw [← hN.out] at hAl e1 f1 ⊢;go_enter Tryz.func27, Tryz.ntmps27;go_wp2_with fail
  go_loopw [5] (fun i wr => ∃ k : Nat, k ≤ N ∧ i = .int .i64 k ∧ Hid (A.take k = B.take k) ∧ Below w.heap.size w wr) (fun i _ => N - (intOf i).toNat)
  case atStart => exact ⟨0, by omega, rfl, rfl, Below.refl _ _⟩
  case round =>
   obtain ⟨k, hk, rfl, hall, Bw⟩ := hrel;by_cases hlt : k < N
   ·have hkA : k < A.length := by rw [← hN.out]; exact hlt
    have hkB : k < B.length := by rw [← hM.out]; exact hlt
    have q1 := cellA.out k hkA wr Bw;have q2 := cellB.out k hkB wr Bw;have i0 : (0 : Int) ≤ (k : Int) := by omega
    have i1 : (k : Int) < (N : Int) := by omega
    by_cases hxy : A[k] = B[k]
    ·have hnew : Hid (A.take (k + 1) = B.take (k + 1)) := by
      unfold Hid;rw [List.take_succ_eq_append_getElem hkA, List.take_succ_eq_append_getElem hkB, hall.out, hxy]
     rw [← hxy] at q2;clear hxy hall;generalize A[k] = x at *
     obtain ⟨c0, c1, c2, c3, c4, c5⟩ := q1;obtain ⟨d0, d1, d2, d3, d4, d5⟩ := q2;go_wp2_with fail
     go_quiet (fail)
     go_wp2_with fail
     go_roundw
     case rel => exact ⟨k + 1, by omega, by go_num, hnew, below_drewN Bw _⟩
     case measure => simp [intOf]; omega
    ·have hr : decide (A = B) = false := by
      rw [decide_eq_false_iff_not];intro e;subst e;exact hxy rfl
     have hr2 := Hd hr;generalize A[k] = x at *
     generalize B[k] = y at *
     obtain ⟨c0, c1, c2, c3, c4, c5⟩ := q1;obtain ⟨d0, d1, d2, d3, d4, d5⟩ := q2;by_cases h0 : x.id = y.id;rotate_left
     ·have hne : (x.id == y.id) = false := by simpa using h0
      have hnh := Hd h0;clear hxy hr hall h0;go_wp2_with fail
      go_quiet (fail)
      go_wp2_with fail;go_ret;exact ⟨ret_bool hr2.out.symm, below_drewN Bw _⟩
     rw [← h0] at d0;by_cases h1 : x.src = y.src;rotate_left
     ·have hne : (x.src == y.src) = false := by simpa using h1
      have hnh := Hd h1;clear hxy hr hall h1;go_wp2_with fail
      go_quiet (fail)
      go_wp2_with fail;go_ret;exact ⟨ret_bool hr2.out.symm, below_drewN Bw _⟩
     rw [← h1] at d1;by_cases h2 : x.dst = y.dst;rotate_left
     ·have hne : (x.dst == y.dst) = false := by simpa using h2
      have hnh := Hd h2;clear hxy hr hall h2;go_wp2_with fail
      go_quiet (fail)
      go_wp2_with fail;go_ret;exact ⟨ret_bool hr2.out.symm, below_drewN Bw _⟩
     rw [← h2] at d2;by_cases h3 : x.dir = y.dir;rotate_left
     ·have hne : (x.dir == y.dir) = false := by simpa using h3
      have hnh := Hd h3;clear hxy hr hall h3;go_wp2_with fail
      go_quiet (fail)
      go_wp2_with fail;go_ret;exact ⟨ret_bool hr2.out.symm, below_drewN Bw _⟩
     rw [← h3] at d3;by_cases h4 : x.wt = y.wt;rotate_left
     ·have hne : (x.wt == y.wt) = false := by simpa using h4
      have hnh := Hd h4;clear hxy hr hall h4;go_wp2_with fail
      go_quiet (fail)
      go_wp2_with fail;go_ret;exact ⟨ret_bool hr2.out.symm, below_drewN Bw _⟩
     rw [← h4] at d4;by_cases h5 : x.cap = y.cap;rotate_left
     ·have hne : (x.cap == y.cap) = false := by simpa using h5
      have hnh := Hd h5;clear hxy hr hall h5;go_wp2_with fail
      go_quiet (fail)
      go_wp2_with fail;go_ret;exact ⟨ret_bool hr2.out.symm, below_drewN Bw _⟩
     rw [← h5] at d5;exact absurd (by cases x; cases y; simp_all) hxy
   ·have hk2 : k = N := by omega
    have hr : decide (A = B) = true := by
     have h := hall.out;rw [List.take_of_length_le (by rw [hk2, ← hN.out]; exact Nat.le_refl _), List.take_of_length_le (by rw [hk2, ← hM.out]; exact Nat.le_refl _)] at h;simpa using h
    have hr2 := Hd hr;have i1 : ¬ (k : Int) < (N : Int) := by omega
    clear hr hall hk2;go_wp2_with fail;go_ret;exact ⟨ret_bool hr2.out.symm, Bw⟩

theorem SameR_any (v v' : Value) (g h : Gr) (w : World) (hv : GV w v g) (hv' : GV w v' h) (hn : g.small) (hm : h.small) :
  Calls Tryz.prog 18 #[v, v'] w fun e w' => e = .returned (.bool (sameG g h)) ∧ Below w.heap.size w w' := by
 obtain ⟨a, b, c, rfl, h1, h2, h3⟩ := hv;obtain ⟨a', b', c', rfl, g1, g2, g3⟩ := hv';obtain ⟨w1, hw1⟩ : ∃ w1, w1 = (w.alloc (.cells #[a, b, c] 26)).alloc (.cells #[a', b', c'] 26) := ⟨_, rfl⟩;obtain ⟨hB, hz, hcell0⟩ := two_boxes w w1 a b c a' b' c' 26 hw1;have hcell := Hd hcell0;have hB0 := Hd (fun W (B : Below w1.heap.size w1 W) => hB.trans (B.mono hB.size));have k2 := Hd (fun w' (B : Below w1.heap.size w1 w') => SameEdges_any b b' g.es h.es w' ((h2.below hB).below B) ((g2.below hB).below B) hn.2.1 hm.2.1);have k3 := Hd (fun w' (B : Below w1.heap.size w1 w') => Ints_any c c' g.ds h.ds w' ((h3.below hB).below B) ((g3.below hB).below B) hn.2.2 hm.2.2);have u1 := Hd (h1.below hB);have u2 := Hd (g1.below hB);obtain ⟨a1, a2, rfl⟩ := h1.shape;obtain ⟨b1, b2, rfl⟩ := h2.shape;obtain ⟨c1, c2, rfl⟩ := h3.shape;obtain ⟨a3, a4, rfl⟩ := g1.shape;obtain ⟨b3, b4, rfl⟩ := g2.shape;obtain ⟨c3, c4, rfl⟩ := g3.shape;obtain ⟨hn1, _, _⟩ := hn;obtain ⟨hm1, _, _⟩ := hm;have hsm : Hid (sameG g h = (decide (g.vs = h.vs) && decide (g.es = h.es) && decide (g.ds = h.ds))) := rfl;generalize hx2 : decide (g.es = h.es) = x2 at *
 generalize hx3 : decide (g.ds = h.ds) = x3 at *
 generalize sameG g h = R at *
 generalize g.vs = A at *
 generalize h.vs = A' at *
 generalize g.es.length = n2 at *
 generalize g.ds.length = n3 at *
 generalize h.es.length = n5 at *
 generalize h.ds.length = n6 at *
 have B1 := Below.refl w1.heap.size w1;have hw2 := Hd hw1;clear hw1 h1 h2 h3 g1 g2 g3 hB hcell0 hx2 hx3;by_cases hlen : A.length = A'.length;rotate_left
 ·have hr : Hid (R = false) := by
   show _ = _;rw [hsm.out, show decide (A = A') = false by rw [decide_eq_false_iff_not]; exact fun e => hlen (by rw [e])];rfl
  clear hsm u1 u2;generalize A.length = n1 at *
  generalize A'.length = n4 at *
  have t0 : ((n1 : Int) != (n4 : Int)) = true := by rw [bne_iff_ne]; omega
  have t0n : ((n1 : Int) == (n4 : Int)) = false := by rw [beq_eq_false_iff_ne]; omega
  go_enter Tryz.func18, Tryz.ntmps18;go_wp2_with fail;go_ret;refine ⟨ret_bool hr.out.symm, ?_⟩;have := hB0.out _ B1;rw [hw2.out] at this;exact this
 obtain ⟨N, hN, hM⟩ : ∃ N, Hid (N = A.length) ∧ Hid (N = A'.length) := ⟨_, rfl, hlen⟩;rw [← hN.out] at hw2 hcell hn1 u1;rw [← hM.out] at hw2 hcell hm1 u2;rw [← hN.out, ← hM.out];clear hlen;cases x2 with
 | false =>
  have hr : Hid (R = false) := by show _ = _; rw [hsm.out]; simp
  clear hsm;go_enter Tryz.func18, Tryz.ntmps18;go_wp2_with fail;rw [← hw2.out];refine (k2.out _ B1).mono ?_;rintro e w2 ⟨rfl, b2⟩;have B2 := B1.trans (b2.mono B1.size);go_wp2_with fail;go_ret;exact ⟨ret_bool hr.out.symm, hB0.out _ B2⟩
 | true =>
  cases x3 with
  | false =>
   have hr : Hid (R = false) := by show _ = _; rw [hsm.out]; simp
   clear hsm;go_enter Tryz.func18, Tryz.ntmps18;go_wp2_with fail;rw [← hw2.out];refine (k2.out _ B1).mono ?_;rintro e w2 ⟨rfl, b2⟩;have B2 := B1.trans (b2.mono B1.size);obtain ⟨⟨q0, q1, q2⟩, ⟨p0, p1, p2⟩⟩ := hcell.out _ B2;go_wp2_with fail;refine (k3.out _ B2).mono ?_;rintro e w3 ⟨rfl, b3⟩;have B3 := B2.trans (b3.mono B2.size);go_wp2_with fail;go_ret;exact ⟨ret_bool hr.out.symm, hB0.out _ B3⟩
  | true =>
   have hR : Hid (R = decide (A = A')) := by show _ = _; rw [hsm.out]; simp
   clear hsm;go_enter Tryz.func18, Tryz.ntmps18;go_wp2_with fail;rw [← hw2.out];refine (k2.out _ B1).mono ?_;rintro e w2 ⟨rfl, b2⟩;have B2 := B1.trans (b2.mono B1.size);obtain ⟨⟨q0, q1, q2⟩, ⟨p0, p1, p2⟩⟩ := hcell.out _ B2;go_wp2_with fail;refine (k3.out _ B2).mono ?_;rintro e w3 ⟨rfl, b3⟩;have B3 := B2.trans (b3.mono B2.size);clear q0 q1 q2 p0 p1 p2;obtain ⟨⟨q0, q1, q2⟩, ⟨p0, p1, p2⟩⟩ := hcell.out _ B3;go_wp2_with fail;obtain ⟨wz, rfl⟩ : ∃ wz : World, wz = w3 := ⟨_, rfl⟩
   go_loopw [5] (fun i wr => ∃ k : Nat, k ≤ N ∧ i = .int .i64 k ∧ Hid (A.take k = A'.take k) ∧ Below w1.heap.size w1 wr) (fun i _ => N - (intOf i).toNat)
   case atStart => exact ⟨0, by omega, rfl, rfl, B3⟩
   case round =>
    clear q0 q1 q2 p0 p1 p2;obtain ⟨k, hk, rfl, hall, Bw⟩ := hrel;obtain ⟨⟨q0, q1, q2⟩, ⟨p0, p1, p2⟩⟩ := hcell.out _ Bw;by_cases hlt : k < N
    ·have hkA : k < A.length := by rw [← hN.out]; exact hlt
     have hkB : k < A'.length := by rw [← hM.out]; exact hlt
     obtain ⟨d1, o1, m1, he1, e1, e2, e3⟩ := u1.out.own (fun e => by rw [e] at hkA; simp at hkA);obtain ⟨d2, o2, m2, he2, f1, f2, f3⟩ := u2.out.own (fun e => by rw [e] at hkB; simp at hkB);injection he1 with he1 _ he1c
     injection he2 with he2 _ he2c
     subst he1 he2 he1c he2c;have q3 := (e3.below e2 Bw) k _ (List.getElem?_eq_getElem hkA);have q4 := (f3.below f2 Bw) k _ (List.getElem?_eq_getElem hkB);have i0 : (0 : Int) ≤ (k : Int) := by omega
     have i1 : (k : Int) < (N : Int) := by omega
     clear e1 e2 e3 f1 f2 f3;by_cases hxy : A[k] = A'[k]
     ·have hnew : Hid (A.take (k + 1) = A'.take (k + 1)) := by
       unfold Hid;rw [List.take_succ_eq_append_getElem hkA, List.take_succ_eq_append_getElem hkB, hall.out, hxy]
      rw [← hxy] at q4;clear hxy hall;generalize A[k] = x at *
      obtain ⟨c0, c1⟩ := q3;obtain ⟨d0, d1⟩ := q4;go_wp2_with fail
      go_quiet (fail)
      go_wp2_with fail
      go_roundw
      case rel => exact ⟨k + 1, by omega, by go_num, hnew, below_drewN Bw _⟩
      case measure => simp [intOf]; omega
     ·have hr : decide (A = A') = false := by
       rw [decide_eq_false_iff_not];intro e;subst e;exact hxy rfl
      have hr2 : Hid (R = false) := by show _ = _; rw [hR.out, hr]
      generalize A[k] = x at *
      generalize A'[k] = y at *
      obtain ⟨c0, c1⟩ := q3;obtain ⟨d0, d1⟩ := q4;by_cases h0 : x.id = y.id;rotate_left
      ·have hne : (x.id == y.id) = false := by simpa using h0
       have hnh := Hd h0;clear hxy hr hall h0;go_wp2_with fail
       go_quiet (fail)
       go_wp2_with fail;go_ret;exact ⟨ret_bool hr2.out.symm, hB0.out _ (below_drewN Bw _)⟩
      rw [← h0] at d0;by_cases h1 : x.side = y.side;rotate_left
      ·have hne : (x.side == y.side) = false := by simpa using h1
       have hnh := Hd h1;clear hxy hr hall h1;go_wp2_with fail
       go_quiet (fail)
       go_wp2_with fail;go_ret;exact ⟨ret_bool hr2.out.symm, hB0.out _ (below_drewN Bw _)⟩
      exact absurd (by cases x; cases y; simp_all) hxy
    ·have hk2 : k = N := by omega
     have hr : decide (A = A') = true := by
      have h := hall.out;rw [List.take_of_length_le (by rw [hk2, ← hN.out]; exact Nat.le_refl _), List.take_of_length_le (by rw [hk2, ← hM.out]; exact Nat.le_refl _)] at h;simpa using h
     have hr2 : Hid (R = true) := by show _ = _; rw [hR.out, hr]
     have i1 : ¬ (k : Int) < (N : Int) := by omega
     clear hr hall hk2;go_wp2_with fail;go_ret;exact ⟨ret_bool hr2.out.symm, hB0.out _ Bw⟩
end Go.Proofs.YtlaldnlgapeckaaGreat
