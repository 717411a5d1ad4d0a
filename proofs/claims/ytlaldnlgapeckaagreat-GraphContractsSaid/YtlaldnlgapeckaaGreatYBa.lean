/- Contracts and facts. -/
import Derived.Test.YtlaldnlgapeckaaGreatYAk
import Derived.Laws.StructEq
namespace Go.Proofs.YtlaldnlgapeckaaGreat
open Go.RowKit
theorem eqV_run (a b : Int) (w : World) : (binOp .eql 29 (.agg #[.int .i64 a, .int .i64 b]) (.agg #[.int .i64 0, .int .i64 0])).run Tryz.prog w = .ok (.bool (decide ((⟨a, b⟩ : Vx) = zV))) w := by
 have e : decide ((⟨a, b⟩ : Vx) = zV) = (decide (a = 0) && decide (b = 0)) := by rw [Bool.eq_iff_iff]; simp [zV]
 rw [e]
 go_simp
 by_cases h1 : a = 0 <;> by_cases h2 : b = 0 <;> simp [h1, h2]
theorem eqE_run (a b c : Int) (d : Bool) (f g : Int) (w : World) : (binOp .eql 31 (.agg #[.int .i64 a, .int .i64 b, .int .i64 c, .bool d, .int .i64 f, .int .i64 g]) (.agg #[.int .i64 0, .int .i64 0, .int .i64 0, .bool false, .int .i64 0, .int .i64 0])).run Tryz.prog w = .ok (.bool (decide ((⟨a, b, c, d, f, g⟩ : Ed) = zE))) w := by
 have e : decide ((⟨a, b, c, d, f, g⟩ : Ed) = zE) = (decide (a = 0) && (decide (b = 0) && (decide (c = 0) && (!d && (decide (f = 0) && decide (g = 0)))))) := by
  rw [Bool.eq_iff_iff]; cases d <;> simp [zE]
 rw [e]
 go_simp
 cases d <;> by_cases h1 : a = 0 <;> by_cases h2 : b = 0 <;> by_cases h3 : c = 0 <;> by_cases h4 : f = 0 <;> by_cases h5 : g = 0 <;> simp [h1, h2, h3, h4, h5]
set_option linter.unusedSimpArgs false in
set_option maxRecDepth 100000 in
set_option maxHeartbeats 4000000 in
theorem bare_k1 (vc : Value) (c : Ch) (w : World) (hc : CV w vc c) (hk : c.kind = 1) :
  Calls Tryz.prog 87 #[vc] w fun e w' => e = .returned (.bool (bareF c)) ∧ Below w.heap.size w w' := by
 obtain ⟨a, b, rfl, h1, h2⟩ := hc
 have hl1 := h1.shape
 have hl2 := h2.shape
 obtain ⟨a1, a2, hae⟩ := hl1
 obtain ⟨b1, b2, hbe⟩ := hl2
 have ev : ∀ w, (binOp .eql 29 (.agg #[.int .i64 c.v.id, .int .i64 c.v.side]) (.agg #[.int .i64 0, .int .i64 0])).run Tryz.prog w = .ok (.bool (decide (c.v = zV))) w := eqV_run _ _
 have ee : ∀ w, (binOp .eql 31 (.agg #[.int .i64 c.e.id, .int .i64 c.e.src, .int .i64 c.e.dst, .bool c.e.dir, .int .i64 c.e.wt, .int .i64 c.e.cap]) (.agg #[.int .i64 0, .int .i64 0, .int .i64 0, .bool false, .int .i64 0, .int .i64 0])).run Tryz.prog w = .ok (.bool (decide (c.e = zE))) w := eqE_run _ _ _ _ _ _
 have hB : Hid (bareF c = isBare (bareC c)) := rfl
 have hBb : bareC c = { c with v := zV } := by
  unfold bareC
  simp [hk]
 rw [hBb] at hB
 clear hBb h1 h2
 generalize bareF c = R at *
 unfold chCells
 subst hae hbe
 have hBe : Hid (R = (true && decide (c.e = zE) && decide (c.id = 0) && decide (c.n = 0) && decide (c.ends.length = 0) && decide (c.deps.length = 0))) := by
  show _ = _
  rw [hB.out]
  simp only [isBare]
  have e1 : decide (c.ends = []) = decide (c.ends.length = 0) := by rw [Bool.eq_iff_iff]; simp
  have e2 : decide (c.deps = []) = decide (c.deps.length = 0) := by rw [Bool.eq_iff_iff]; simp
  simp [e1, e2]
 clear hB
 generalize decide (c.v = zV) = xv at *
 generalize decide (c.e = zE) = xe at *
 generalize c.ends.length = ne at *
 generalize c.deps.length = nd at *
 generalize c.id = ci at *
 generalize c.n = cn at *
 rw [hk]
 clear hk
 cases xe with
 | false =>
  go_enter Tryz.func87, Tryz.ntmps87
  go_wp2_with fail
  go_ret
  refine ⟨ret_bool ?_, ?_⟩
  ·rw [hBe.out]; simp
  ·exact (Below.refl _ w).alloc (Nat.le_refl _) _
 | true =>
  by_cases hci : ci = 0
  rotate_left
  ·have tci : (ci == 0) = false := by simpa using hci
   go_enter Tryz.func87, Tryz.ntmps87
   go_wp2_with fail
   go_ret
   refine ⟨ret_bool ?_, ?_⟩
   ·rw [hBe.out]; simp [hci]
   ·exact (Below.refl _ w).alloc (Nat.le_refl _) _
  ·have tci : (ci == 0) = true := by simpa using hci
   by_cases hcn : cn = 0
   rotate_left
   ·have tcn : (cn == 0) = false := by simpa using hcn
    go_enter Tryz.func87, Tryz.ntmps87
    go_wp2_with fail
    go_ret
    refine ⟨ret_bool ?_, ?_⟩
    ·rw [hBe.out]; simp [hci, hcn]
    ·exact (Below.refl _ w).alloc (Nat.le_refl _) _
   ·have tcn : (cn == 0) = true := by simpa using hcn
    by_cases hne : ne = 0
    rotate_left
    ·have tne : ((ne : Int) == 0) = false := by rw [beq_eq_false_iff_ne]; omega
     go_enter Tryz.func87, Tryz.ntmps87
     go_wp2_with fail
     go_ret
     refine ⟨ret_bool ?_, ?_⟩
     ·rw [hBe.out]; simp [hci, hcn, hne]
     ·exact (Below.refl _ w).alloc (Nat.le_refl _) _
    ·have tne : ((ne : Int) == 0) = true := by rw [beq_iff_eq]; omega
     by_cases hnd : nd = 0
     rotate_left
     ·have tnd : ((nd : Int) == 0) = false := by rw [beq_eq_false_iff_ne]; omega
      go_enter Tryz.func87, Tryz.ntmps87
      go_wp2_with fail
      go_ret
      refine ⟨ret_bool ?_, ?_⟩
      ·rw [hBe.out]; simp [hci, hcn, hne, hnd]
      ·exact (Below.refl _ w).alloc (Nat.le_refl _) _
     ·have tnd : ((nd : Int) == 0) = true := by rw [beq_iff_eq]; omega
      go_enter Tryz.func87, Tryz.ntmps87
      go_wp2_with fail
      go_ret
      refine ⟨ret_bool ?_, ?_⟩
      ·rw [hBe.out]; simp [hci, hcn, hne, hnd]
      ·exact (Below.refl _ w).alloc (Nat.le_refl _) _
set_option linter.unusedSimpArgs false in
set_option maxRecDepth 100000 in
set_option maxHeartbeats 4000000 in
theorem bare_k2 (vc : Value) (c : Ch) (w : World) (hc : CV w vc c) (hk : c.kind = 2) :
  Calls Tryz.prog 87 #[vc] w fun e w' => e = .returned (.bool (bareF c)) ∧ Below w.heap.size w w' := by
 obtain ⟨a, b, rfl, h1, h2⟩ := hc
 have hl1 := h1.shape
 have hl2 := h2.shape
 obtain ⟨a1, a2, hae⟩ := hl1
 obtain ⟨b1, b2, hbe⟩ := hl2
 have ev : ∀ w, (binOp .eql 29 (.agg #[.int .i64 c.v.id, .int .i64 c.v.side]) (.agg #[.int .i64 0, .int .i64 0])).run Tryz.prog w = .ok (.bool (decide (c.v = zV))) w := eqV_run _ _
 have ee : ∀ w, (binOp .eql 31 (.agg #[.int .i64 c.e.id, .int .i64 c.e.src, .int .i64 c.e.dst, .bool c.e.dir, .int .i64 c.e.wt, .int .i64 c.e.cap]) (.agg #[.int .i64 0, .int .i64 0, .int .i64 0, .bool false, .int .i64 0, .int .i64 0])).run Tryz.prog w = .ok (.bool (decide (c.e = zE))) w := eqE_run _ _ _ _ _ _
 have hB : Hid (bareF c = isBare (bareC c)) := rfl
 have hBb : bareC c = { c with id := 0 } := by
  unfold bareC
  simp [hk]
 rw [hBb] at hB
 clear hBb h1 h2
 generalize bareF c = R at *
 unfold chCells
 subst hae hbe
 have hBe : Hid (R = (decide (c.v = zV) && decide (c.e = zE) && true && decide (c.n = 0) && decide (c.ends.length = 0) && decide (c.deps.length = 0))) := by
  show _ = _
  rw [hB.out]
  simp only [isBare]
  have e1 : decide (c.ends = []) = decide (c.ends.length = 0) := by rw [Bool.eq_iff_iff]; simp
  have e2 : decide (c.deps = []) = decide (c.deps.length = 0) := by rw [Bool.eq_iff_iff]; simp
  simp [e1, e2]
 clear hB
 generalize decide (c.v = zV) = xv at *
 generalize decide (c.e = zE) = xe at *
 generalize c.ends.length = ne at *
 generalize c.deps.length = nd at *
 generalize c.id = ci at *
 generalize c.n = cn at *
 rw [hk]
 clear hk
 cases xv with
 | false =>
  go_enter Tryz.func87, Tryz.ntmps87
  go_wp2_with fail
  go_ret
  refine ⟨ret_bool ?_, ?_⟩
  ·rw [hBe.out]; simp
  ·exact (Below.refl _ w).alloc (Nat.le_refl _) _
 | true =>
  cases xe with
  | false =>
   go_enter Tryz.func87, Tryz.ntmps87
   go_wp2_with fail
   go_ret
   refine ⟨ret_bool ?_, ?_⟩
   ·rw [hBe.out]; simp
   ·exact (Below.refl _ w).alloc (Nat.le_refl _) _
  | true =>
   by_cases hcn : cn = 0
   rotate_left
   ·have tcn : (cn == 0) = false := by simpa using hcn
    go_enter Tryz.func87, Tryz.ntmps87
    go_wp2_with fail
    go_ret
    refine ⟨ret_bool ?_, ?_⟩
    ·rw [hBe.out]; simp [hcn]
    ·exact (Below.refl _ w).alloc (Nat.le_refl _) _
   ·have tcn : (cn == 0) = true := by simpa using hcn
    by_cases hne : ne = 0
    rotate_left
    ·have tne : ((ne : Int) == 0) = false := by rw [beq_eq_false_iff_ne]; omega
     go_enter Tryz.func87, Tryz.ntmps87
     go_wp2_with fail
     go_ret
     refine ⟨ret_bool ?_, ?_⟩
     ·rw [hBe.out]; simp [hcn, hne]
     ·exact (Below.refl _ w).alloc (Nat.le_refl _) _
    ·have tne : ((ne : Int) == 0) = true := by rw [beq_iff_eq]; omega
     by_cases hnd : nd = 0
     rotate_left
     ·have tnd : ((nd : Int) == 0) = false := by rw [beq_eq_false_iff_ne]; omega
      go_enter Tryz.func87, Tryz.ntmps87
      go_wp2_with fail
      go_ret
      refine ⟨ret_bool ?_, ?_⟩
      ·rw [hBe.out]; simp [hcn, hne, hnd]
      ·exact (Below.refl _ w).alloc (Nat.le_refl _) _
     ·have tnd : ((nd : Int) == 0) = true := by rw [beq_iff_eq]; omega
      go_enter Tryz.func87, Tryz.ntmps87
      go_wp2_with fail
      go_ret
      refine ⟨ret_bool ?_, ?_⟩
      ·rw [hBe.out]; simp [hcn, hne, hnd]
      ·exact (Below.refl _ w).alloc (Nat.le_refl _) _
set_option linter.unusedSimpArgs false in
set_option maxRecDepth 100000 in
set_option maxHeartbeats 4000000 in
theorem bare_k3 (vc : Value) (c : Ch) (w : World) (hc : CV w vc c) (hk : c.kind = 3) :
  Calls Tryz.prog 87 #[vc] w fun e w' => e = .returned (.bool (bareF c)) ∧ Below w.heap.size w w' := by
 obtain ⟨a, b, rfl, h1, h2⟩ := hc
 have hl1 := h1.shape
 have hl2 := h2.shape
 obtain ⟨a1, a2, hae⟩ := hl1
 obtain ⟨b1, b2, hbe⟩ := hl2
 have ev : ∀ w, (binOp .eql 29 (.agg #[.int .i64 c.v.id, .int .i64 c.v.side]) (.agg #[.int .i64 0, .int .i64 0])).run Tryz.prog w = .ok (.bool (decide (c.v = zV))) w := eqV_run _ _
 have ee : ∀ w, (binOp .eql 31 (.agg #[.int .i64 c.e.id, .int .i64 c.e.src, .int .i64 c.e.dst, .bool c.e.dir, .int .i64 c.e.wt, .int .i64 c.e.cap]) (.agg #[.int .i64 0, .int .i64 0, .int .i64 0, .bool false, .int .i64 0, .int .i64 0])).run Tryz.prog w = .ok (.bool (decide (c.e = zE))) w := eqE_run _ _ _ _ _ _
 have hB : Hid (bareF c = isBare (bareC c)) := rfl
 have hBb : bareC c = { c with e := zE } := by
  unfold bareC
  simp [hk]
 rw [hBb] at hB
 clear hBb h1 h2
 generalize bareF c = R at *
 unfold chCells
 subst hae hbe
 have hBe : Hid (R = (decide (c.v = zV) && true && decide (c.id = 0) && decide (c.n = 0) && decide (c.ends.length = 0) && decide (c.deps.length = 0))) := by
  show _ = _
  rw [hB.out]
  simp only [isBare]
  have e1 : decide (c.ends = []) = decide (c.ends.length = 0) := by rw [Bool.eq_iff_iff]; simp
  have e2 : decide (c.deps = []) = decide (c.deps.length = 0) := by rw [Bool.eq_iff_iff]; simp
  simp [e1, e2]
 clear hB
 generalize decide (c.v = zV) = xv at *
 generalize decide (c.e = zE) = xe at *
 generalize c.ends.length = ne at *
 generalize c.deps.length = nd at *
 generalize c.id = ci at *
 generalize c.n = cn at *
 rw [hk]
 clear hk
 cases xv with
 | false =>
  go_enter Tryz.func87, Tryz.ntmps87
  go_wp2_with fail
  go_ret
  refine ⟨ret_bool ?_, ?_⟩
  ·rw [hBe.out]; simp
  ·exact (Below.refl _ w).alloc (Nat.le_refl _) _
 | true =>
  by_cases hci : ci = 0
  rotate_left
  ·have tci : (ci == 0) = false := by simpa using hci
   go_enter Tryz.func87, Tryz.ntmps87
   go_wp2_with fail
   go_ret
   refine ⟨ret_bool ?_, ?_⟩
   ·rw [hBe.out]; simp [hci]
   ·exact (Below.refl _ w).alloc (Nat.le_refl _) _
  ·have tci : (ci == 0) = true := by simpa using hci
   by_cases hcn : cn = 0
   rotate_left
   ·have tcn : (cn == 0) = false := by simpa using hcn
    go_enter Tryz.func87, Tryz.ntmps87
    go_wp2_with fail
    go_ret
    refine ⟨ret_bool ?_, ?_⟩
    ·rw [hBe.out]; simp [hci, hcn]
    ·exact (Below.refl _ w).alloc (Nat.le_refl _) _
   ·have tcn : (cn == 0) = true := by simpa using hcn
    by_cases hne : ne = 0
    rotate_left
    ·have tne : ((ne : Int) == 0) = false := by rw [beq_eq_false_iff_ne]; omega
     go_enter Tryz.func87, Tryz.ntmps87
     go_wp2_with fail
     go_ret
     refine ⟨ret_bool ?_, ?_⟩
     ·rw [hBe.out]; simp [hci, hcn, hne]
     ·exact (Below.refl _ w).alloc (Nat.le_refl _) _
    ·have tne : ((ne : Int) == 0) = true := by rw [beq_iff_eq]; omega
     by_cases hnd : nd = 0
     rotate_left
     ·have tnd : ((nd : Int) == 0) = false := by rw [beq_eq_false_iff_ne]; omega
      go_enter Tryz.func87, Tryz.ntmps87
      go_wp2_with fail
      go_ret
      refine ⟨ret_bool ?_, ?_⟩
      ·rw [hBe.out]; simp [hci, hcn, hne, hnd]
      ·exact (Below.refl _ w).alloc (Nat.le_refl _) _
     ·have tnd : ((nd : Int) == 0) = true := by rw [beq_iff_eq]; omega
      go_enter Tryz.func87, Tryz.ntmps87
      go_wp2_with fail
      go_ret
      refine ⟨ret_bool ?_, ?_⟩
      ·rw [hBe.out]; simp [hci, hcn, hne, hnd]
      ·exact (Below.refl _ w).alloc (Nat.le_refl _) _
set_option linter.unusedSimpArgs false in
set_option maxRecDepth 100000 in
set_option maxHeartbeats 4000000 in
theorem bare_k4 (vc : Value) (c : Ch) (w : World) (hc : CV w vc c) (hk : c.kind = 4) :
  Calls Tryz.prog 87 #[vc] w fun e w' => e = .returned (.bool (bareF c)) ∧ Below w.heap.size w w' := by
 obtain ⟨a, b, rfl, h1, h2⟩ := hc
 have hl1 := h1.shape
 have hl2 := h2.shape
 obtain ⟨a1, a2, hae⟩ := hl1
 obtain ⟨b1, b2, hbe⟩ := hl2
 have ev : ∀ w, (binOp .eql 29 (.agg #[.int .i64 c.v.id, .int .i64 c.v.side]) (.agg #[.int .i64 0, .int .i64 0])).run Tryz.prog w = .ok (.bool (decide (c.v = zV))) w := eqV_run _ _
 have ee : ∀ w, (binOp .eql 31 (.agg #[.int .i64 c.e.id, .int .i64 c.e.src, .int .i64 c.e.dst, .bool c.e.dir, .int .i64 c.e.wt, .int .i64 c.e.cap]) (.agg #[.int .i64 0, .int .i64 0, .int .i64 0, .bool false, .int .i64 0, .int .i64 0])).run Tryz.prog w = .ok (.bool (decide (c.e = zE))) w := eqE_run _ _ _ _ _ _
 have hB : Hid (bareF c = isBare (bareC c)) := rfl
 have hBb : bareC c = { c with id := 0 } := by
  unfold bareC
  simp [hk]
 rw [hBb] at hB
 clear hBb h1 h2
 generalize bareF c = R at *
 unfold chCells
 subst hae hbe
 have hBe : Hid (R = (decide (c.v = zV) && decide (c.e = zE) && true && decide (c.n = 0) && decide (c.ends.length = 0) && decide (c.deps.length = 0))) := by
  show _ = _
  rw [hB.out]
  simp only [isBare]
  have e1 : decide (c.ends = []) = decide (c.ends.length = 0) := by rw [Bool.eq_iff_iff]; simp
  have e2 : decide (c.deps = []) = decide (c.deps.length = 0) := by rw [Bool.eq_iff_iff]; simp
  simp [e1, e2]
 clear hB
 generalize decide (c.v = zV) = xv at *
 generalize decide (c.e = zE) = xe at *
 generalize c.ends.length = ne at *
 generalize c.deps.length = nd at *
 generalize c.id = ci at *
 generalize c.n = cn at *
 rw [hk]
 clear hk
 cases xv with
 | false =>
  go_enter Tryz.func87, Tryz.ntmps87
  go_wp2_with fail
  go_ret
  refine ⟨ret_bool ?_, ?_⟩
  ·rw [hBe.out]; simp
  ·exact (Below.refl _ w).alloc (Nat.le_refl _) _
 | true =>
  cases xe with
  | false =>
   go_enter Tryz.func87, Tryz.ntmps87
   go_wp2_with fail
   go_ret
   refine ⟨ret_bool ?_, ?_⟩
   ·rw [hBe.out]; simp
   ·exact (Below.refl _ w).alloc (Nat.le_refl _) _
  | true =>
   by_cases hcn : cn = 0
   rotate_left
   ·have tcn : (cn == 0) = false := by simpa using hcn
    go_enter Tryz.func87, Tryz.ntmps87
    go_wp2_with fail
    go_ret
    refine ⟨ret_bool ?_, ?_⟩
    ·rw [hBe.out]; simp [hcn]
    ·exact (Below.refl _ w).alloc (Nat.le_refl _) _
   ·have tcn : (cn == 0) = true := by simpa using hcn
    by_cases hne : ne = 0
    rotate_left
    ·have tne : ((ne : Int) == 0) = false := by rw [beq_eq_false_iff_ne]; omega
     go_enter Tryz.func87, Tryz.ntmps87
     go_wp2_with fail
     go_ret
     refine ⟨ret_bool ?_, ?_⟩
     ·rw [hBe.out]; simp [hcn, hne]
     ·exact (Below.refl _ w).alloc (Nat.le_refl _) _
    ·have tne : ((ne : Int) == 0) = true := by rw [beq_iff_eq]; omega
     by_cases hnd : nd = 0
     rotate_left
     ·have tnd : ((nd : Int) == 0) = false := by rw [beq_eq_false_iff_ne]; omega
      go_enter Tryz.func87, Tryz.ntmps87
      go_wp2_with fail
      go_ret
      refine ⟨ret_bool ?_, ?_⟩
      ·rw [hBe.out]; simp [hcn, hne, hnd]
      ·exact (Below.refl _ w).alloc (Nat.le_refl _) _
     ·have tnd : ((nd : Int) == 0) = true := by rw [beq_iff_eq]; omega
      go_enter Tryz.func87, Tryz.ntmps87
      go_wp2_with fail
      go_ret
      refine ⟨ret_bool ?_, ?_⟩
      ·rw [hBe.out]; simp [hcn, hne, hnd]
      ·exact (Below.refl _ w).alloc (Nat.le_refl _) _
set_option linter.unusedSimpArgs false in
set_option maxRecDepth 100000 in
set_option maxHeartbeats 4000000 in
theorem bare_k5 (vc : Value) (c : Ch) (w : World) (hc : CV w vc c) (hk : c.kind = 5) :
  Calls Tryz.prog 87 #[vc] w fun e w' => e = .returned (.bool (bareF c)) ∧ Below w.heap.size w w' := by
 obtain ⟨a, b, rfl, h1, h2⟩ := hc
 have hl1 := h1.shape
 have hl2 := h2.shape
 obtain ⟨a1, a2, hae⟩ := hl1
 obtain ⟨b1, b2, hbe⟩ := hl2
 have ev : ∀ w, (binOp .eql 29 (.agg #[.int .i64 c.v.id, .int .i64 c.v.side]) (.agg #[.int .i64 0, .int .i64 0])).run Tryz.prog w = .ok (.bool (decide (c.v = zV))) w := eqV_run _ _
 have ee : ∀ w, (binOp .eql 31 (.agg #[.int .i64 c.e.id, .int .i64 c.e.src, .int .i64 c.e.dst, .bool c.e.dir, .int .i64 c.e.wt, .int .i64 c.e.cap]) (.agg #[.int .i64 0, .int .i64 0, .int .i64 0, .bool false, .int .i64 0, .int .i64 0])).run Tryz.prog w = .ok (.bool (decide (c.e = zE))) w := eqE_run _ _ _ _ _ _
 have hB : Hid (bareF c = isBare (bareC c)) := rfl
 have hBb : bareC c = { c with id := 0, n := 0 } := by
  unfold bareC
  simp [hk]
 rw [hBb] at hB
 clear hBb h1 h2
 generalize bareF c = R at *
 unfold chCells
 subst hae hbe
 have hBe : Hid (R = (decide (c.v = zV) && decide (c.e = zE) && true && true && decide (c.ends.length = 0) && decide (c.deps.length = 0))) := by
  show _ = _
  rw [hB.out]
  simp only [isBare]
  have e1 : decide (c.ends = []) = decide (c.ends.length = 0) := by rw [Bool.eq_iff_iff]; simp
  have e2 : decide (c.deps = []) = decide (c.deps.length = 0) := by rw [Bool.eq_iff_iff]; simp
  simp [e1, e2]
 clear hB
 generalize decide (c.v = zV) = xv at *
 generalize decide (c.e = zE) = xe at *
 generalize c.ends.length = ne at *
 generalize c.deps.length = nd at *
 generalize c.id = ci at *
 generalize c.n = cn at *
 rw [hk]
 clear hk
 cases xv with
 | false =>
  go_enter Tryz.func87, Tryz.ntmps87
  go_wp2_with fail
  go_ret
  refine ⟨ret_bool ?_, ?_⟩
  ·rw [hBe.out]; simp
  ·exact (Below.refl _ w).alloc (Nat.le_refl _) _
 | true =>
  cases xe with
  | false =>
   go_enter Tryz.func87, Tryz.ntmps87
   go_wp2_with fail
   go_ret
   refine ⟨ret_bool ?_, ?_⟩
   ·rw [hBe.out]; simp
   ·exact (Below.refl _ w).alloc (Nat.le_refl _) _
  | true =>
   by_cases hne : ne = 0
   rotate_left
   ·have tne : ((ne : Int) == 0) = false := by rw [beq_eq_false_iff_ne]; omega
    go_enter Tryz.func87, Tryz.ntmps87
    go_wp2_with fail
    go_ret
    refine ⟨ret_bool ?_, ?_⟩
    ·rw [hBe.out]; simp [hne]
    ·exact (Below.refl _ w).alloc (Nat.le_refl _) _
   ·have tne : ((ne : Int) == 0) = true := by rw [beq_iff_eq]; omega
    by_cases hnd : nd = 0
    rotate_left
    ·have tnd : ((nd : Int) == 0) = false := by rw [beq_eq_false_iff_ne]; omega
     go_enter Tryz.func87, Tryz.ntmps87
     go_wp2_with fail
     go_ret
     refine ⟨ret_bool ?_, ?_⟩
     ·rw [hBe.out]; simp [hne, hnd]
     ·exact (Below.refl _ w).alloc (Nat.le_refl _) _
    ·have tnd : ((nd : Int) == 0) = true := by rw [beq_iff_eq]; omega
     go_enter Tryz.func87, Tryz.ntmps87
     go_wp2_with fail
     go_ret
     refine ⟨ret_bool ?_, ?_⟩
     ·rw [hBe.out]; simp [hne, hnd]
     ·exact (Below.refl _ w).alloc (Nat.le_refl _) _
set_option linter.unusedSimpArgs false in
set_option maxRecDepth 100000 in
set_option maxHeartbeats 4000000 in
theorem bare_k6 (vc : Value) (c : Ch) (w : World) (hc : CV w vc c) (hk : c.kind = 6) :
  Calls Tryz.prog 87 #[vc] w fun e w' => e = .returned (.bool (bareF c)) ∧ Below w.heap.size w w' := by
 obtain ⟨a, b, rfl, h1, h2⟩ := hc
 have hl1 := h1.shape
 have hl2 := h2.shape
 obtain ⟨a1, a2, hae⟩ := hl1
 obtain ⟨b1, b2, hbe⟩ := hl2
 have ev : ∀ w, (binOp .eql 29 (.agg #[.int .i64 c.v.id, .int .i64 c.v.side]) (.agg #[.int .i64 0, .int .i64 0])).run Tryz.prog w = .ok (.bool (decide (c.v = zV))) w := eqV_run _ _
 have ee : ∀ w, (binOp .eql 31 (.agg #[.int .i64 c.e.id, .int .i64 c.e.src, .int .i64 c.e.dst, .bool c.e.dir, .int .i64 c.e.wt, .int .i64 c.e.cap]) (.agg #[.int .i64 0, .int .i64 0, .int .i64 0, .bool false, .int .i64 0, .int .i64 0])).run Tryz.prog w = .ok (.bool (decide (c.e = zE))) w := eqE_run _ _ _ _ _ _
 have hB : Hid (bareF c = isBare (bareC c)) := rfl
 have hBb : bareC c = { c with id := 0, n := 0 } := by
  unfold bareC
  simp [hk]
 rw [hBb] at hB
 clear hBb h1 h2
 generalize bareF c = R at *
 unfold chCells
 subst hae hbe
 have hBe : Hid (R = (decide (c.v = zV) && decide (c.e = zE) && true && true && decide (c.ends.length = 0) && decide (c.deps.length = 0))) := by
  show _ = _
  rw [hB.out]
  simp only [isBare]
  have e1 : decide (c.ends = []) = decide (c.ends.length = 0) := by rw [Bool.eq_iff_iff]; simp
  have e2 : decide (c.deps = []) = decide (c.deps.length = 0) := by rw [Bool.eq_iff_iff]; simp
  simp [e1, e2]
 clear hB
 generalize decide (c.v = zV) = xv at *
 generalize decide (c.e = zE) = xe at *
 generalize c.ends.length = ne at *
 generalize c.deps.length = nd at *
 generalize c.id = ci at *
 generalize c.n = cn at *
 rw [hk]
 clear hk
 cases xv with
 | false =>
  go_enter Tryz.func87, Tryz.ntmps87
  go_wp2_with fail
  go_ret
  refine ⟨ret_bool ?_, ?_⟩
  ·rw [hBe.out]; simp
  ·exact (Below.refl _ w).alloc (Nat.le_refl _) _
 | true =>
  cases xe with
  | false =>
   go_enter Tryz.func87, Tryz.ntmps87
   go_wp2_with fail
   go_ret
   refine ⟨ret_bool ?_, ?_⟩
   ·rw [hBe.out]; simp
   ·exact (Below.refl _ w).alloc (Nat.le_refl _) _
  | true =>
   by_cases hne : ne = 0
   rotate_left
   ·have tne : ((ne : Int) == 0) = false := by rw [beq_eq_false_iff_ne]; omega
    go_enter Tryz.func87, Tryz.ntmps87
    go_wp2_with fail
    go_ret
    refine ⟨ret_bool ?_, ?_⟩
    ·rw [hBe.out]; simp [hne]
    ·exact (Below.refl _ w).alloc (Nat.le_refl _) _
   ·have tne : ((ne : Int) == 0) = true := by rw [beq_iff_eq]; omega
    by_cases hnd : nd = 0
    rotate_left
    ·have tnd : ((nd : Int) == 0) = false := by rw [beq_eq_false_iff_ne]; omega
     go_enter Tryz.func87, Tryz.ntmps87
     go_wp2_with fail
     go_ret
     refine ⟨ret_bool ?_, ?_⟩
     ·rw [hBe.out]; simp [hne, hnd]
     ·exact (Below.refl _ w).alloc (Nat.le_refl _) _
    ·have tnd : ((nd : Int) == 0) = true := by rw [beq_iff_eq]; omega
     go_enter Tryz.func87, Tryz.ntmps87
     go_wp2_with fail
     go_ret
     refine ⟨ret_bool ?_, ?_⟩
     ·rw [hBe.out]; simp [hne, hnd]
     ·exact (Below.refl _ w).alloc (Nat.le_refl _) _
set_option linter.unusedSimpArgs false in
set_option maxRecDepth 100000 in
set_option maxHeartbeats 4000000 in
theorem bare_k7 (vc : Value) (c : Ch) (w : World) (hc : CV w vc c) (hk : c.kind = 7) :
  Calls Tryz.prog 87 #[vc] w fun e w' => e = .returned (.bool (bareF c)) ∧ Below w.heap.size w w' := by
 obtain ⟨a, b, rfl, h1, h2⟩ := hc
 have hl1 := h1.shape
 have hl2 := h2.shape
 obtain ⟨a1, a2, hae⟩ := hl1
 obtain ⟨b1, b2, hbe⟩ := hl2
 have ev : ∀ w, (binOp .eql 29 (.agg #[.int .i64 c.v.id, .int .i64 c.v.side]) (.agg #[.int .i64 0, .int .i64 0])).run Tryz.prog w = .ok (.bool (decide (c.v = zV))) w := eqV_run _ _
 have ee : ∀ w, (binOp .eql 31 (.agg #[.int .i64 c.e.id, .int .i64 c.e.src, .int .i64 c.e.dst, .bool c.e.dir, .int .i64 c.e.wt, .int .i64 c.e.cap]) (.agg #[.int .i64 0, .int .i64 0, .int .i64 0, .bool false, .int .i64 0, .int .i64 0])).run Tryz.prog w = .ok (.bool (decide (c.e = zE))) w := eqE_run _ _ _ _ _ _
 have hB : Hid (bareF c = isBare (bareC c)) := rfl
 have hBb : bareC c = { c with id := 0, n := 0 } := by
  unfold bareC
  simp [hk]
 rw [hBb] at hB
 clear hBb h1 h2
 generalize bareF c = R at *
 unfold chCells
 subst hae hbe
 have hBe : Hid (R = (decide (c.v = zV) && decide (c.e = zE) && true && true && decide (c.ends.length = 0) && decide (c.deps.length = 0))) := by
  show _ = _
  rw [hB.out]
  simp only [isBare]
  have e1 : decide (c.ends = []) = decide (c.ends.length = 0) := by rw [Bool.eq_iff_iff]; simp
  have e2 : decide (c.deps = []) = decide (c.deps.length = 0) := by rw [Bool.eq_iff_iff]; simp
  simp [e1, e2]
 clear hB
 generalize decide (c.v = zV) = xv at *
 generalize decide (c.e = zE) = xe at *
 generalize c.ends.length = ne at *
 generalize c.deps.length = nd at *
 generalize c.id = ci at *
 generalize c.n = cn at *
 rw [hk]
 clear hk
 cases xv with
 | false =>
  go_enter Tryz.func87, Tryz.ntmps87
  go_wp2_with fail
  go_ret
  refine ⟨ret_bool ?_, ?_⟩
  ·rw [hBe.out]; simp
  ·exact (Below.refl _ w).alloc (Nat.le_refl _) _
 | true =>
  cases xe with
  | false =>
   go_enter Tryz.func87, Tryz.ntmps87
   go_wp2_with fail
   go_ret
   refine ⟨ret_bool ?_, ?_⟩
   ·rw [hBe.out]; simp
   ·exact (Below.refl _ w).alloc (Nat.le_refl _) _
  | true =>
   by_cases hne : ne = 0
   rotate_left
   ·have tne : ((ne : Int) == 0) = false := by rw [beq_eq_false_iff_ne]; omega
    go_enter Tryz.func87, Tryz.ntmps87
    go_wp2_with fail
    go_ret
    refine ⟨ret_bool ?_, ?_⟩
    ·rw [hBe.out]; simp [hne]
    ·exact (Below.refl _ w).alloc (Nat.le_refl _) _
   ·have tne : ((ne : Int) == 0) = true := by rw [beq_iff_eq]; omega
    by_cases hnd : nd = 0
    rotate_left
    ·have tnd : ((nd : Int) == 0) = false := by rw [beq_eq_false_iff_ne]; omega
     go_enter Tryz.func87, Tryz.ntmps87
     go_wp2_with fail
     go_ret
     refine ⟨ret_bool ?_, ?_⟩
     ·rw [hBe.out]; simp [hne, hnd]
     ·exact (Below.refl _ w).alloc (Nat.le_refl _) _
    ·have tnd : ((nd : Int) == 0) = true := by rw [beq_iff_eq]; omega
     go_enter Tryz.func87, Tryz.ntmps87
     go_wp2_with fail
     go_ret
     refine ⟨ret_bool ?_, ?_⟩
     ·rw [hBe.out]; simp [hne, hnd]
     ·exact (Below.refl _ w).alloc (Nat.le_refl _) _
set_option linter.unusedSimpArgs false in
set_option maxRecDepth 100000 in
set_option maxHeartbeats 4000000 in
theorem bare_k8 (vc : Value) (c : Ch) (w : World) (hc : CV w vc c) (hk : c.kind = 8) :
  Calls Tryz.prog 87 #[vc] w fun e w' => e = .returned (.bool (bareF c)) ∧ Below w.heap.size w w' := by
 obtain ⟨a, b, rfl, h1, h2⟩ := hc
 have hl1 := h1.shape
 have hl2 := h2.shape
 obtain ⟨a1, a2, hae⟩ := hl1
 obtain ⟨b1, b2, hbe⟩ := hl2
 have ev : ∀ w, (binOp .eql 29 (.agg #[.int .i64 c.v.id, .int .i64 c.v.side]) (.agg #[.int .i64 0, .int .i64 0])).run Tryz.prog w = .ok (.bool (decide (c.v = zV))) w := eqV_run _ _
 have ee : ∀ w, (binOp .eql 31 (.agg #[.int .i64 c.e.id, .int .i64 c.e.src, .int .i64 c.e.dst, .bool c.e.dir, .int .i64 c.e.wt, .int .i64 c.e.cap]) (.agg #[.int .i64 0, .int .i64 0, .int .i64 0, .bool false, .int .i64 0, .int .i64 0])).run Tryz.prog w = .ok (.bool (decide (c.e = zE))) w := eqE_run _ _ _ _ _ _
 have hB : Hid (bareF c = isBare (bareC c)) := rfl
 have hBb : bareC c = { c with id := 0, v := zV, ends := [] } := by
  unfold bareC
  simp [hk]
 rw [hBb] at hB
 clear hBb h1 h2
 generalize bareF c = R at *
 unfold chCells
 subst hae hbe
 have hBe : Hid (R = (true && decide (c.e = zE) && true && decide (c.n = 0) && true && decide (c.deps.length = 0))) := by
  show _ = _
  rw [hB.out]
  simp only [isBare]
  have e1 : decide (c.ends = []) = decide (c.ends.length = 0) := by rw [Bool.eq_iff_iff]; simp
  have e2 : decide (c.deps = []) = decide (c.deps.length = 0) := by rw [Bool.eq_iff_iff]; simp
  simp [e1, e2]
 clear hB
 generalize decide (c.v = zV) = xv at *
 generalize decide (c.e = zE) = xe at *
 generalize c.ends.length = ne at *
 generalize c.deps.length = nd at *
 generalize c.id = ci at *
 generalize c.n = cn at *
 rw [hk]
 clear hk
 cases xe with
 | false =>
  go_enter Tryz.func87, Tryz.ntmps87
  go_wp2_with fail
  go_ret
  refine ⟨ret_bool ?_, ?_⟩
  ·rw [hBe.out]; simp
  ·exact (Below.refl _ w).alloc (Nat.le_refl _) _
 | true =>
  by_cases hcn : cn = 0
  rotate_left
  ·have tcn : (cn == 0) = false := by simpa using hcn
   go_enter Tryz.func87, Tryz.ntmps87
   go_wp2_with fail
   go_ret
   refine ⟨ret_bool ?_, ?_⟩
   ·rw [hBe.out]; simp [hcn]
   ·exact (Below.refl _ w).alloc (Nat.le_refl _) _
  ·have tcn : (cn == 0) = true := by simpa using hcn
   by_cases hnd : nd = 0
   rotate_left
   ·have tnd : ((nd : Int) == 0) = false := by rw [beq_eq_false_iff_ne]; omega
    go_enter Tryz.func87, Tryz.ntmps87
    go_wp2_with fail
    go_ret
    refine ⟨ret_bool ?_, ?_⟩
    ·rw [hBe.out]; simp [hcn, hnd]
    ·exact (Below.refl _ w).alloc (Nat.le_refl _) _
   ·have tnd : ((nd : Int) == 0) = true := by rw [beq_iff_eq]; omega
    go_enter Tryz.func87, Tryz.ntmps87
    go_wp2_with fail
    go_ret
    refine ⟨ret_bool ?_, ?_⟩
    ·rw [hBe.out]; simp [hcn, hnd]
    ·exact (Below.refl _ w).alloc (Nat.le_refl _) _
set_option linter.unusedSimpArgs false in
set_option maxRecDepth 100000 in
set_option maxHeartbeats 4000000 in
theorem bare_k9 (vc : Value) (c : Ch) (w : World) (hc : CV w vc c) (hk : c.kind = 9) :
  Calls Tryz.prog 87 #[vc] w fun e w' => e = .returned (.bool (bareF c)) ∧ Below w.heap.size w w' := by
 obtain ⟨a, b, rfl, h1, h2⟩ := hc
 have hl1 := h1.shape
 have hl2 := h2.shape
 obtain ⟨a1, a2, hae⟩ := hl1
 obtain ⟨b1, b2, hbe⟩ := hl2
 have ev : ∀ w, (binOp .eql 29 (.agg #[.int .i64 c.v.id, .int .i64 c.v.side]) (.agg #[.int .i64 0, .int .i64 0])).run Tryz.prog w = .ok (.bool (decide (c.v = zV))) w := eqV_run _ _
 have ee : ∀ w, (binOp .eql 31 (.agg #[.int .i64 c.e.id, .int .i64 c.e.src, .int .i64 c.e.dst, .bool c.e.dir, .int .i64 c.e.wt, .int .i64 c.e.cap]) (.agg #[.int .i64 0, .int .i64 0, .int .i64 0, .bool false, .int .i64 0, .int .i64 0])).run Tryz.prog w = .ok (.bool (decide (c.e = zE))) w := eqE_run _ _ _ _ _ _
 have hB : Hid (bareF c = isBare (bareC c)) := rfl
 have hBb : bareC c = { c with id := 0, n := 0 } := by
  unfold bareC
  simp [hk]
 rw [hBb] at hB
 clear hBb h1 h2
 generalize bareF c = R at *
 unfold chCells
 subst hae hbe
 have hBe : Hid (R = (decide (c.v = zV) && decide (c.e = zE) && true && true && decide (c.ends.length = 0) && decide (c.deps.length = 0))) := by
  show _ = _
  rw [hB.out]
  simp only [isBare]
  have e1 : decide (c.ends = []) = decide (c.ends.length = 0) := by rw [Bool.eq_iff_iff]; simp
  have e2 : decide (c.deps = []) = decide (c.deps.length = 0) := by rw [Bool.eq_iff_iff]; simp
  simp [e1, e2]
 clear hB
 generalize decide (c.v = zV) = xv at *
 generalize decide (c.e = zE) = xe at *
 generalize c.ends.length = ne at *
 generalize c.deps.length = nd at *
 generalize c.id = ci at *
 generalize c.n = cn at *
 rw [hk]
 clear hk
 cases xv with
 | false =>
  go_enter Tryz.func87, Tryz.ntmps87
  go_wp2_with fail
  go_ret
  refine ⟨ret_bool ?_, ?_⟩
  ·rw [hBe.out]; simp
  ·exact (Below.refl _ w).alloc (Nat.le_refl _) _
 | true =>
  cases xe with
  | false =>
   go_enter Tryz.func87, Tryz.ntmps87
   go_wp2_with fail
   go_ret
   refine ⟨ret_bool ?_, ?_⟩
   ·rw [hBe.out]; simp
   ·exact (Below.refl _ w).alloc (Nat.le_refl _) _
  | true =>
   by_cases hne : ne = 0
   rotate_left
   ·have tne : ((ne : Int) == 0) = false := by rw [beq_eq_false_iff_ne]; omega
    go_enter Tryz.func87, Tryz.ntmps87
    go_wp2_with fail
    go_ret
    refine ⟨ret_bool ?_, ?_⟩
    ·rw [hBe.out]; simp [hne]
    ·exact (Below.refl _ w).alloc (Nat.le_refl _) _
   ·have tne : ((ne : Int) == 0) = true := by rw [beq_iff_eq]; omega
    by_cases hnd : nd = 0
    rotate_left
    ·have tnd : ((nd : Int) == 0) = false := by rw [beq_eq_false_iff_ne]; omega
     go_enter Tryz.func87, Tryz.ntmps87
     go_wp2_with fail
     go_ret
     refine ⟨ret_bool ?_, ?_⟩
     ·rw [hBe.out]; simp [hne, hnd]
     ·exact (Below.refl _ w).alloc (Nat.le_refl _) _
    ·have tnd : ((nd : Int) == 0) = true := by rw [beq_iff_eq]; omega
     go_enter Tryz.func87, Tryz.ntmps87
     go_wp2_with fail
     go_ret
     refine ⟨ret_bool ?_, ?_⟩
     ·rw [hBe.out]; simp [hne, hnd]
     ·exact (Below.refl _ w).alloc (Nat.le_refl _) _
set_option linter.unusedSimpArgs false in
set_option maxRecDepth 100000 in
set_option maxHeartbeats 4000000 in
theorem bare_k10 (vc : Value) (c : Ch) (w : World) (hc : CV w vc c) (hk : c.kind = 10) :
  Calls Tryz.prog 87 #[vc] w fun e w' => e = .returned (.bool (bareF c)) ∧ Below w.heap.size w w' := by
 obtain ⟨a, b, rfl, h1, h2⟩ := hc
 have hl1 := h1.shape
 have hl2 := h2.shape
 obtain ⟨a1, a2, hae⟩ := hl1
 obtain ⟨b1, b2, hbe⟩ := hl2
 have ev : ∀ w, (binOp .eql 29 (.agg #[.int .i64 c.v.id, .int .i64 c.v.side]) (.agg #[.int .i64 0, .int .i64 0])).run Tryz.prog w = .ok (.bool (decide (c.v = zV))) w := eqV_run _ _
 have ee : ∀ w, (binOp .eql 31 (.agg #[.int .i64 c.e.id, .int .i64 c.e.src, .int .i64 c.e.dst, .bool c.e.dir, .int .i64 c.e.wt, .int .i64 c.e.cap]) (.agg #[.int .i64 0, .int .i64 0, .int .i64 0, .bool false, .int .i64 0, .int .i64 0])).run Tryz.prog w = .ok (.bool (decide (c.e = zE))) w := eqE_run _ _ _ _ _ _
 have hB : Hid (bareF c = isBare (bareC c)) := rfl
 have hBb : bareC c = { c with deps := [] } := by
  unfold bareC
  simp [hk]
 rw [hBb] at hB
 clear hBb h1 h2
 generalize bareF c = R at *
 unfold chCells
 subst hae hbe
 have hBe : Hid (R = (decide (c.v = zV) && decide (c.e = zE) && decide (c.id = 0) && decide (c.n = 0) && decide (c.ends.length = 0) && true)) := by
  show _ = _
  rw [hB.out]
  simp only [isBare]
  have e1 : decide (c.ends = []) = decide (c.ends.length = 0) := by rw [Bool.eq_iff_iff]; simp
  have e2 : decide (c.deps = []) = decide (c.deps.length = 0) := by rw [Bool.eq_iff_iff]; simp
  simp [e1, e2]
 clear hB
 generalize decide (c.v = zV) = xv at *
 generalize decide (c.e = zE) = xe at *
 generalize c.ends.length = ne at *
 generalize c.deps.length = nd at *
 generalize c.id = ci at *
 generalize c.n = cn at *
 rw [hk]
 clear hk
 cases xv with
 | false =>
  go_enter Tryz.func87, Tryz.ntmps87
  go_wp2_with fail
  go_ret
  refine ⟨ret_bool ?_, ?_⟩
  ·rw [hBe.out]; simp
  ·exact (Below.refl _ w).alloc (Nat.le_refl _) _
 | true =>
  cases xe with
  | false =>
   go_enter Tryz.func87, Tryz.ntmps87
   go_wp2_with fail
   go_ret
   refine ⟨ret_bool ?_, ?_⟩
   ·rw [hBe.out]; simp
   ·exact (Below.refl _ w).alloc (Nat.le_refl _) _
  | true =>
   by_cases hci : ci = 0
   rotate_left
   ·have tci : (ci == 0) = false := by simpa using hci
    go_enter Tryz.func87, Tryz.ntmps87
    go_wp2_with fail
    go_ret
    refine ⟨ret_bool ?_, ?_⟩
    ·rw [hBe.out]; simp [hci]
    ·exact (Below.refl _ w).alloc (Nat.le_refl _) _
   ·have tci : (ci == 0) = true := by simpa using hci
    by_cases hcn : cn = 0
    rotate_left
    ·have tcn : (cn == 0) = false := by simpa using hcn
     go_enter Tryz.func87, Tryz.ntmps87
     go_wp2_with fail
     go_ret
     refine ⟨ret_bool ?_, ?_⟩
     ·rw [hBe.out]; simp [hci, hcn]
     ·exact (Below.refl _ w).alloc (Nat.le_refl _) _
    ·have tcn : (cn == 0) = true := by simpa using hcn
     by_cases hne : ne = 0
     rotate_left
     ·have tne : ((ne : Int) == 0) = false := by rw [beq_eq_false_iff_ne]; omega
      go_enter Tryz.func87, Tryz.ntmps87
      go_wp2_with fail
      go_ret
      refine ⟨ret_bool ?_, ?_⟩
      ·rw [hBe.out]; simp [hci, hcn, hne]
      ·exact (Below.refl _ w).alloc (Nat.le_refl _) _
     ·have tne : ((ne : Int) == 0) = true := by rw [beq_iff_eq]; omega
      go_enter Tryz.func87, Tryz.ntmps87
      go_wp2_with fail
      go_ret
      refine ⟨ret_bool ?_, ?_⟩
      ·rw [hBe.out]; simp [hci, hcn, hne]
      ·exact (Below.refl _ w).alloc (Nat.le_refl _) _
set_option linter.unusedSimpArgs false in
set_option maxRecDepth 100000 in
set_option maxHeartbeats 4000000 in
theorem bare_k0 (vc : Value) (c : Ch) (w : World) (hc : CV w vc c) (hk : ¬ (1 ≤ c.kind ∧ c.kind ≤ 10)) :
  Calls Tryz.prog 87 #[vc] w fun e w' => e = .returned (.bool (bareF c)) ∧ Below w.heap.size w w' := by
 obtain ⟨a, b, rfl, h1, h2⟩ := hc
 have hl1 := h1.shape
 have hl2 := h2.shape
 obtain ⟨a1, a2, hae⟩ := hl1
 obtain ⟨b1, b2, hbe⟩ := hl2
 have ev : ∀ w, (binOp .eql 29 (.agg #[.int .i64 c.v.id, .int .i64 c.v.side]) (.agg #[.int .i64 0, .int .i64 0])).run Tryz.prog w = .ok (.bool (decide (c.v = zV))) w := eqV_run _ _
 have ee : ∀ w, (binOp .eql 31 (.agg #[.int .i64 c.e.id, .int .i64 c.e.src, .int .i64 c.e.dst, .bool c.e.dir, .int .i64 c.e.wt, .int .i64 c.e.cap]) (.agg #[.int .i64 0, .int .i64 0, .int .i64 0, .bool false, .int .i64 0, .int .i64 0])).run Tryz.prog w = .ok (.bool (decide (c.e = zE))) w := eqE_run _ _ _ _ _ _
 have hB : Hid (bareF c = isBare (bareC c)) := rfl
 have hBb : bareC c = c := by
  unfold bareC
  rw [if_neg (by omega), if_neg (by omega), if_neg (by omega), if_neg (by omega), if_neg (by omega), if_neg (by omega)]
 rw [hBb] at hB
 clear hBb h1 h2
 generalize bareF c = R at *
 unfold chCells
 subst hae hbe
 have hBe : Hid (R = (decide (c.v = zV) && decide (c.e = zE) && decide (c.id = 0) && decide (c.n = 0) && decide (c.ends.length = 0) && decide (c.deps.length = 0))) := by
  show _ = _
  rw [hB.out]
  simp only [isBare]
  have e1 : decide (c.ends = []) = decide (c.ends.length = 0) := by rw [Bool.eq_iff_iff]; simp
  have e2 : decide (c.deps = []) = decide (c.deps.length = 0) := by rw [Bool.eq_iff_iff]; simp
  simp [e1, e2]
 clear hB
 generalize decide (c.v = zV) = xv at *
 generalize decide (c.e = zE) = xe at *
 generalize c.ends.length = ne at *
 generalize c.deps.length = nd at *
 generalize c.id = ci at *
 generalize c.n = cn at *
 generalize c.kind = ck at *
 have k1 : (ck == 1) = false := by rw [beq_eq_false_iff_ne]; omega
 have k2 : (ck == 2) = false := by rw [beq_eq_false_iff_ne]; omega
 have k3 : (ck == 3) = false := by rw [beq_eq_false_iff_ne]; omega
 have k4 : (ck == 4) = false := by rw [beq_eq_false_iff_ne]; omega
 have k5 : (ck == 5) = false := by rw [beq_eq_false_iff_ne]; omega
 have k6 : (ck == 6) = false := by rw [beq_eq_false_iff_ne]; omega
 have k7 : (ck == 7) = false := by rw [beq_eq_false_iff_ne]; omega
 have k8 : (ck == 8) = false := by rw [beq_eq_false_iff_ne]; omega
 have k9 : (ck == 9) = false := by rw [beq_eq_false_iff_ne]; omega
 have k10 : (ck == 10) = false := by rw [beq_eq_false_iff_ne]; omega
 clear hk
 cases xv with
 | false =>
  go_enter Tryz.func87, Tryz.ntmps87
  go_wp2_with fail
  go_ret
  refine ⟨ret_bool ?_, ?_⟩
  ·rw [hBe.out]; simp
  ·exact (Below.refl _ w).alloc (Nat.le_refl _) _
 | true =>
  cases xe with
  | false =>
   go_enter Tryz.func87, Tryz.ntmps87
   go_wp2_with fail
   go_ret
   refine ⟨ret_bool ?_, ?_⟩
   ·rw [hBe.out]; simp
   ·exact (Below.refl _ w).alloc (Nat.le_refl _) _
  | true =>
   by_cases hci : ci = 0
   rotate_left
   ·have tci : (ci == 0) = false := by simpa using hci
    go_enter Tryz.func87, Tryz.ntmps87
    go_wp2_with fail
    go_ret
    refine ⟨ret_bool ?_, ?_⟩
    ·rw [hBe.out]; simp [hci]
    ·exact (Below.refl _ w).alloc (Nat.le_refl _) _
   ·have tci : (ci == 0) = true := by simpa using hci
    by_cases hcn : cn = 0
    rotate_left
    ·have tcn : (cn == 0) = false := by simpa using hcn
     go_enter Tryz.func87, Tryz.ntmps87
     go_wp2_with fail
     go_ret
     refine ⟨ret_bool ?_, ?_⟩
     ·rw [hBe.out]; simp [hci, hcn]
     ·exact (Below.refl _ w).alloc (Nat.le_refl _) _
    ·have tcn : (cn == 0) = true := by simpa using hcn
     by_cases hne : ne = 0
     rotate_left
     ·have tne : ((ne : Int) == 0) = false := by rw [beq_eq_false_iff_ne]; omega
      go_enter Tryz.func87, Tryz.ntmps87
      go_wp2_with fail
      go_ret
      refine ⟨ret_bool ?_, ?_⟩
      ·rw [hBe.out]; simp [hci, hcn, hne]
      ·exact (Below.refl _ w).alloc (Nat.le_refl _) _
     ·have tne : ((ne : Int) == 0) = true := by rw [beq_iff_eq]; omega
      by_cases hnd : nd = 0
      rotate_left
      ·have tnd : ((nd : Int) == 0) = false := by rw [beq_eq_false_iff_ne]; omega
       go_enter Tryz.func87, Tryz.ntmps87
       go_wp2_with fail
       go_ret
       refine ⟨ret_bool ?_, ?_⟩
       ·rw [hBe.out]; simp [hci, hcn, hne, hnd]
       ·exact (Below.refl _ w).alloc (Nat.le_refl _) _
      ·have tnd : ((nd : Int) == 0) = true := by rw [beq_iff_eq]; omega
       go_enter Tryz.func87, Tryz.ntmps87
       go_wp2_with fail
       go_ret
       refine ⟨ret_bool ?_, ?_⟩
       ·rw [hBe.out]; simp [hci, hcn, hne, hnd]
       ·exact (Below.refl _ w).alloc (Nat.le_refl _) _
end Go.Proofs.YtlaldnlgapeckaaGreat
