import Derived.Test.YthdfadlniacdcaaDoorRfC
import Derived.Test.YthdfadlniacdcaaDoorWay
import Derived.Test.YthdfadlniacdcaaDoorBnd
namespace Go.Proofs.YthdfadlniacdcaaDoor
open Go.RowKit
theorem LeafR_any (l : List UInt8) (w : World) (hl : l.length ≤ 100000) :
    Calls Tryd.prog 16 #[.string ⟨l.toArray⟩] w fun e w' => e = .returned (.string ⟨(leafH sha l).toArray⟩) ∧ Below w.heap.size w w' := by
  have h := Lib.hid (SumR_any (0 :: l) w (by simp; omega))
  have hc := cat2 0 l
  have e : Hid (leafH sha l = sha (0 :: l)) := rfl
  rw [e.out]
  go_enter Tryd.func16, Tryd.ntmps16
  go_wp2_with fail
  refine h.out.mono ?_
  rintro e w1 ⟨rfl, b2⟩
  go_wp2_with fail
  go_ret
  exact ⟨rfl, b2⟩
theorem NodeR_any (x y : List UInt8) (w : World) (hx : x.length ≤ 100000) (hy : y.length ≤ 100000) :
    Calls Tryd.prog 18 #[.string ⟨x.toArray⟩, .string ⟨y.toArray⟩] w fun e w' => e = .returned (.string ⟨(nodeH sha x y).toArray⟩) ∧ Below w.heap.size w w' := by
  have h := Lib.hid (SumR_any (1 :: (x ++ y)) w (by simp; omega))
  have hc := cat3 1 x y
  have e : Hid (nodeH sha x y = sha (1 :: (x ++ y))) := rfl
  rw [e.out]
  go_enter Tryd.func18, Tryd.ntmps18
  go_wp2_with fail
  refine h.out.mono ?_
  rintro e w1 ⟨rfl, b2⟩
  go_wp2_with fail
  go_ret
  exact ⟨rfl, b2⟩
theorem ChainR_any (x y : List UInt8) (w : World) (hx : x.length ≤ 100000) (hy : y.length ≤ 100000) :
    Calls Tryd.prog 20 #[.string ⟨x.toArray⟩, .string ⟨y.toArray⟩] w fun e w' => e = .returned (.string ⟨(sha (2 :: (x ++ y))).toArray⟩) ∧ Below w.heap.size w w' := by
  have h := Lib.hid (SumR_any (2 :: (x ++ y)) w (by simp; omega))
  have hc := cat3 2 x y
  go_enter Tryd.func20, Tryd.ntmps20
  go_wp2_with fail
  refine h.out.mono ?_
  rintro e w1 ⟨rfl, b2⟩
  go_wp2_with fail
  go_ret
  exact ⟨rfl, b2⟩
set_option maxRecDepth 100000 in
theorem leftR_any (n : Nat) (w : World) (h : 2 ≤ n) (h3 : n ≤ 9223372036854775807) :
    Calls Tryd.prog 44 #[.int .i64 n] w fun e w' => e = .returned (.int .i64 (lf n)) ∧ w = w' := by
  go_enter Tryd.func44, Tryd.ntmps44
  go_wp2_with fail
  go_loop [3] (fun a => ∃ k j : Nat, Hid (k = 2 ^ j) ∧ 1 ≤ k ∧ k < n ∧ a = .int .i64 k) (fun a => n - (intOf a).toNat)
  case atStart => exact ⟨1, 0, rfl, by omega, by omega, rfl⟩
  case round =>
    obtain ⟨k, j, hk, h1, hn, rfl⟩ := hrel
    by_cases hlt : k < n - k
    · have i1 : (k : Int) < (n : Int) - (k : Int) := by omega
      have i0 : wrap64 ((n : Int) - (k : Int)) = (n : Int) - (k : Int) := IntWalk.wrap64_in _ ⟨by omega, by omega⟩
      go_wp2_with fail
      go_round
      case rel => exact ⟨2 * k, j + 1, by unfold Hid; rw [hk.out, Nat.pow_succ]; omega, by omega, by omega, by go_num⟩
      case measure => simp [intOf]; omega
    · have i1 : ¬ (k : Int) < (n : Int) - (k : Int) := by omega
      have e := Lib.hid (lf_same n k j h hk.out hn (by omega))
      go_wp2_with fail
      go_ret
      exact ⟨by rw [e.out]; rfl, rfl⟩
end Go.Proofs.YthdfadlniacdcaaDoor
