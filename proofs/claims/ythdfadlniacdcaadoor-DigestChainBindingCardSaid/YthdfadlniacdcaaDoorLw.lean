import Derived.Test.YthdfadlniacdcaaDoorSan
namespace Go.Proofs.YthdfadlniacdcaaDoor
open Go.RowKit
/-- how many binary digits a number has -/
def bd (n : Nat) : Nat := if n = 0 then 0 else bd (n / 2) + 1
termination_by n
theorem bd_pos (n : Nat) (h : n ≠ 0) : bd n = bd (n / 2) + 1 := by rw [bd, if_neg h]
theorem bd_zero : bd 0 = 0 := by rw [bd]; rfl
theorem lt_bd (n : Nat) : n < 2 ^ bd n := by
  induction n using Nat.strongRecOn with
  | ind n ih =>
    by_cases h : n = 0
    · subst h; rw [bd_zero]; decide
    · rw [bd_pos n h, Nat.pow_succ]
      have := ih (n / 2) (by omega)
      omega
theorem bd_le (n j : Nat) (h : n < 2 ^ j) : bd n ≤ j := by
  induction j generalizing n with
  | zero => simp at h; subst h; rw [bd_zero]; omega
  | succ j ih =>
    by_cases h0 : n = 0
    · subst h0; rw [bd_zero]; omega
    · rw [bd_pos n h0]
      have := ih (n / 2) (by rw [Nat.pow_succ] at h; omega)
      omega

set_option maxRecDepth 100000 in
theorem binary_any (n : Nat) (w : World) (h : n ≤ 9223372036854775807) :
    Calls Tryd.prog 33 #[.int .i64 n] w fun e w' => e = .returned (.int .i64 (bd n)) ∧ w = w' := by
  have hb : bd n ≤ 64 := bd_le n 64 (by omega)
  go_enter Tryd.func33, Tryd.ntmps33
  go_wp2_with fail
  go_loop [0, 3] (fun a b => ∃ i k : Nat, i ≤ n ∧ a = .int .i64 i ∧ b = .int .i64 k ∧ k + bd i = bd n) (fun a _ => (intOf a).toNat)
  case atStart => exact ⟨n, 0, by omega, rfl, rfl, by omega⟩
  case round =>
    obtain ⟨i, k, hi, rfl, rfl, he⟩ := hrel
    by_cases h0 : 0 < i
    · have e := bd_pos i (by omega)
      have e2 : Int.tdiv (i : Int) 2 = ((i / 2 : Nat) : Int) := by rw [Int.tdiv_eq_ediv_of_nonneg (by omega)]; omega
      go_wp2_with fail
      go_round
      case rel => exact ⟨i / 2, k + 1, by omega, by first | go_num | (simp [e2]) | skip, by go_num, by omega⟩
      case measure => simp [intOf]; omega
    · obtain rfl : i = 0 := by omega
      rw [bd_zero] at he
      obtain rfl : k = bd n := by omega
      go_wp2_with fail
      go_ret
      exact ⟨rfl, rfl⟩

set_option maxRecDepth 100000 in
theorem left_any (n : Nat) (w : World) (h : 2 ≤ n) (h3 : n ≤ 9223372036854775807) :
    Calls Tryd.prog 38 #[.int .i64 n] w fun e w' => e = .returned (.int .i64 (lf n)) ∧ w = w' := by
  go_enter Tryd.func38, Tryd.ntmps38
  go_wp2_with fail
  go_loop [3] (fun a => ∃ k j : Nat, Hid (k = 2 ^ j) ∧ 1 ≤ k ∧ k < n ∧ a = .int .i64 k) (fun a => n - (intOf a).toNat)
  case atStart => exact ⟨1, 0, rfl, by omega, by omega, rfl⟩
  case round =>
    obtain ⟨k, j, hk, h1, hn, rfl⟩ := hrel
    by_cases hlt : k < n - k
    · have i1 : (k : Int) < (n : Int) - (k : Int) := by omega
      have i0 : wrap64 ((n : Int) - (k : Int)) = (n : Int) - (k : Int) := IntWalk.wrap64_in _ ⟨by omega, by omega⟩
      go_wp2_with fail
      go_round
      case rel => exact ⟨2 * k, j + 1, by unfold Hid; rw [hk.out, Nat.pow_succ]; omega, by omega, by omega, by go_num⟩
      case measure => simp [intOf]; omega
    · have i1 : ¬ (k : Int) < (n : Int) - (k : Int) := by omega
      have e := Lib.hid (lf_same n k j h hk.out hn (by omega))
      go_wp2_with fail
      go_ret
      exact ⟨by rw [e.out]; rfl, rfl⟩
end Go.Proofs.YthdfadlniacdcaaDoor
