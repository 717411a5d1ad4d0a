import Derived.Test.YtimfhnnabocliaaDoorD
namespace Go.Proofs.YtimfhnnabocliaaDoor
open Go.RowKit

def tabF (k : Nat) : Int := [64, 128, 8192, 16384, 1073741824, 36028797018963968, 576460752303423488, 2].getD k 0
theorem tabF_bd (k : Nat) (h : k < 8) : 1 ≤ tabF k ∧ tabF k ≤ 576460752303423488 := by
  unfold tabF
  match k, h with
  | 0, _ => decide
  | 1, _ => decide
  | 2, _ => decide
  | 3, _ => decide
  | 4, _ => decide
  | 5, _ => decide
  | 6, _ => decide
  | 7, _ => decide
theorem tabF_at (k : Nat) (h : k < [Value.int .i64 64, Value.int .i64 128, Value.int .i64 8192, Value.int .i64 16384, Value.int .i64 1073741824, Value.int .i64 36028797018963968, Value.int .i64 576460752303423488, Value.int .i64 2].length) :
    [Value.int .i64 64, Value.int .i64 128, Value.int .i64 8192, Value.int .i64 16384, Value.int .i64 1073741824, Value.int .i64 36028797018963968, Value.int .i64 576460752303423488, Value.int .i64 2][k] = .int .i64 (tabF k) := by
  unfold tabF
  match k, h with
  | 0, _ => rfl
  | 1, _ => rfl
  | 2, _ => rfl
  | 3, _ => rfl
  | 4, _ => rfl
  | 5, _ => rfl
  | 6, _ => rfl
  | 7, _ => rfl
/-- what 'NumberFrom' returns -/
def numA (c : Int) : Int := pk (pk c 4611686018427387904 / 8) (tabF (pk c 8).toNat)
def numF (c : Int) : Int := if 8 ≤ pk c 16 then - numA c else numA c
theorem numA_bd (c : Int) : 0 ≤ numA c ∧ numA c ≤ 576460752303423488 := by
  have q3 := pk_lo c 8 (by omega)
  have q4 := pk_lt c 8 (by omega)
  have ht := tabF_bd (pk c 8).toNat (by omega)
  have h1 := pk_lo (pk c 4611686018427387904 / 8) (tabF (pk c 8).toNat) ht.1
  have h2 := pk_lt (pk c 4611686018427387904 / 8) (tabF (pk c 8).toNat) ht.1
  unfold numA
  omega
theorem numF_bd (c : Int) : -4611686018427387903 ≤ numF c ∧ numF c ≤ 4611686018427387903 := by
  have := numA_bd c
  unfold numF
  split <;> omega

set_option maxRecDepth 100000 in
theorem NumberFrom_any (c : Int) (w : World) (h1 : -9223372036854775808 ≤ c) (h2 : c ≤ 9223372036854775807) :
    Calls Tryd.prog 11 #[.int .i64 c] w fun e w' => e = .returned (.int .i64 (numF c)) ∧ Below w.heap.size w w' := by
  have q1 := pk_lo c 4611686018427387904 (by omega)
  have q2 := pk_lt c 4611686018427387904 (by omega)
  have q3 := pk_lo c 8 (by omega)
  have q4 := pk_lt c 8 (by omega)
  have ht := tabF_bd (pk c 8).toNat (by omega)
  have hA := numA_bd c
  have hF : Hid (numF c = if 8 ≤ pk c 16 then - numA c else numA c) := rfl
  have hN : Hid (pk (pk c 4611686018427387904 / 8) (tabF (pk c 8).toNat) = numA c) := rfl
  by_cases h8 : 8 ≤ pk c 16
  all_goals
    go_enter Tryd.func11, Tryd.ntmps11
    go_wp2_with fail
    refine (pick_any _ _ _ h1 h2 (by omega) (by omega)).mono ?_
    rintro e w' ⟨rfl, rfl⟩
    go_wp2_with fail
    refine (pick_any _ _ _ h1 h2 (by omega) (by omega)).mono ?_
    rintro e w' ⟨rfl, rfl⟩
    go_wp2_with fail
    rw [tabF_at]
    refine (pick_any _ _ _ (by omega) (by omega) (by omega) (by omega)).mono ?_
    rw [hN.out]
    rintro e w' ⟨rfl, rfl⟩
    go_wp2_with fail
    refine (pick_any _ _ _ h1 h2 (by omega) (by omega)).mono ?_
    rintro e w' ⟨rfl, rfl⟩
    go_wp2
    go_ret
    refine ⟨ret_int ?_, (Below.refl _ w).alloc (Nat.le_refl _) _⟩
    rw [hF.out]
    first | rw [if_pos h8] | rw [if_neg (by omega)]
end Go.Proofs.YtimfhnnabocliaaDoor
