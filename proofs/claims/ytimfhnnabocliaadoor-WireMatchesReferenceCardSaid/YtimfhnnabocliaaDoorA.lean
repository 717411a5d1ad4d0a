import Derived.Test.YtimfhnnabocliaaDoorProg
import Derived.WalkKit
import Derived.Below
import Derived.WalkLawsBesides
import Derived.WalkSpells
import Derived.Outline
import Derived.Lib.Hide
namespace Go.Proofs.YtimfhnnabocliaaDoor
open Go.RowKit

/-- what 'pick' returns -/
def pk (c n : Int) : Int := (if c < 0 then -(c + 1) else c) % n

theorem pk_lo (c n : Int) (h : 1 ≤ n) : 0 ≤ pk c n := by unfold pk; exact Int.emod_nonneg _ (by omega)
theorem pk_lt (c n : Int) (h : 1 ≤ n) : pk c n < n := by unfold pk; exact Int.emod_lt_of_pos _ (by omega)

theorem ret_int {k : IntKind} {a b : Int} (h : a = b) : Ending.returned (.int k a) = .returned (.int k b) := by rw [h]

theorem pick_any (c n : Int) (w : World) (h1 : -9223372036854775808 ≤ c) (h2 : c ≤ 9223372036854775807) (h3 : 1 ≤ n) (h4 : n ≤ 9223372036854775807) :
    Calls Tryd.prog 14 #[.int .i64 c, .int .i64 n] w fun e w' => e = .returned (.int .i64 (pk c n)) ∧ w = w' := by
  by_cases h : c < 0
  · go_enter Tryd.func14, Tryd.ntmps14
    go_wp2
    go_ret
    exact ⟨ret_int (by rw [pk, if_pos h, ← Int.neg_tmod]; exact Int.tmod_eq_emod_of_nonneg (by omega)), rfl⟩
  · go_enter Tryd.func14, Tryd.ntmps14
    go_wp2
    go_ret
    exact ⟨ret_int (by rw [pk, if_neg (by omega)]), rfl⟩

def foldN (n : Int) : Int := if n < 0 then -2 * n - 1 else 2 * n
theorem fold_any (n : Int) (w : World) (h1 : -4611686018427387903 ≤ n) (h2 : n ≤ 4611686018427387903) :
    Calls Tryd.prog 24 #[.int .i64 n] w fun e w' => e = .returned (.int .u64 (foldN n)) ∧ w = w' := by
  by_cases h : n < 0
  · go_enter Tryd.func24, Tryd.ntmps24
    go_wp2
    go_ret
    exact ⟨ret_int (by rw [foldN, if_pos h]), rfl⟩
  · go_enter Tryd.func24, Tryd.ntmps24
    go_wp2
    go_ret
    exact ⟨ret_int (by rw [foldN, if_neg (by omega)]), rfl⟩
def unfoldN (z : Int) : Int := if z % 2 = 1 then - (z / 2) - 1 else z / 2
theorem unfold_any (z : Int) (w : World) (h1 : 0 ≤ z) (h2 : z ≤ 9223372036854775806) :
    Calls Tryd.prog 27 #[.int .u64 z] w fun e w' => e = .returned (.int .i64 (unfoldN z)) ∧ w = w' := by
  by_cases h : z % 2 = 1
  · go_enter Tryd.func27, Tryd.ntmps27
    go_wp2
    go_ret
    exact ⟨ret_int (by rw [unfoldN, if_pos h]), rfl⟩
  · go_enter Tryd.func27, Tryd.ntmps27
    go_wp2
    go_ret
    exact ⟨ret_int (by rw [unfoldN, if_neg (by omega)]), rfl⟩


end Go.Proofs.YtimfhnnabocliaaDoor
