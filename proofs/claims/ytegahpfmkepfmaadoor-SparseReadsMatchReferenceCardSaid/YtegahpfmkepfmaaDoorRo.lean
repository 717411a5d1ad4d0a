import Derived.Test.YtegahpfmkepfmaaDoorProg
import Derived.Test.YtegahpfmkepfmaaDoorSha
import Derived.WalkKit
import Derived.Below
import Derived.WalkLawsBesides
import Derived.WalkSpells
import Derived.Outline
import Derived.Lib.Hide
import Derived.RegionTactic
import Derived.ChangeAlike
import Derived.BigRegion
import Derived.Deep.QuietTactic
import Derived.BigQuiet
import Derived.RangeFuncBox
import Derived.Maps.AppendAt
import Derived.Deep.RegionHeld3
namespace Go.Proofs.YtegahpfmkepfmaaDoor
open Go.RowKit

theorem rot_lt (x n : Nat) (h : x < 4294967296) : rot x n < 4294967296 :=
  Nat.or_lt_two_pow (n := 32) (Nat.lt_of_le_of_lt (Nat.div_le_self _ _) h) (Nat.mod_lt _ (by decide))
theorem ret_int {k : IntKind} {a b : Int} (h : a = b) : Ending.returned (.int k a) = .returned (.int k b) := by rw [h]

theorem and31 (n : Nat) (h1 : 1 ≤ n) (h2 : n ≤ 31) : bits BinOp.and IntKind.u64 (IntKind.u64.wrap (-(n : Int))) 31 = 32 - (n : Int) := by
  have h : ∀ m : Fin 32, m.val = 0 ∨ bits BinOp.and IntKind.u64 (IntKind.u64.wrap (-(m.val : Int))) 31 = 32 - (m.val : Int) := by decide +kernel
  rcases h ⟨n, by omega⟩ with e | e
  · simp at e; omega
  · exact e

theorem RotateLeft_any (x n : Nat) (w : World) (hx : x < 4294967296) (h1 : 1 ≤ n) (h2 : n ≤ 31) :
    Calls Tryd.prog 97 #[.int .u32 x, .int .i64 (-(n : Int))] w fun e w' => e = .returned (.int .u32 (rot x n)) ∧ w = w' := by
  have hb := and31 n h1 h2
  go_enter Tryd.func97, Tryd.ntmps97
  go_wp2_with fail
  go_ret
  refine ⟨ret_int ?_, rfl⟩
  rw [rot, Nat.or_comm, ← u32_or_nat _ _ (Nat.mod_lt _ (by decide)) (Nat.lt_of_le_of_lt (Nat.div_le_self _ _) hx), show 32 - (32 - n) = n by omega]
  simp

theorem rotate_any (x n : Nat) (w : World) (hx : x < 4294967296) (h1 : 1 ≤ n) (h2 : n ≤ 31) :
    Calls Tryd.prog 92 #[.int .u32 x, .int .i64 n] w fun e w' => e = .returned (.int .u32 (rot x n)) ∧ w = w' := by
  go_enter Tryd.func92, Tryd.ntmps92
  go_wp2_with (go_at_call 97; refine (RotateLeft_any x n _ hx h1 h2).mono ?_; rintro e w' ⟨rfl, rfl⟩)
  go_ret
  exact ⟨rfl, rfl⟩
theorem xor_lt (x y : Nat) (h : x < 4294967296) (h2 : y < 4294967296) : x ^^^ y < 4294967296 := Nat.xor_lt_two_pow (n := 32) h h2
theorem and_lt (x y : Nat) (h : x < 4294967296) : x &&& y < 4294967296 := Nat.lt_of_le_of_lt Nat.and_le_left h
theorem bs1_lt (x : Nat) (h : x < 4294967296) : bs1 x < 4294967296 := xor_lt _ _ (xor_lt _ _ (rot_lt _ _ h) (rot_lt _ _ h)) (rot_lt _ _ h)
theorem bs0_lt (x : Nat) (h : x < 4294967296) : bs0 x < 4294967296 := xor_lt _ _ (xor_lt _ _ (rot_lt _ _ h) (rot_lt _ _ h)) (rot_lt _ _ h)
theorem ss0_lt (x : Nat) (h : x < 4294967296) : ss0 x < 4294967296 := xor_lt _ _ (xor_lt _ _ (rot_lt _ _ h) (rot_lt _ _ h)) (Nat.lt_of_le_of_lt (Nat.div_le_self _ _) h)
theorem ss1_lt (x : Nat) (h : x < 4294967296) : ss1 x < 4294967296 := xor_lt _ _ (xor_lt _ _ (rot_lt _ _ h) (rot_lt _ _ h)) (Nat.lt_of_le_of_lt (Nat.div_le_self _ _) h)
theorem add32_lt (x y : Nat) : add32 x y < 4294967296 := Nat.mod_lt _ (by decide)
theorem maj_lt (a b c : Nat) (h : a < 4294967296) (h2 : b < 4294967296) : maj a b c < 4294967296 := xor_lt _ _ (xor_lt _ _ (and_lt _ _ h) (and_lt _ _ h)) (and_lt _ _ h2)
theorem chf_lt (e f g : Nat) (h : e < 4294967296) : chf e f g < 4294967296 := xor_lt _ _ (and_lt _ _ h) (and_lt _ _ (by omega))
/-- all words are words -/
def Ok8 (s : S8) : Prop := s.a < 4294967296 ∧ s.b < 4294967296 ∧ s.c < 4294967296 ∧ s.d < 4294967296 ∧ s.e < 4294967296 ∧ s.f < 4294967296 ∧ s.g < 4294967296 ∧ s.h < 4294967296
theorem rnd_ok (k w : Nat) (s : S8) (h : Ok8 s) : Ok8 (rnd k w s) := ⟨add32_lt _ _, h.1, h.2.1, h.2.2.1, add32_lt _ _, h.2.2.2.2.1, h.2.2.2.2.2.1, h.2.2.2.2.2.2.1⟩
theorem rn_ok (ws : List Nat) (s : S8) (h : Ok8 s) (i : Nat) : Ok8 (rn ws s i) := by
  induction i with
  | zero => exact h
  | succ i ih => exact rnd_ok _ _ _ ih
theorem plus_ok (s t : S8) : Ok8 (plus s t) := ⟨add32_lt _ _, add32_lt _ _, add32_lt _ _, add32_lt _ _, add32_lt _ _, add32_lt _ _, add32_lt _ _, add32_lt _ _⟩
theorem h0_ok : Ok8 h0 := by unfold Ok8 h0; decide
theorem hs_ok (x : List UInt8) (i : Nat) : Ok8 (hs x i) := by
  cases i with
  | zero => exact h0_ok
  | succ i => exact plus_ok _ _
/-- the cells of words -/
def cW (l : List Nat) : List Value := l.map fun (b : Nat) => Value.int .u32 (b : Int)
/-- the cells of bytes -/
def cB (l : List UInt8) : List Value := l.map fun b => Value.int .u8 (b.toNat : Int)
end Go.Proofs.YtegahpfmkepfmaaDoor
