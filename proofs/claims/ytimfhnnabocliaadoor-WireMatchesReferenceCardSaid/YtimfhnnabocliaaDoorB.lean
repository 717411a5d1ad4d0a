import Derived.Test.YtimfhnnabocliaaDoorProg
import Derived.Test.YtimfhnnabocliaaDoorM
import Derived.WalkKit
import Derived.Below
import Derived.WalkLawsBesides
import Derived.WalkSpells
import Derived.Outline
import Derived.Lib.Hide
namespace Go.Proofs.YtimfhnnabocliaaDoor
open Go.RowKit
def jr (l : List UInt8) : Nat × Nat := match jn 9 true l with | none => (0, 0) | some p => p
/-- after k rounds -/
def JI (L : List UInt8) (k z : Nat) : Prop := z < 128 ^ k ∧ jn 9 true L = (jn (9 - k) (decide (k = 0)) (L.drop k)).map (fun p => (z + 128 ^ k * p.1, k + p.2))
theorem JI_start (L : List UInt8) : JI L 0 0 := by
  exact ⟨by simp, by simp⟩
theorem drop_at (s : ByteArray) (k : Nat) (h : k < s.size) : s.data.toList.drop k = s[k] :: s.data.toList.drop (k + 1) := by
  rw [List.drop_eq_getElem_cons (by simpa using h)]; rfl
theorem JI_open (L : List UInt8) (k z : Nat) (c : UInt8) (r : List UInt8) (hk : k < 9) (h : JI L k z) (hd : L.drop k = c :: r) :
    jn 9 true L = (if 128 ≤ c.toNat then (jn (8 - k) false r).map (fun p => (c.toNat % 128 + 128 * p.1, p.2 + 1)) else if c.toNat = 0 ∧ decide (k = 0) = false then none else some (c.toNat, 1)).map (fun p => (z + 128 ^ k * p.1, k + p.2)) := by
  rw [h.2, hd, show 9 - k = (8 - k) + 1 by omega, jn]
theorem JI_go (L : List UInt8) (k z : Nat) (c : UInt8) (r : List UInt8) (hk : k < 9) (h : JI L k z) (hd : L.drop k = c :: r) (hd' : r = L.drop (k + 1)) (hc : 128 ≤ c.toNat) : JI L (k + 1) (z + c.toNat % 128 * 128 ^ k) := by
  refine ⟨?_, ?_⟩
  · have := h.1
    have h2 : c.toNat % 128 * 128 ^ k ≤ 127 * 128 ^ k := Nat.mul_le_mul_right _ (by omega)
    rw [Nat.pow_succ]; omega
  · rw [JI_open L k z c r hk h hd, if_pos hc, Option.map_map, hd', show 9 - (k + 1) = 8 - k by omega, show decide (k + 1 = 0) = false by simp]
    congr 1
    funext p
    simp only [Function.comp]
    congr 1
    · rw [Nat.mul_add, Nat.pow_succ, Nat.mul_comm (128 ^ k) (c.toNat % 128), Nat.mul_assoc]; omega
    · omega
theorem JI_no (L : List UInt8) (k z : Nat) (c : UInt8) (r : List UInt8) (hk : k < 9) (h : JI L k z) (hd : L.drop k = c :: r) (hc : c.toNat = 0) (h0 : 0 < k) : jr L = (0, 0) := by
  unfold jr
  rw [JI_open L k z c r hk h hd, if_neg (by omega), if_pos ⟨hc, by simp; omega⟩]; rfl
theorem JI_yes (L : List UInt8) (k z : Nat) (c : UInt8) (r : List UInt8) (hk : k < 9) (h : JI L k z) (hd : L.drop k = c :: r) (hc : c.toNat < 128) (h0 : c.toNat ≠ 0 ∨ k = 0) : jr L = (z + c.toNat % 128 * 128 ^ k, k + 1) := by
  unfold jr
  rw [JI_open L k z c r hk h hd, if_neg (by omega), if_neg (by rintro ⟨a, b⟩; simp at b; omega)]
  simp
  rw [Nat.mod_eq_of_lt hc, Nat.mul_comm]
theorem JI_end (L : List UInt8) (k z : Nat) (h : JI L k z) (he : k = 9 ∨ L.drop k = []) : jr L = (0, 0) := by
  unfold jr
  rw [h.2]
  rcases he with rfl | he
  · simp [jn]
  · rw [he]
    cases h : 9 - k <;> simp [jn]
theorem wrap_sum (k z c : Nat) (hk : k < 9) (hz : z < 128 ^ k) : IntKind.u64.wrap ((z : Int) + IntKind.u64.wrap ((c : Int) % 128 * 2 ^ (7 * k))) = ((z + c % 128 * 128 ^ k : Nat) : Int) := by
  have e : ((2 : Int) ^ (7 * k)) = ((128 ^ k : Nat) : Int) := by
    rw [Int.pow_mul]; simp
  have h2 : c % 128 * 128 ^ k ≤ 127 * 128 ^ k := Nat.mul_le_mul_right _ (by omega)
  have h3 : 128 ^ k ≤ 128 ^ 8 := Nat.pow_le_pow_right (by omega) (by omega)
  have e2 : (c : Int) % 128 * ((128 ^ k : Nat) : Int) = ((c % 128 * 128 ^ k : Nat) : Int) := by simp
  rw [e, e2]
  generalize c % 128 * 128 ^ k = y at *
  have h4 : (128 : Nat) ^ 8 = 72057594037927936 := by decide
  rw [h4] at h3
  rw [IntKind.wrap_u64, IntKind.wrap_u64]
  omega

set_option maxRecDepth 100000 in
theorem join_long (s : ByteArray) (w : World) (hs : s.size ≤ maxLen) (h9 : 9 < s.size) :
    Calls Tryd.prog 26 #[.string s] w fun e w' => e = .returned (.tuple #[.int .u64 (jr s.data.toList).1, .int .i64 (jr s.data.toList).2]) ∧ w = w' := by
  unfold maxLen at hs
  go_enter Tryd.func26, Tryd.ntmps26
  go_wp2
  go_loop [4, 5, 6, 10] (fun z _ _ i => ∃ k zn : Nat, k ≤ 9 ∧ i = .int .i64 k ∧ z = .int .u64 zn ∧ JI s.data.toList k zn) (fun _ _ _ i => 9 - (intOf i).toNat)
  case atStart => exact ⟨0, 0, by omega, rfl, rfl, JI_start _⟩
  case round =>
    obtain ⟨k, zn, hk, rfl, rfl, hj⟩ := hrel
    have hj := Lib.hid hj
    by_cases hlt : k < 9
    · have hkk : k < s.size := by omega
      go_wp2
      · have hc : (128 : Int) ≤ (s[k].toNat : Int) := by assumption
        rw [wrap_sum k zn s[k].toNat (by omega) hj.out.1]
        go_round
        case rel => exact ⟨k + 1, _, by omega, by go_num, rfl, JI_go _ k zn _ _ (by omega) hj.out (drop_at s k hkk) rfl (by omega)⟩
        case measure => simp [intOf]; omega
      · have hc : s[k].toNat = 0 := by assumption
        have h0 : 0 < k := by assumption
        go_ret2
        rw [JI_no _ k zn _ _ (by omega) hj.out (drop_at s k hkk) hc h0]
        exact ⟨rfl, rfl⟩
      · have hc : s[k].toNat = 0 := by assumption
        have h0 : ¬ 0 < k := by assumption
        obtain rfl : k = 0 := by omega
        go_ret2
        rw [JI_yes _ 0 zn _ _ (by omega) hj.out (drop_at s 0 hkk) (by omega) (.inr rfl), hc]
        have := hj.out.1
        obtain rfl : zn = 0 := by simpa using this
        exact ⟨by simp [IntKind.wrap_u64], rfl⟩
      · have hc : (s[k].toNat : Int) < 128 := by assumption
        have h0 : ¬ s[k].toNat = 0 := by assumption
        rw [wrap_sum k zn s[k].toNat (by omega) hj.out.1]
        go_ret2
        rw [JI_yes _ k zn _ _ (by omega) hj.out (drop_at s k hkk) (by omega) (.inl h0)]
        exact ⟨by simp, rfl⟩
    · obtain rfl : k = 9 := by omega
      go_wp2
      go_ret2
      rw [JI_end _ _ zn hj.out (by first | exact .inl rfl | exact .inr (List.drop_of_length_le (by simp)))]
      exact ⟨rfl, rfl⟩

set_option maxRecDepth 100000 in
theorem join_short (s : ByteArray) (w : World) (hs : s.size ≤ maxLen) (h9 : ¬ 9 < s.size) :
    Calls Tryd.prog 26 #[.string s] w fun e w' => e = .returned (.tuple #[.int .u64 (jr s.data.toList).1, .int .i64 (jr s.data.toList).2]) ∧ w = w' := by
  unfold maxLen at hs
  go_enter Tryd.func26, Tryd.ntmps26
  go_wp2
  go_loop [4, 5, 6, 10] (fun z _ _ i => ∃ k zn : Nat, k ≤ s.size ∧ i = .int .i64 k ∧ z = .int .u64 zn ∧ JI s.data.toList k zn) (fun _ _ _ i => s.size - (intOf i).toNat)
  case atStart => exact ⟨0, 0, by omega, rfl, rfl, JI_start _⟩
  case round =>
    obtain ⟨k, zn, hk, rfl, rfl, hj⟩ := hrel
    have hj := Lib.hid hj
    by_cases hlt : k < s.size
    · have hkk : k < s.size := by omega
      go_wp2
      · have hc : (128 : Int) ≤ (s[k].toNat : Int) := by assumption
        rw [wrap_sum k zn s[k].toNat (by omega) hj.out.1]
        go_round
        case rel => exact ⟨k + 1, _, by omega, by go_num, rfl, JI_go _ k zn _ _ (by omega) hj.out (drop_at s k hkk) rfl (by omega)⟩
        case measure => simp [intOf]; omega
      · have hc : s[k].toNat = 0 := by assumption
        have h0 : 0 < k := by assumption
        go_ret2
        rw [JI_no _ k zn _ _ (by omega) hj.out (drop_at s k hkk) hc h0]
        exact ⟨rfl, rfl⟩
      · have hc : s[k].toNat = 0 := by assumption
        have h0 : ¬ 0 < k := by assumption
        obtain rfl : k = 0 := by omega
        go_ret2
        rw [JI_yes _ 0 zn _ _ (by omega) hj.out (drop_at s 0 hkk) (by omega) (.inr rfl), hc]
        have := hj.out.1
        obtain rfl : zn = 0 := by simpa using this
        exact ⟨by simp [IntKind.wrap_u64], rfl⟩
      · have hc : (s[k].toNat : Int) < 128 := by assumption
        have h0 : ¬ s[k].toNat = 0 := by assumption
        rw [wrap_sum k zn s[k].toNat (by omega) hj.out.1]
        go_ret2
        rw [JI_yes _ k zn _ _ (by omega) hj.out (drop_at s k hkk) (by omega) (.inl h0)]
        exact ⟨by simp, rfl⟩
    · obtain rfl : k = s.size := by omega
      go_wp2
      go_ret2
      rw [JI_end _ _ zn hj.out (by first | exact .inl rfl | exact .inr (List.drop_of_length_le (by simp)))]
      exact ⟨rfl, rfl⟩

theorem join_any (s : ByteArray) (w : World) (hs : s.size ≤ maxLen) :
    Calls Tryd.prog 26 #[.string s] w fun e w' => e = .returned (.tuple #[.int .u64 (jr s.data.toList).1, .int .i64 (jr s.data.toList).2]) ∧ w = w' := by
  by_cases h9 : 9 < s.size
  · exact join_long s w hs h9
  · exact join_short s w hs h9
end Go.Proofs.YtimfhnnabocliaaDoor
