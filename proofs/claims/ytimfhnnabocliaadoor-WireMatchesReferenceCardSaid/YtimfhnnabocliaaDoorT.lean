import Derived.Test.YtimfhnnabocliaaDoorS
namespace Go.Proofs.YtimfhnnabocliaaDoor
open Go.RowKit

theorem st_val (y : Nat) (h : y < 4294967296) : (st (BitVec.ofNat 32 y)).toNat = if y % 2 = 1 then (y / 2) ^^^ 2197175160 else y / 2 := by
  have e : (BitVec.ofNat 32 y).getLsbD 0 = decide (y % 2 = 1) := by
    rw [BitVec.getLsbD_ofNat]; simp [Nat.testBit_zero]
  unfold st
  rw [e, BitVec.toNat_xor]
  have e2 : (BitVec.ofNat 32 y >>> 1).toNat = y / 2 := by
    simp [Nat.shiftRight_eq_div_pow]; omega
  rw [e2]
  by_cases hc : y % 2 = 1
  · rw [if_pos hc, decide_eq_true hc]; rfl
  · rw [if_neg hc, decide_eq_false hc]; simp
theorem stn_next (j : Nat) (r : BitVec 32) : stn (j + 1) r = st (stn j r) := by rw [stn_add j 1]; rfl

set_option maxRecDepth 100000 in
set_option maxHeartbeats 1000000 in
theorem RSum_any (s : ByteArray) (w : World) (hs : s.size ≤ maxLen) :
    Calls Tryd.prog 22 #[.string s] w fun e w' => e = .returned (.int .i64 (crc s.data.toList)) ∧ w = w' := by
  unfold maxLen at hs
  go_enter Tryd.func22, Tryd.ntmps22
  go_wp2
  go_loop [3, 4, 5, 6] (fun r i _ _ => ∃ k x : Nat, k ≤ s.size ∧ i = .int .i64 k ∧ r = .int .u32 x ∧ Hid (x = (rg 4294967295#32 (s.data.toList.take k)).toNat)) (fun _ i _ _ => s.size - (intOf i).toNat)
  case atStart => exact ⟨0, 4294967295, by omega, rfl, rfl, rfl⟩
  case round =>
    obtain ⟨k, x, hk, rfl, rfl, hx⟩ := hrel
    have hxl : x < 4294967296 := by rw [hx.out]; exact (rg _ _).isLt
    by_cases hlt : k < s.size
    · have hbl : s[k].toNat < 256 := s[k].toNat_lt
      have x1 := u32_xor_nat x s[k].toNat hxl (by omega)
      obtain ⟨y, hy⟩ : ∃ y : Nat, Hid (y = x ^^^ s[k].toNat) := ⟨x ^^^ s[k].toNat, rfl⟩
      have hyl : y < 4294967296 := by rw [hy.out]; exact Nat.xor_lt_two_pow (n := 32) hxl (by omega)
      have x1' : bits .xor .u32 (x : Int) ((s[k].toNat : Int) % 4294967296) = (y : Int) := by rw [Int.emod_eq_of_lt (by omega) (by omega), x1, hy.out]
      clear x1 hbl
      go_wp2
      go_loop [3, 5, 6] (fun r i _ => ∃ j z : Nat, j ≤ 8 ∧ i = .int .i64 j ∧ r = .int .u32 z ∧ z < 4294967296 ∧ Hid (BitVec.ofNat 32 z = stn j (BitVec.ofNat 32 y))) (fun _ i _ => 8 - (intOf i).toNat)
      case atStart => exact ⟨0, y, by omega, rfl, rfl, hyl, rfl⟩
      case round =>
        obtain ⟨j, z, hj, rfl, rfl, hzl, hz⟩ := hrel
        by_cases hj8 : j < 8
        · have hst : Hid ((st (BitVec.ofNat 32 z)).toNat = if z % 2 = 1 then (z / 2) ^^^ 2197175160 else z / 2) := st_val z hzl
          have hnx : Hid (BitVec.ofNat 32 (st (BitVec.ofNat 32 z)).toNat = stn (j + 1) (BitVec.ofNat 32 y)) := by
            show _ = _
            rw [BitVec.ofNat_toNat, BitVec.setWidth_eq, hz.out, stn_next]
          have hx2 := u32_xor_nat (z / 2) 2197175160 (by omega) (by omega)
          have hl2 := Nat.xor_lt_two_pow (n := 32) (x := z / 2) (y := 2197175160) (by omega) (by omega)
          by_cases h2 : z % 2 = 1
          · have t1 : ((z : Int) % 2 == 1) = true := beq_iff_eq.2 (by omega)
            rw [hst.out, if_pos h2] at hnx
            generalize hq : z / 2 ^^^ 2197175160 = q at *
            have hq := Lib.hid hq
            simp only [Int.natCast_ediv, Int.cast_ofNat_Int] at hx2
            have hl2 := Lib.hid hl2
            go_wp2
            go_round
            case rel => exact ⟨j + 1, q, by omega, by go_num, rfl, by have := hl2.out; omega, hnx⟩
            case measure => simp [intOf]; omega
          · have t1 : ((z : Int) % 2 == 1) = false := beq_eq_false_iff_ne.2 (by omega)
            rw [hst.out, if_neg h2] at hnx
            clear hx2 hl2
            go_wp2
            go_round
            case rel => exact ⟨j + 1, z / 2, by omega, by go_num, by go_num, by omega, hnx⟩
            case measure => simp [intOf]; omega
        · obtain rfl : j = 8 := by omega
          clear x1'
          go_wp2
          go_round
          case rel =>
            refine ⟨k + 1, z, by omega, by go_num, rfl, ?_⟩
            show _ = _
            have h6 : z = (BitVec.ofNat 32 z).toNat := by rw [BitVec.toNat_ofNat, Nat.mod_eq_of_lt hzl]
            rw [h6, hz.out, take_succ' s k hlt, rg_snoc, hy.out, hx.out]
            congr 2
            apply BitVec.eq_of_toNat_eq
            have hb : s[k].toNat < 256 := s[k].toNat_lt
            have h5 := Nat.xor_lt_two_pow (n := 32) (rg 4294967295#32 (List.take k s.data.toList)).isLt (show s[k].toNat < 2 ^ 32 by omega)
            rw [BitVec.toNat_ofNat, Nat.mod_eq_of_lt h5, BitVec.toNat_xor, BitVec.toNat_ofNat, Nat.mod_eq_of_lt (a := s[k].toNat) (by omega)]
          case measure => simp [intOf]; omega
    · obtain rfl : k = s.size := by omega
      have hl := Nat.xor_lt_two_pow (n := 32) (x := 4294967295) (y := x) (by omega) hxl
      have hl := Lib.hid hl
      go_wp2
      go_ret
      refine ⟨ret_int ?_, rfl⟩
      have hl := hl.out
      rw [show IntKind.u32.max = ((4294967295 : Nat) : Int) from rfl, u32_xor_nat _ _ (by omega) hxl, IntWalk.wrap64_in _ ⟨by omega, by omega⟩, hx.out, List.take_of_length_le (by simp)]
      rfl

/-- 'PutString' of the reference. -/
theorem RPutString_any (s : ByteArray) (w : World) (hs : s.size ≤ 65536) :
    Calls Tryd.prog 20 #[.string s] w fun e w' => e = .returned (.tuple #[.string ⟨(putL s.size ++ s.data.toList).toArray⟩, .int .i64 0]) ∧ Below w.heap.size w w' := by
  have hl := (putL_len s.size).2
  go_enter Tryd.func20, Tryd.ntmps20
  go_wp2_with fail
  refine (RPutInt_any _ _ (by omega) (by omega)).mono ?_
  rintro e w' ⟨rfl, hb⟩
  go_wp2
  rw [put_append]
  go_ret2
  exact ⟨rfl, hb⟩

/-! ### 'Int' of the reference -/
theorem RInt_arg (s : ByteArray) (at_ : Int) (w : World) (_hs : s.size ≤ maxLen) (h : at_ < 0 ∨ (s.size : Int) < at_) (h1 : -9223372036854775808 ≤ at_) (h2 : at_ ≤ 9223372036854775807) :
    Calls Tryd.prog 16 #[.string s, .int .i64 at_] w fun e w' => e = .returned (.tuple #[.int .i64 0, .int .i64 0, .int .i64 2]) ∧ w = w' := by
  unfold maxLen at _hs
  by_cases hc : at_ < 0
  · go_enter Tryd.func16, Tryd.ntmps16
    go_wp2
    go_ret3
    exact ⟨rfl, rfl⟩
  · have hc' : (s.size : Int) < at_ := by omega
    go_enter Tryd.func16, Tryd.ntmps16
    go_wp2
    go_ret3
    exact ⟨rfl, rfl⟩

theorem getL_jr (l : List UInt8) (a : Nat) (p : Nat × Nat) (h : jn 9 true (l.drop a) = some p) : getL l a = if p.1 ≤ 9223372036854775806 then some (unfoldI p.1, a + p.2) else none := by
  unfold getL; rw [h]
theorem JI_jn (L : List UInt8) (k z : Nat) (c : UInt8) (r : List UInt8) (hk : k < 9) (h : JI L k z) (hd : L.drop k = c :: r) (hc : c.toNat < 128) :
    jn 9 true L = if c.toNat = 0 ∧ 0 < k then none else some (z + c.toNat % 128 * 128 ^ k, k + 1) := by
  rw [JI_open L k z c r hk h hd, if_neg (by omega)]
  by_cases h0 : c.toNat = 0 ∧ 0 < k
  · rw [if_pos h0, if_pos ⟨h0.1, by simp; omega⟩]; rfl
  · rw [if_neg h0, if_neg (by rintro ⟨a, b⟩; exact h0 ⟨a, by simp at b; omega⟩)]
    simp
    rw [Nat.mod_eq_of_lt hc, Nat.mul_comm]
/-- Where the groups end: what the number is, and what the reference compares. -/
theorem ref_stop (L : List UInt8) (a k z : Nat) (c : UInt8) (r : List UInt8) (hk : k < 9) (h : JI (L.drop a) k z) (hd : (L.drop a).drop k = c :: r) (hc : c.toNat < 128) :
    z + c.toNat % 128 * 128 ^ k < 128 ^ 9 ∧
    ((∃ n m, getL L a = some (n, m) ∧ z + c.toNat % 128 * 128 ^ k ≤ 9223372036854775806 ∧ unfoldI (z + c.toNat % 128 * 128 ^ k) = n ∧ m = a + (k + 1) ∧ (L.drop a).take (k + 1) = putL n) ∨
     (getL L a = none ∧ (z + c.toNat % 128 * 128 ^ k ≤ 9223372036854775806 → (L.drop a).take (k + 1) ≠ putL (unfoldI (z + c.toNat % 128 * 128 ^ k))))) := by
  have hlt : z + c.toNat % 128 * 128 ^ k < 128 ^ 9 := by
    have h1 := h.1
    have h2 : c.toNat % 128 * 128 ^ k ≤ 127 * 128 ^ k := Nat.mul_le_mul_right _ (by omega)
    have h3 : 128 ^ (k + 1) ≤ 128 ^ 9 := Nat.pow_le_pow_right (by omega) (by omega)
    rw [Nat.pow_succ] at h3
    omega
  refine ⟨hlt, ?_⟩
  have hj := JI_jn _ k z c r hk h hd hc
  generalize z + c.toNat % 128 * 128 ^ k = q at *
  by_cases h0 : c.toNat = 0 ∧ 0 < k
  · rw [if_pos h0] at hj
    right
    refine ⟨by unfold getL; rw [hj], fun hq he => ?_⟩
    have e : L.drop a = putL (unfoldI q) ++ (L.drop a).drop (k + 1) := by rw [← he, List.take_append_drop]
    unfold putL at e
    rw [fold_unfold] at e
    have := jn_enc 8 q true ((L.drop a).drop (k + 1)) hlt (.inl rfl)
    rw [← e, hj] at this
    cases this
  · rw [if_neg h0] at hj
    have hg := getL_jr L a _ hj
    by_cases hq : q ≤ 9223372036854775806
    · left
      rw [if_pos hq] at hg
      obtain ⟨s1, s2, s3, s4, _⟩ := jn_sound 8 true _ _ _ hj
      exact ⟨_, _, hg, hq, rfl, rfl, by rw [s3, putL, fold_unfold]⟩
    · right
      rw [if_neg hq] at hg
      exact ⟨hg, fun h => absurd h hq⟩
theorem ref_end (L : List UInt8) (a k z : Nat) (h : JI (L.drop a) k z) (he : k = 9 ∨ (L.drop a).drop k = []) : getL L a = none := by
  have : jn 9 true (L.drop a) = none := by
    rw [h.2]
    rcases he with rfl | he
    · simp [jn]
    · rw [he]
      cases h : 9 - k <;> simp [jn]
  unfold getL; rw [this]
end Go.Proofs.YtimfhnnabocliaaDoor
