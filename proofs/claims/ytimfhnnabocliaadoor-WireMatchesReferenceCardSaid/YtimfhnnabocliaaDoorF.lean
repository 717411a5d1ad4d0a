import Derived.Test.YtimfhnnabocliaaDoorE
import Derived.Test.YtimfhnnabocliaaDoorN
namespace Go.Proofs.YtimfhnnabocliaaDoor
open Go.RowKit
/-- the table of four steps lies in block 0 -/
def Tab (w : World) : Prop := ∀ j, j < 16 → w.cell? ⟨0, j, none⟩ = some (.int .u32 (hv.getD j 0))
theorem Tab.below {w w' : World} (h : Tab w) (hb : Below w.heap.size w w') : Tab w' := fun j hj => by
  have h0 : 0 < w.heap.size := by
    have := h j hj
    unfold World.cell? at this
    by_cases e : 0 < w.heap.size
    · exact e
    · simp [Array.getElem?_eq_none (show w.heap.size ≤ 0 by omega)] at this
  rw [hb.cell (p := ⟨0, j, none⟩) h0]; exact h j hj

theorem take_succ' (s : ByteArray) (k : Nat) (h : k < s.size) : s.data.toList.take (k + 1) = s.data.toList.take k ++ [s[k]] := by
  rw [List.take_succ_eq_append_getElem (by simpa using h)]; rfl
/-- one half of a byte's steps, as the text does them: what is read, and what comes of it -/
theorem half (w : World) (hT : Tab w) (y : Nat) (h : y < 4294967296) :
    ∃ t z : Nat, w.cell? ⟨0, y % 16, none⟩ = some (.int .u32 t) ∧ bits .xor .u32 ((y : Int) / 16) (t : Int) = (z : Int) ∧ z < 4294967296 ∧ Hid (z = (stn 4 (BitVec.ofNat 32 y)).toNat) := by
  refine ⟨(stn 4 (BitVec.ofNat 32 (y % 16))).toNat, (stn 4 (BitVec.ofNat 32 y)).toNat, ?_, ?_, (stn 4 _).isLt, rfl⟩
  · rw [hT _ (by omega), hv_at _ (by omega)]
  · rw [← four_steps y h, ← u32_xor_nat _ _ (by omega) (stn 4 _).isLt]; simp

set_option maxRecDepth 100000 in
theorem Sum_any (s : ByteArray) (w : World) (hs : s.size ≤ maxLen) (hT : Tab w) :
    Calls Tryd.prog 21 #[.string s] w fun e w' => e = .returned (.int .i64 (crc s.data.toList)) ∧ w = w' := by
  unfold maxLen at hs
  go_enter Tryd.func21, Tryd.ntmps21
  go_wp2
  go_loop [3, 4, 7] (fun r _ i => ∃ k x : Nat, k ≤ s.size ∧ i = .int .i64 k ∧ r = .int .u32 x ∧ Hid (x = (rg 4294967295#32 (s.data.toList.take k)).toNat)) (fun _ _ i => s.size - (intOf i).toNat)
  case atStart => exact ⟨0, 4294967295, by omega, rfl, rfl, rfl⟩
  case round =>
    obtain ⟨k, x, hk, rfl, rfl, hx⟩ := hrel
    have hxl : x < 4294967296 := by rw [hx.out]; exact (rg _ _).isLt
    by_cases hlt : k < s.size
    · have hbl : s[k].toNat < 256 := s[k].toNat_lt
      have x1 := u32_xor_nat x s[k].toNat hxl (by omega)
      obtain ⟨y, hy⟩ : ∃ y : Nat, Hid (y = x ^^^ s[k].toNat) := ⟨x ^^^ s[k].toNat, rfl⟩
      have hyl : y < 4294967296 := by rw [hy.out]; exact Nat.xor_lt_two_pow (n := 32) hxl (by omega)
      have x1' : bits .xor .u32 (x : Int) ((s[k].toNat : Int) % 4294967296) = (y : Int) := by rw [Int.emod_eq_of_lt (by omega) (by omega), x1, hy.out]
      clear x1 hbl
      obtain ⟨t1, y1, c1, x2, hy1, e1⟩ := half w hT y hyl
      obtain ⟨t2, y2, c2, x3, hy2, e2⟩ := half w hT y1 hy1
      go_wp2
      go_round
      case rel =>
        refine ⟨k + 1, y2, by omega, by go_num, rfl, ?_⟩
        show _ = _
        rw [take_succ' s k hlt, rg_snoc, e2.out, e1.out, hy.out, hx.out]
        rw [show (8 : Nat) = 4 + 4 from rfl, stn_add]
        congr 1
        rw [BitVec.ofNat_toNat, BitVec.setWidth_eq]
        congr 2
        apply BitVec.eq_of_toNat_eq
        have hb : s[k].toNat < 256 := s[k].toNat_lt
        have h5 := Nat.xor_lt_two_pow (n := 32) (rg 4294967295#32 (List.take k s.data.toList)).isLt (show s[k].toNat < 2 ^ 32 by omega)
        rw [BitVec.toNat_ofNat, Nat.mod_eq_of_lt h5, BitVec.toNat_xor, BitVec.toNat_ofNat, Nat.mod_eq_of_lt (a := s[k].toNat) (by omega)]
      case measure => simp [intOf]; omega
    · obtain rfl : k = s.size := by omega
      have hl := Nat.xor_lt_two_pow (n := 32) (x := 4294967295) (y := x) (by omega) hxl
      have hl := Lib.hid hl
      go_wp2
      go_ret
      refine ⟨ret_int ?_, rfl⟩
      have hl := hl.out
      rw [show IntKind.u32.max = ((4294967295 : Nat) : Int) from rfl, u32_xor_nat _ _ (by omega) hxl, IntWalk.wrap64_in _ ⟨by omega, by omega⟩, hx.out, List.take_of_length_le (by simp)]
      rfl
end Go.Proofs.YtimfhnnabocliaaDoor
