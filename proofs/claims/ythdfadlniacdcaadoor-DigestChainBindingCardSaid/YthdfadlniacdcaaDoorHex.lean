import Derived.Test.YthdfadlniacdcaaDoorExu
namespace Go.Proofs.YthdfadlniacdcaaDoor
open Go.RowKit
/-- the digits -/
def digs : ByteArray := ⟨#[48, 49, 50, 51, 52, 53, 54, 55, 56, 57, 97, 98, 99, 100, 101, 102]⟩
/-- the first i bytes in hexadecimal -/
def hexTo (s : ByteArray) : Nat → ByteArray
  | 0 => ⟨#[]⟩
  | i + 1 => hexTo s i ++ digs.extract ((s.data.toList.getD i 0).toNat / 16) ((s.data.toList.getD i 0).toNat / 16 + 1) ++ digs.extract ((s.data.toList.getD i 0).toNat % 16) ((s.data.toList.getD i 0).toNat % 16 + 1)
theorem hexTo_len (s : ByteArray) (i : Nat) : (hexTo s i).size ≤ 2 * i := by
  induction i with
  | zero => exact Nat.le_refl _
  | succ i ih =>
    rw [hexTo, ByteArray.size_append, ByteArray.size_append]
    have h1 : (digs.extract ((s.data.toList.getD i 0).toNat / 16) ((s.data.toList.getD i 0).toNat / 16 + 1)).size ≤ 1 := by rw [ByteArray.size_extract]; omega
    have h2 : (digs.extract ((s.data.toList.getD i 0).toNat % 16) ((s.data.toList.getD i 0).toNat % 16 + 1)).size ≤ 1 := by rw [ByteArray.size_extract]; omega
    omega

set_option maxRecDepth 100000 in
set_option maxHeartbeats 1000000 in
theorem hex_any (s : ByteArray) (w : World) (hs : s.size ≤ 1000) :
    Calls Tryd.prog 39 #[.string s] w fun e w' => e = .returned (.string (hexTo s s.size)) ∧ Below w.heap.size w w' := by
  go_enter Tryd.func39, Tryd.ntmps39
  go_wp2_with fail
  go_loopw [3, 4] (fun v iv wr => ∃ (i : Nat) (o : ByteArray), i ≤ s.size ∧ iv = .int .i64 i ∧ v = .string o ∧ o.size ≤ 2000 ∧ Hid (o = hexTo s i) ∧ Below w.heap.size w wr) (fun _ iv _ => s.size - (intOf iv).toNat)
  case atStart => exact ⟨0, _, by omega, rfl, rfl, by decide, rfl, Below.refl _ _⟩
  case round =>
    obtain ⟨i, o, hi, rfl, rfl, hol, ho, B⟩ := hrel
    by_cases hlt : i < s.size
    · have hb : s[i].toNat < 256 := UInt8.toNat_lt _
      have hg : s.data.toList.getD i 0 = s[i] := by
        have h2 : i < s.data.toList.length := by simpa using hlt
        simp [List.getD, List.getElem?_eq_getElem h2]; rfl
      have hst : Hid (hexTo s (i + 1) = o ++ digs.extract (s[i].toNat / 16) (s[i].toNat / 16 + 1) ++ digs.extract (s[i].toNat % 16) (s[i].toNat % 16 + 1)) := by show _ = _; rw [hexTo, hg, ho.out]
      clear hg
      have x1 : (s[i].toNat : Int) / 16 = ((s[i].toNat / 16 : Nat) : Int) := by simp
      have x2 : (s[i].toNat : Int).tmod 16 = ((s[i].toNat % 16 : Nat) : Int) := by rw [Int.tmod_eq_emod_of_nonneg (by omega)]; simp
      have x3 : (s[i].toNat : Int) % 16 = ((s[i].toNat % 16 : Nat) : Int) := by simp
      have y1 : s[i].toNat / 16 < 16 := by omega
      have y2 : s[i].toNat % 16 < 16 := by omega
      obtain ⟨p, hp⟩ : ∃ p, p = s[i].toNat / 16 := ⟨_, rfl⟩
      obtain ⟨q, hq⟩ : ∃ q, q = s[i].toNat % 16 := ⟨_, rfl⟩
      rw [← hp] at x1 y1 hst
      rw [← hq] at x2 x3 y2 hst
      clear hp hq
      have w1 : IntKind.u8.wrap (p : Int) = p := IntWalk.u8_in _ (by omega)
      have w2 : IntKind.u8.wrap ((p : Int) + 1) = ((p + 1 : Nat) : Int) := IntWalk.u8_in _ (by omega)
      have w3 : IntKind.u8.wrap (q : Int) = q := IntWalk.u8_in _ (by omega)
      have w4 : IntKind.u8.wrap ((q : Int) + 1) = ((q + 1 : Nat) : Int) := IntWalk.u8_in _ (by omega)
      have i0 : (0 : Int) ≤ (i : Int) := by omega
      have i1 : (i : Int) < (s.size : Int) := by omega
      go_wp2_with fail
      go_quiet (fail)
      go_wp2_with fail
      go_roundw
      case rel =>
        have hsz := hexTo_len s (i + 1)
        rw [hst.out] at hsz
        exact ⟨i + 1, o ++ digs.extract p (p + 1) ++ digs.extract q (q + 1), by omega, by go_num, rfl, by omega, by show _ = _; rw [hst.out], below_drewN B nq⟩
      case measure => simp [intOf]; omega
    · obtain rfl : i = s.size := by omega
      go_wp2_with fail
      go_ret
      exact ⟨by rw [← ho.out]; rfl, B⟩
end Go.Proofs.YthdfadlniacdcaaDoor
