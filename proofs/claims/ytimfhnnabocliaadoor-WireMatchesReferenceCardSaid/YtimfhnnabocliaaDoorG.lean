import Derived.Test.YtimfhnnabocliaaDoorF
namespace Go.Proofs.YtimfhnnabocliaaDoor
open Go.RowKit
theorem p1 : putL (-64) = [127] := by decide
theorem p2 : putL 64 = [128, 1] := by decide
theorem g1 : getL [97, 172, 2, 98] 1 = some (150, 3) := by decide
theorem g2 : getL [128, 0] 0 = none := by decide
theorem p3 : putL 2 = [4] := by decide
theorem t1 : getT [4, 97, 98, 99] 0 = some ([97, 98], 3) := by decide
theorem t2 : getT [4, 97] 0 = none := by decide
theorem s1 : crc [49, 50, 51, 52, 53, 54, 55, 56, 57] = 3808858755 := by decide +kernel

theorem i1 (w : World) : Calls Tryd.prog 15 #[.string { data := #[97, 172, 2, 98] }, .int .i64 1] w fun e w' => e = .returned (.tuple #[.int .i64 150, .int .i64 3, .int .i64 0]) ∧ w = w' :=
  Int_ok ⟨#[97, 172, 2, 98]⟩ 1 150 3 w (by decide) (by decide) g1
theorem i2 (w : World) : Calls Tryd.prog 15 #[.string { data := #[128, 0] }, .int .i64 0] w fun e w' => e = .returned (.tuple #[.int .i64 0, .int .i64 0, .int .i64 10]) ∧ w = w' :=
  Int_none ⟨#[128, 0]⟩ 0 w (by decide) (by decide) g2
theorem u1 (w : World) : Calls Tryd.prog 19 #[.string { data := #[97, 98] }] w fun e w' => e = .returned (.tuple #[.string { data := #[4, 97, 98] }, .int .i64 0]) ∧ Below w.heap.size w w' := by
  have h := PutString_any ⟨#[97, 98]⟩ w (by decide)
  rw [show (((⟨#[97, 98]⟩ : ByteArray).size : Nat) : Int) = 2 from rfl, p3] at h
  exact h
theorem v1 (w : World) : Calls Tryd.prog 17 #[.string { data := #[4, 97, 98, 99] }, .int .i64 0] w fun e w' => e = .returned (.tuple #[.string { data := #[97, 98] }, .int .i64 3, .int .i64 0]) ∧ Below w.heap.size w w' :=
  String_ok ⟨#[4, 97, 98, 99]⟩ 0 [97, 98] 3 w (by decide) (by decide) t1
theorem v2 (w : World) : Calls Tryd.prog 17 #[.string { data := #[4, 97] }, .int .i64 0] w fun e w' => e = .returned (.tuple #[.string { data := #[] }, .int .i64 0, .int .i64 10]) ∧ Below w.heap.size w w' :=
  String_none ⟨#[4, 97]⟩ 0 w (by decide) (by decide) t2
theorem i3 (w : World) : Calls Tryd.prog 15 #[.string { data := #[] }, .int .i64 1] w fun e w' => e = .returned (.tuple #[.int .i64 0, .int .i64 0, .int .i64 2]) ∧ w = w' :=
  Int_arg ⟨#[]⟩ 1 w (by decide) (.inr (by decide)) (by omega) (by omega)
theorem c1 (w : World) (hT : Tab w) : Calls Tryd.prog 21 #[.string { data := #[49, 50, 51, 52, 53, 54, 55, 56, 57] }] w fun e w' => e = .returned (.int .i64 3808858755) ∧ w = w' := by
  have h := Sum_any ⟨#[49, 50, 51, 52, 53, 54, 55, 56, 57]⟩ w (by decide) hT
  rw [show (⟨#[49, 50, 51, 52, 53, 54, 55, 56, 57]⟩ : ByteArray).data.toList = [49, 50, 51, 52, 53, 54, 55, 56, 57] from rfl, s1] at h
  exact h

set_option maxRecDepth 100000 in
set_option maxHeartbeats 1000000 in
theorem sane_any (w : World) (hT : Tab w) :
    Calls Tryd.prog 10 #[] w fun e w' => e = .returned (.bool true) ∧ Below w.heap.size w w' := by
  have hT := Lib.hid hT
  go_enter Tryd.func10, Tryd.ntmps10
  go_wp2_with fail
  refine (PutInt_any _ _ (by omega) (by omega)).mono ?_
  rw [p1]
  rintro e w1 ⟨rfl, hb1⟩
  go_wp2_with fail
  refine (PutInt_any _ _ (by omega) (by omega)).mono ?_
  rw [p2]
  rintro e w2 ⟨rfl, hb2⟩
  go_wp2_with fail
  refine (i1 _).mono ?_
  rintro e w3 ⟨rfl, rfl⟩
  go_wp2_with fail
  refine (i2 _).mono ?_
  rintro e w3 ⟨rfl, rfl⟩
  go_wp2_with fail
  refine (u1 _).mono ?_
  rintro e w3 ⟨rfl, hb3⟩
  go_wp2_with fail
  refine (v1 _).mono ?_
  rintro e w4 ⟨rfl, hb4⟩
  go_wp2_with fail
  refine (v2 _).mono ?_
  rintro e w5 ⟨rfl, hb5⟩
  go_wp2_with fail
  refine (PutInt_bad _ _ (by omega) (by omega) (by omega)).mono ?_
  rintro e w6 ⟨rfl, hb6⟩
  go_wp2_with fail
  refine (i3 _).mono ?_
  rintro e w7 ⟨rfl, rfl⟩
  have z1 := hb1.size
  have z2 := hb2.size
  have z3 := hb3.size
  have z4 := hb4.size
  have z5 := hb5.size
  have B : Below w.heap.size w w6 := hb1.trans ((hb2.mono (by omega)).trans ((hb3.mono (by omega)).trans ((hb4.mono (by omega)).trans ((hb5.mono (by omega)).trans (hb6.mono (by omega))))))
  clear hb1 hb2 hb3 hb4 hb5 hb6 z1 z2 z3 z4 z5
  go_wp2_with fail
  refine (c1 _ (hT.out.below B)).mono ?_
  rintro e w7 ⟨rfl, rfl⟩
  go_wp2
  go_ret
  exact ⟨rfl, B⟩
end Go.Proofs.YtimfhnnabocliaaDoor
