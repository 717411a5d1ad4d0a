import Derived.Test.YtimfhnnabocliaaDoorG
namespace Go.Proofs.YtimfhnnabocliaaDoor
open Go.RowKit
/-- a string cut to at most m bytes -/
theorem min_run (x m : Nat) (ts : Array TypeId) (t : TypeId) (w : World) (c : Int) (hc : c = m) : (Builtin.min_ ts t #[.int .i64 (x : Int), .int .i64 c]).run Tryd.prog w = .ok (.int .i64 ((min x m : Nat) : Int)) w := by
  rw [run_min_int2]
  subst hc
  congr 2
  split <;> omega
theorem cut_size (s : ByteArray) (m : Nat) (h : m ≤ s.size) : (s.extract 0 m).size = m := by simp; omega

theorem cat3 (P Q : ByteArray) (A : List UInt8) : (P ++ ⟨A.toArray⟩ ++ Q).data.toList = P.data.toList ++ A ++ Q.data.toList := by simp
theorem cat3_size (P Q : ByteArray) (A : List UInt8) : (P ++ ⟨A.toArray⟩ ++ Q).size = P.size + A.length + Q.size := by
  simp only [ByteArray.size_append]; rfl
theorem data_len (s : ByteArray) : s.data.toList.length = s.size := by simp

/-- 'Int' reads what 'PutInt' returned, whatever surrounds it. -/
theorem Int_around (P Q : ByteArray) (n : Int) (w : World) (h1 : -4611686018427387903 ≤ n) (h2 : n ≤ 4611686018427387903) (hP : P.size ≤ 10000000) (hQ : Q.size ≤ 10000000) :
    Calls Tryd.prog 15 #[.string (P ++ ⟨(putL n).toArray⟩ ++ Q), .int .i64 (P.size : Int)] w fun e w' => e = .returned (.tuple #[.int .i64 n, .int .i64 ((P.size : Int) + ((putL n).length : Int)), .int .i64 0]) ∧ w = w' := by
  have hl := (putL_len n).2
  have hs := cat3_size P Q (putL n)
  have h := Int_ok (P ++ ⟨(putL n).toArray⟩ ++ Q) P.size n (P.size + (putL n).length) w (by unfold maxLen; omega) (by omega) (by
    have := getL_putL P.data.toList Q.data.toList n h1 h2
    rw [data_len] at this
    rw [cat3]; exact this)
  rw [Int.natCast_add] at h
  exact h
/-- 'String' reads what 'PutString' returned, whatever surrounds it. -/
theorem String_around (P Q t : ByteArray) (w : World) (ht : t.size ≤ 65536) (hP : P.size ≤ 10000000) (hQ : Q.size ≤ 10000000) :
    Calls Tryd.prog 17 #[.string (P ++ ⟨(putL t.size ++ t.data.toList).toArray⟩ ++ Q), .int .i64 (P.size : Int)] w fun e w' => e = .returned (.tuple #[.string t, .int .i64 ((P.size : Int) + ((putL t.size ++ t.data.toList).length : Int)), .int .i64 0]) ∧ Below w.heap.size w w' := by
  have hl := (putL_len t.size).2
  have hl2 : (putL t.size ++ t.data.toList).length ≤ 70000 := by rw [List.length_append, data_len]; omega
  have hs := cat3_size P Q (putL t.size ++ t.data.toList)
  have h := String_ok (P ++ ⟨(putL t.size ++ t.data.toList).toArray⟩ ++ Q) P.size t.data.toList (P.size + (putL t.size ++ t.data.toList).length) w (by omega) (by omega) (by
    have := getT_putT P.data.toList Q.data.toList t.data.toList (by rw [data_len]; exact ht)
    rw [data_len, data_len] at this
    rw [cat3]; exact this)
  rw [Int.natCast_add, Lib.mk_data] at h
  exact h

set_option maxRecDepth 100000 in
set_option maxHeartbeats 1000000 in
theorem RoundTrip_walk (c : Int) (text s0 s1 : ByteArray) (w : World) (h1 : -9223372036854775808 ≤ c) (h2 : c ≤ 9223372036854775807) (ht : text.size ≤ maxLen) (hs0 : s0.size ≤ maxLen) (hs1 : s1.size ≤ maxLen) (hT : Tab w) :
    Calls Tryd.prog 4 #[.int .i64 c, .string text, .agg #[.string s0, .string s1]] w fun e w' => e = .returned (.bool true) ∧ Below w.heap.size w w' := by
  unfold maxLen at ht hs0 hs1
  obtain ⟨m0, hm0, l0, k0⟩ : ∃ m, Hid (m = min s0.size 200) ∧ m ≤ 200 ∧ m ≤ s0.size := ⟨_, rfl, by omega, by omega⟩
  obtain ⟨m1, hm1, l1, k1⟩ : ∃ m, Hid (m = min s1.size 200) ∧ m ≤ 200 ∧ m ≤ s1.size := ⟨_, rfl, by omega, by omega⟩
  obtain ⟨m2, hm2, l2, k2⟩ : ∃ m, Hid (m = min text.size 200) ∧ m ≤ 200 ∧ m ≤ text.size := ⟨_, rfl, by omega, by omega⟩
  have r0 : ∀ ts t w, (Builtin.min_ ts t #[.int .i64 (s0.size : Int), .int .i64 200]).run Tryd.prog w = .ok (.int .i64 (m0 : Int)) w := fun ts t w => by rw [hm0.out]; exact min_run _ 200 _ _ _ _ rfl
  have r1 : ∀ ts t w, (Builtin.min_ ts t #[.int .i64 (s1.size : Int), .int .i64 200]).run Tryd.prog w = .ok (.int .i64 (m1 : Int)) w := fun ts t w => by rw [hm1.out]; exact min_run _ 200 _ _ _ _ rfl
  have r2 : ∀ ts t w, (Builtin.min_ ts t #[.int .i64 (text.size : Int), .int .i64 200]).run Tryd.prog w = .ok (.int .i64 (m2 : Int)) w := fun ts t w => by rw [hm2.out]; exact min_run _ 200 _ _ _ _ rfl
  have b0 : Below w.heap.size w (w.alloc (.cells #[.string s0, .string s1] 36)) := (Below.refl _ w).alloc (Nat.le_refl _) _
  have hT := hT.below b0
  have b0 := Lib.hid b0
  go_enter Tryd.func4, Tryd.ntmps4
  go_wp2_with fail
  refine (sane_any _ hT).mono ?_
  rintro e w1 ⟨rfl, hb1⟩
  go_wp2_with fail
  refine (NumberFrom_any _ _ h1 h2).mono ?_
  rintro e w2 ⟨rfl, hb2⟩
  have z1 := hb1.size
  have z2 := hb2.size
  simp only [World.size_alloc] at z1 hb1
  have c0 : w2.cell? ⟨w.heap.size, 0, none⟩ = some (.string s0) := by
    rw [hb2.cell (p := ⟨w.heap.size, 0, none⟩) (by simp; omega), hb1.cell (p := ⟨w.heap.size, 0, none⟩) (by simp), World.cell?_alloc_at _ _ _ _ rfl]; rfl
  have c1 : w2.cell? ⟨w.heap.size, 1, none⟩ = some (.string s1) := by
    rw [hb2.cell (p := ⟨w.heap.size, 1, none⟩) (by simp; omega), hb1.cell (p := ⟨w.heap.size, 1, none⟩) (by simp), World.cell?_alloc_at _ _ _ _ rfl]; rfl
  have B2 : Below w.heap.size w w2 := b0.out.trans ((hb1.mono (by omega)).trans (hb2.mono (by omega)))
  clear hb1 hb2 z1 z2 b0
  have nb := numF_bd c
  generalize numF c = n at *
  obtain ⟨n1, n2⟩ := nb
  go_wp2_with fail
  have e0 := cut_size s0 m0 k0
  have e1 := cut_size s1 m1 k1
  have e2 := cut_size text m2 k2
  generalize s0.extract 0 m0 = P at *
  generalize s1.extract 0 m1 = Q at *
  generalize text.extract 0 m2 = T at *
  have pP : P.size ≤ 200 := by omega
  have pQ : Q.size ≤ 200 := by omega
  have pT : T.size ≤ 200 := by omega
  clear e0 e1 e2 r0 r1 r2 c0 c1
  have la := (putL_len n).2
  have lt := (putL_len T.size).2
  have lt2 : (putL T.size ++ T.data.toList).length ≤ 300 := by rw [List.length_append, data_len]; omega
  refine (PutInt_any _ _ n1 n2).mono ?_
  rintro e w3 ⟨rfl, hb3⟩
  go_wp2_with fail
  refine (PutString_any _ _ (by omega)).mono ?_
  rintro e w4 ⟨rfl, hb4⟩
  generalize hA : putL n = A at *
  generalize hC : putL T.size ++ T.data.toList = C at *
  have hA := Lib.hid hA
  have hC := Lib.hid hC
  have hI := Int_around P Q n w4 n1 n2 (by omega) (by omega)
  have hS := String_around P Q T w4 (by omega) (by omega) (by omega)
  rw [hA.out] at hI
  rw [hC.out] at hS
  have hI := Lib.hid hI
  have hS := Lib.hid hS
  have z3 := hb3.size
  have B4 : Below w.heap.size w w4 := B2.trans ((hb3.mono B2.size).trans (hb4.mono (by have := B2.size; omega)))
  clear hb3 hb4 B2 z3
  go_wp2_with fail
  refine hI.out.mono ?_
  rintro e w5 ⟨rfl, rfl⟩
  go_wp2_with fail
  refine hS.out.mono ?_
  rintro e w5 ⟨rfl, hb5⟩
  have B5 : Below w.heap.size w w5 := B4.trans (hb5.mono B4.size)
  clear hb5 B4
  go_wp2
  go_ret
  exact ⟨rfl, B5⟩
end Go.Proofs.YtimfhnnabocliaaDoor
