import Derived.Test.YtimfhnnabocliaaDoorH
namespace Go.Proofs.YtimfhnnabocliaaDoor
open Go.RowKit

theorem take_data (A : List UInt8) (k : Nat) : ((⟨A.toArray⟩ : ByteArray).extract 0 k).data.toList = A.take k := by
  rw [Lib.extract_data]; simp
theorem mk_size (A : List UInt8) : (⟨A.toArray⟩ : ByteArray).size = A.length := rfl
theorem Int_cut (n : Int) (k : Nat) (w : World) (h1 : -4611686018427387903 ≤ n) (h2 : n ≤ 4611686018427387903) (hk : k < (putL n).length) :
    Calls Tryd.prog 15 #[.string ((⟨(putL n).toArray⟩ : ByteArray).extract 0 k), .int .i64 0] w fun e w' => e = .returned (.tuple #[.int .i64 0, .int .i64 0, .int .i64 10]) ∧ w = w' := by
  have hl := (putL_len n).2
  exact Int_none _ 0 w (by unfold maxLen; simp; omega) (by omega) (by rw [take_data]; exact getL_cut n k h1 h2 hk)
theorem String_cut (t : ByteArray) (k : Nat) (w : World) (ht : t.size ≤ 65536) (hk : k < (putL t.size ++ t.data.toList).length) :
    Calls Tryd.prog 17 #[.string ((⟨(putL t.size ++ t.data.toList).toArray⟩ : ByteArray).extract 0 k), .int .i64 0] w fun e w' => e = .returned (.tuple #[.string ⟨#[]⟩, .int .i64 0, .int .i64 10]) ∧ Below w.heap.size w w' := by
  have hl := (putL_len t.size).2
  have hl2 : (putL t.size ++ t.data.toList).length ≤ 70000 := by rw [List.length_append, data_len]; omega
  exact String_none _ 0 w (by simp; omega) (by omega) (by
    have := getT_cut t.data.toList k (by rw [data_len]; exact ht) (by rw [data_len]; exact hk)
    rw [data_len] at this
    rw [take_data]; exact this)

set_option maxRecDepth 100000 in
set_option maxHeartbeats 1000000 in
theorem Truncated_walk (c d at_ : Int) (text : ByteArray) (w : World) (h1 : -9223372036854775808 ≤ c) (h2 : c ≤ 9223372036854775807) (h3 : -9223372036854775808 ≤ d) (h4 : d ≤ 9223372036854775807) (h5 : -9223372036854775808 ≤ at_) (h6 : at_ ≤ 9223372036854775807) (ht : text.size ≤ maxLen) (hT : Tab w) :
    Calls Tryd.prog 7 #[.int .i64 c, .int .i64 d, .string text, .int .i64 at_] w fun e w' => e = .returned (.bool true) ∧ Below w.heap.size w w' := by
  unfold maxLen at ht
  obtain ⟨m2, hm2, l2, k2⟩ : ∃ m, Hid (m = min text.size 200) ∧ m ≤ 200 ∧ m ≤ text.size := ⟨_, rfl, by omega, by omega⟩
  have r2 : ∀ ts t w, (Builtin.min_ ts t #[.int .i64 (text.size : Int), .int .i64 200]).run Tryd.prog w = .ok (.int .i64 (m2 : Int)) w := fun ts t w => by rw [hm2.out]; exact min_run _ 200 _ _ _ _ rfl
  have nb := numF_bd c
  have nd := numF_bd d
  have hC := fun W => NumberFrom_any c W h1 h2
  have hD := fun W => NumberFrom_any d W h3 h4
  have hP : numF c ≠ numF d → (putL (numF d)).take (putL (numF c)).length ≠ putL (numF c) := fun hn he => hn (putL_prefix _ _ nb.1 nb.2 nd.1 nd.2 he)
  generalize numF c = nc at *
  generalize numF d = n2 at *
  have hC := Lib.hid hC
  have hD := Lib.hid hD
  have hP := Lib.hid hP
  obtain ⟨b1, b2⟩ := nb
  obtain ⟨d1, d2⟩ := nd
  go_enter Tryd.func7, Tryd.ntmps7
  go_wp2_with fail
  refine (sane_any _ hT).mono ?_
  rintro e w1 ⟨rfl, hb1⟩
  go_wp2_with fail
  refine (hC.out _).mono ?_
  rintro e w2 ⟨rfl, hb2⟩
  have B2 : Below w.heap.size w w2 := hb1.trans (hb2.mono hb1.size)
  clear hb1 hb2
  go_wp2_with fail
  refine (PutInt_any _ _ b1 b2).mono ?_
  rintro e w3 ⟨rfl, hb3⟩
  have B3 : Below w.heap.size w w3 := B2.trans (hb3.mono B2.size)
  clear hb3 B2
  go_wp2_with fail
  refine (hD.out _).mono ?_
  rintro e w4 ⟨rfl, hb4⟩
  have B4 : Below w.heap.size w w4 := B3.trans (hb4.mono B3.size)
  clear hb4 B3
  go_wp2_with fail
  refine (PutInt_any _ _ d1 d2).mono ?_
  rintro e w5 ⟨rfl, hb5⟩
  have B5 : Below w.heap.size w w5 := B4.trans (hb5.mono B4.size)
  clear hb5 B4
  go_wp2_with fail
  have e2 := cut_size text m2 k2
  generalize text.extract 0 m2 = T at *
  have pT : T.size ≤ 200 := by omega
  clear e2 r2
  refine (PutString_any _ _ (by omega)).mono ?_
  rintro e w6 ⟨rfl, hb6⟩
  have B6 : Below w.heap.size w w6 := B5.trans (hb6.mono B5.size)
  clear hb6 B5
  have la := putL_len nc
  have lb := putL_len n2
  have lt := putL_len T.size
  have lt2 : 1 ≤ (putL T.size ++ T.data.toList).length ∧ (putL T.size ++ T.data.toList).length ≤ 300 := by rw [List.length_append, data_len]; omega
  have hI := fun k W hk => Int_cut nc k W b1 b2 hk
  have hS := fun k W hk => String_cut T k W (by omega) hk
  have hE : nc = n2 → putL n2 = putL nc := fun e => by rw [e]
  generalize putL nc = A at *
  generalize putL n2 = A2 at *
  have hE := Lib.hid hE
  generalize putL T.size ++ T.data.toList = C at *
  have hI := Lib.hid hI
  have hS := Lib.hid hS
  clear lt
  obtain ⟨la1, la2⟩ := la
  obtain ⟨lb1, lb2⟩ := lb
  obtain ⟨lt1, lt2⟩ := lt2
  have z1 : ((A.length : Int) == 0) = false := beq_eq_false_iff_ne.2 (by omega)
  have z2 : ((C.length : Int) == 0) = false := beq_eq_false_iff_ne.2 (by omega)
  go_wp2_with fail
  obtain ⟨ka, hka⟩ := Int.eq_ofNat_of_zero_le (pk_lo at_ A.length (by omega))
  have hkl := pk_lt at_ A.length (by omega)
  rw [hka] at hkl
  obtain ⟨kc, hkc⟩ := Int.eq_ofNat_of_zero_le (pk_lo at_ C.length (by omega))
  have hkc2 := pk_lt at_ C.length (by omega)
  rw [hkc] at hkc2
  have hka := Lib.hid hka
  have hkc := Lib.hid hkc
  refine (pick_any _ _ _ h5 h6 (by omega) (by omega)).mono ?_
  rw [hka.out]
  rintro e w7 ⟨rfl, rfl⟩
  go_wp2_with fail
  refine (hI.out ka _ (by omega)).mono ?_
  rintro e w7 ⟨rfl, rfl⟩
  go_wp2_with fail
  refine (pick_any _ _ _ h5 h6 (by omega) (by omega)).mono ?_
  rw [hkc.out]
  rintro e w7 ⟨rfl, rfl⟩
  go_wp2_with fail
  refine (hS.out kc _ (by omega)).mono ?_
  rintro e w7 ⟨rfl, hb7⟩
  have B7 : Below w.heap.size w w7 := B6.trans (hb7.mono B6.size)
  clear hb7 B6
  go_wp2_with fail
  all_goals
    refine (hC.out _).mono ?_
    rintro e w8 ⟨rfl, hb8⟩
    have B8 : Below w.heap.size w w8 := B7.trans (hb8.mono B7.size)
    clear hb8
    go_wp2_with fail
    refine (hD.out _).mono ?_
    rintro e w9 ⟨rfl, hb9⟩
    have B9 : Below w.heap.size w w9 := B8.trans (hb9.mono B8.size)
    clear hb9
    go_wp2
    go_ret
    refine ⟨?_, B9⟩
    refine congrArg (fun b => Ending.returned (.bool b)) ?_
  · rw [Lib.toList_data, take_data]
    by_cases hn : nc = n2
    · rw [hE.out hn, hn]; simp
    · have := hP.out hn
      rw [beq_eq_false_iff_ne.2 hn, beq_eq_false_iff_ne.2 this]; rfl
  · have hlen : ¬ A.length ≤ A2.length := by assumption
    have hn : nc ≠ n2 := fun e => hlen (by rw [hE.out e]; exact Nat.le_refl _)
    rw [beq_eq_false_iff_ne.2 hn]; rfl
end Go.Proofs.YtimfhnnabocliaaDoor
