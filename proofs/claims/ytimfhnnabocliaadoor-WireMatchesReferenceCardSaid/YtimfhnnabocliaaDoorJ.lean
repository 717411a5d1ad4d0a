import Derived.Test.YtimfhnnabocliaaDoorI
import Derived.RegionTactic
import Derived.ChangeAlike
import Derived.BigRegion
import Derived.Deep.QuietTactic
import Derived.BigQuiet
namespace Go.Proofs.YtimfhnnabocliaaDoor
open Go.RowKit

theorem PutString_list (t : List UInt8) (w : World) (hs : t.length ≤ 65536) :
    Calls Tryd.prog 19 #[.string ⟨t.toArray⟩] w fun e w' => e = .returned (.tuple #[.string ⟨(putL t.length ++ t).toArray⟩, .int .i64 0]) ∧ Below w.heap.size w w' :=
  PutString_any ⟨t.toArray⟩ w hs

/-- What 'Int' and then 'PutInt' come to at an offset of T. -/
theorem int_cases (T : ByteArray) (k : Nat) (hk : k ≤ T.size) :
    (getL T.data.toList k = none) ∨ ∃ (n : Int) (m : Nat), getL T.data.toList k = some (n, m) ∧ -4611686018427387903 ≤ n ∧ n ≤ 4611686018427387903 ∧ k < m ∧ m ≤ T.size ∧ ((T.extract k m).toList == putL n) = true := by
  cases h : getL T.data.toList k with
  | none => exact .inl rfl
  | some p =>
    obtain ⟨n, m⟩ := p
    obtain ⟨a1, a2, a3, a4, a5⟩ := getL_sound _ _ _ _ h
    rw [data_len] at a3
    exact .inr ⟨n, m, rfl, a1, a2, a4, a3 hk, by rw [Lib.toList_data, Lib.extract_data, a5]; simp⟩
/-- What 'String' and then 'PutString' come to. -/
theorem text_cases (T : ByteArray) (k : Nat) (hk : k ≤ T.size) :
    (getT T.data.toList k = none) ∨ ∃ (t : List UInt8) (m : Nat), getT T.data.toList k = some (t, m) ∧ t.length ≤ 65536 ∧ k ≤ m ∧ m ≤ T.size ∧ ((T.extract k m).toList == putL t.length ++ t) = true := by
  cases h : getT T.data.toList k with
  | none => exact .inl rfl
  | some p =>
    obtain ⟨n, m⟩ := p
    obtain ⟨a1, a2, a3, a4⟩ := getT_sound _ _ _ _ (by rw [data_len]; exact hk) h
    rw [data_len] at a3
    exact .inr ⟨n, m, rfl, a1, a2, a3, by rw [Lib.toList_data, Lib.extract_data, a4]; simp⟩

set_option maxRecDepth 100000 in
set_option maxHeartbeats 1000000 in
theorem Unique_walk (at_ f : Int) (s : ByteArray) (w : World) (h1 : -9223372036854775808 ≤ at_) (h2 : at_ ≤ 9223372036854775807) (h3 : 0 ≤ f) (h4 : f ≤ 255) (ht : s.size ≤ maxLen) (hT : Tab w) :
    Calls Tryd.prog 5 #[.string s, .int .i64 at_, .int .u8 f] w fun e w' => e = .returned (.bool true) ∧ Below w.heap.size w w' := by
  unfold maxLen at ht
  obtain ⟨b, rfl⟩ : ∃ b : UInt8, f = (b.toNat : Int) := ⟨UInt8.ofNat f.toNat, by rw [toNat_of _ (by omega)]; omega⟩
  obtain ⟨m2, hm2, l2, k2⟩ : ∃ m, Hid (m = min s.size 300) ∧ m ≤ 300 ∧ m ≤ s.size := ⟨_, rfl, by omega, by omega⟩
  have r2 : ∀ ts t w, (Builtin.min_ ts t #[.int .i64 (s.size : Int), .int .i64 300]).run Tryd.prog w = .ok (.int .i64 (m2 : Int)) w := fun ts t w => by rw [hm2.out]; exact min_run _ 300 _ _ _ _ rfl
  go_enter Tryd.func5, Tryd.ntmps5
  go_wp2_with fail
  refine (sane_any _ hT).mono ?_
  rintro e w1 ⟨rfl, hb1⟩
  go_wp2_with fail
  have hcv : (convert 38 9 (.slice (some ⟨w1.heap.size, 0, none⟩) 1 1)).run Tryd.prog (w1.alloc (.cells #[.int .u8 (b.toNat : Int)] 5)).drew = .ok (.string ⟨#[b]⟩) (w1.alloc (.cells #[.int .u8 (b.toNat : Int)] 5)).drew := run_convert_bytes_back (P := Tryd.prog) (w1.alloc (.cells #[.int .u8 (b.toNat : Int)] 5)).drew 38 9 5 ⟨w1.heap.size, 0, none⟩ 1 [b] Tryd.underlying38 Tryd.underlying5 Tryd.underlying9 (fun j hj => by
    obtain rfl : j = 0 := by simpa using hj
    rw [World.cell?_drew]
    exact World.cell?_alloc_at _ _ _ _ rfl)
  go_region
  have hsz : (({ data := #[b] } : ByteArray) ++ s.extract 0 m2).size = 1 + m2 := by
    rw [ByteArray.size_append, cut_size _ _ k2]; rfl
  generalize ({ data := #[b] } : ByteArray) ++ s.extract 0 m2 = T at *
  have pT : T.size ≤ 301 := by omega
  have B2 : Below w.heap.size w (w1.alloc (.cells #[.int .u8 (b.toNat : Int)] 5)).drew := (hb1.alloc hb1.size _).drew
  clear hcv hsz r2 hb1
  generalize (w1.alloc (.cells #[.int .u8 (b.toNat : Int)] 5)).drew = w2 at *
  obtain ⟨kk, hkk⟩ := Int.eq_ofNat_of_zero_le (pk_lo at_ (T.size + 1) (by omega))
  have hkl := pk_lt at_ (T.size + 1) (by omega)
  rw [hkk] at hkl
  have hkk := Lib.hid hkk
  go_wp2_with fail
  refine (pick_any _ _ _ h1 h2 (by omega) (by omega)).mono ?_
  rw [hkk.out]
  rintro e w3 ⟨rfl, rfl⟩
  go_wp2_with fail
  go_loopw [38] (fun v wr => ∃ i : Nat, i ≤ 2 ∧ v = .int .i64 i ∧ Below w.heap.size w wr ∧ w2.heap.size < wr.heap.size ∧ wr.cell? ⟨w2.heap.size, 0, none⟩ = some (.int .i64 0) ∧ wr.cell? ⟨w2.heap.size, 1, none⟩ = some (.int .i64 kk)) (fun v _ => 2 - (intOf v).toNat)
  case atStart => exact ⟨0, by omega, rfl, B2.alloc B2.size _, by simp, World.cell?_alloc_at _ _ _ _ rfl, World.cell?_alloc_at _ _ _ _ rfl⟩
  case round =>
    obtain ⟨i, hi, rfl, B3, hz, c0, c1⟩ := hrel
    by_cases hlt : i < 2
    · obtain ⟨k, hk, ci⟩ : ∃ k : Nat, k ≤ T.size ∧ wr.cell? ⟨w2.heap.size, i, none⟩ = some (.int .i64 k) := by
        match i, hlt with
        | 0, _ => exact ⟨0, by omega, c0⟩
        | 1, _ => exact ⟨kk, by omega, c1⟩
      have c0 := Lib.hid c0
      have c1 := Lib.hid c1
      have hsT : T.size ≤ maxLen := by unfold maxLen; omega
      rcases int_cases T k hk with hq | ⟨n, m, hq, n1, n2, km, mT, hqe⟩
      · go_wp2_with fail
        refine (Int_none _ _ _ hsT hk hq).mono ?_
        rintro e w4 ⟨rfl, rfl⟩
        go_wp2_with fail
        refine (PutInt_any _ _ (by omega) (by omega)).mono ?_
        rintro e w5 ⟨rfl, hb5⟩
        have z5 := hb5.size
        have B5 : Below w.heap.size w w5 := B3.trans (hb5.mono B3.size)
        clear B3
        rcases text_cases T k hk with ht2 | ⟨t, m', ht2, t1, km', mT', htq⟩
        · go_wp2_with fail
          refine (String_none _ _ _ (by omega) hk ht2).mono ?_
          rintro e w6 ⟨rfl, hb6⟩
          have B6 : Below w.heap.size w w6 := B5.trans (hb6.mono B5.size)
          have hb6 : Below wr.heap.size wr w6 := hb5.trans (hb6.mono z5)
          clear hb5 B5
          go_wp2_with fail
          refine (PutString_list [] _ (by simp)).mono ?_
          rintro e w7 ⟨rfl, hb7⟩
          have B7 : Below w.heap.size w w7 := B6.trans (hb7.mono B6.size)
          have hb7 : Below wr.heap.size wr w7 := hb6.trans (hb7.mono hb6.size)
          clear hb6 B6
          go_wp2
          go_roundw
          case rel => exact ⟨i + 1, by omega, by go_num, B7, by have := hb7.size; omega, (hb7.cell (p := ⟨w2.heap.size, 0, none⟩) hz).trans c0.out, (hb7.cell (p := ⟨w2.heap.size, 1, none⟩) hz).trans c1.out⟩
          case measure => simp [intOf]; omega
        · have ht2 := Lib.hid ht2
          generalize hC : putL t.length ++ t = C at *
          have hC := Lib.hid hC
          go_wp2_with fail
          refine (String_ok _ _ _ _ _ (by omega) hk ht2.out).mono ?_
          rintro e w6 ⟨rfl, hb6⟩
          have B6 : Below w.heap.size w w6 := B5.trans (hb6.mono B5.size)
          have hb6 : Below wr.heap.size wr w6 := hb5.trans (hb6.mono z5)
          clear hb5 B5
          go_wp2_with fail
          refine (PutString_list t _ t1).mono ?_
          rw [hC.out]
          rintro e w7 ⟨rfl, hb7⟩
          have B7 : Below w.heap.size w w7 := B6.trans (hb7.mono B6.size)
          have hb7 : Below wr.heap.size wr w7 := hb6.trans (hb7.mono hb6.size)
          clear hb6 B6
          go_wp2
          go_roundw
          case rel => exact ⟨i + 1, by omega, by go_num, B7, by have := hb7.size; omega, (hb7.cell (p := ⟨w2.heap.size, 0, none⟩) hz).trans c0.out, (hb7.cell (p := ⟨w2.heap.size, 1, none⟩) hz).trans c1.out⟩
          case measure => simp [intOf]; omega
      · have hq := Lib.hid hq
        generalize hA : putL n = A at *
        have hA := Lib.hid hA
        go_wp2_with fail
        refine (Int_ok _ _ _ _ _ hsT hk hq.out).mono ?_
        rintro e w4 ⟨rfl, rfl⟩
        go_wp2_with fail
        refine (PutInt_any _ _ n1 n2).mono ?_
        rw [hA.out]
        rintro e w5 ⟨rfl, hb5⟩
        have z5 := hb5.size
        have B5 : Below w.heap.size w w5 := B3.trans (hb5.mono B3.size)
        clear B3
        rcases text_cases T k hk with ht2 | ⟨t, m', ht2, t1, km', mT', htq⟩
        · go_wp2_with fail
          refine (String_none _ _ _ (by omega) hk ht2).mono ?_
          rintro e w6 ⟨rfl, hb6⟩
          have B6 : Below w.heap.size w w6 := B5.trans (hb6.mono B5.size)
          have hb6 : Below wr.heap.size wr w6 := hb5.trans (hb6.mono z5)
          clear hb5 B5
          go_wp2_with fail
          refine (PutString_list [] _ (by simp)).mono ?_
          rintro e w7 ⟨rfl, hb7⟩
          have B7 : Below w.heap.size w w7 := B6.trans (hb7.mono B6.size)
          have hb7 : Below wr.heap.size wr w7 := hb6.trans (hb7.mono hb6.size)
          clear hb6 B6
          go_wp2
          go_roundw
          case rel => exact ⟨i + 1, by omega, by go_num, B7, by have := hb7.size; omega, (hb7.cell (p := ⟨w2.heap.size, 0, none⟩) hz).trans c0.out, (hb7.cell (p := ⟨w2.heap.size, 1, none⟩) hz).trans c1.out⟩
          case measure => simp [intOf]; omega
        · have ht2 := Lib.hid ht2
          generalize hC : putL t.length ++ t = C at *
          have hC := Lib.hid hC
          go_wp2_with fail
          refine (String_ok _ _ _ _ _ (by omega) hk ht2.out).mono ?_
          rintro e w6 ⟨rfl, hb6⟩
          have B6 : Below w.heap.size w w6 := B5.trans (hb6.mono B5.size)
          have hb6 : Below wr.heap.size wr w6 := hb5.trans (hb6.mono z5)
          clear hb5 B5
          go_wp2_with fail
          refine (PutString_list t _ t1).mono ?_
          rw [hC.out]
          rintro e w7 ⟨rfl, hb7⟩
          have B7 : Below w.heap.size w w7 := B6.trans (hb7.mono B6.size)
          have hb7 : Below wr.heap.size wr w7 := hb6.trans (hb7.mono hb6.size)
          clear hb6 B6
          go_wp2
          go_roundw
          case rel => exact ⟨i + 1, by omega, by go_num, B7, by have := hb7.size; omega, (hb7.cell (p := ⟨w2.heap.size, 0, none⟩) hz).trans c0.out, (hb7.cell (p := ⟨w2.heap.size, 1, none⟩) hz).trans c1.out⟩
          case measure => simp [intOf]; omega
    · obtain rfl : i = 2 := by omega
      go_wp2
      go_ret
      exact ⟨rfl, B3⟩
end Go.Proofs.YtimfhnnabocliaaDoor
