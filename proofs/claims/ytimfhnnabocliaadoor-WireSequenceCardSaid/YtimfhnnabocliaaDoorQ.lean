import Derived.Test.YtimfhnnabocliaaDoorJ
import Derived.StillTailTactics
import Derived.Deep.RegionHeld3
import Derived.Deep.RegionWith
namespace Go.Proofs.YtimfhnnabocliaaDoor
open Go.RowKit

/-- a text cut to 100 bytes -/
def ct (t : ByteArray) : ByteArray := t.extract 0 (min t.size 100)
theorem ct_size (t : ByteArray) : (ct t).size ≤ 100 := by unfold ct; rw [cut_size _ _ (by omega)]; omega
/-- what one round of the law appends -/
def itm (z : Int) (t : ByteArray) : List UInt8 := putL (numF z) ++ (putL (ct t).size ++ (ct t).data.toList)
/-- what i rounds of the law have made -/
def EE (zs : List Int) (ss : List ByteArray) : Nat → List UInt8
  | 0 => []
  | i + 1 => EE zs ss i ++ itm (zs.getD i 0) (ss.getD i ByteArray.empty)
theorem itm_len (z : Int) (t : ByteArray) : (itm z t).length ≤ 118 := by
  have h1 := (putL_len (numF z)).2
  have h2 := (putL_len (ct t).size).2
  have h3 := ct_size t
  unfold itm
  simp only [List.length_append, data_len]
  omega
theorem EE_len (zs : List Int) (ss : List ByteArray) (i : Nat) : (EE zs ss i).length ≤ 118 * i := by
  induction i with
  | zero => simp [EE]
  | succ i ih =>
    have := itm_len (zs.getD i 0) (ss.getD i ByteArray.empty)
    rw [EE, List.length_append]; omega

theorem EE_pre (zs : List Int) (ss : List ByteArray) (j n : Nat) (h : j ≤ n) : ∃ r, EE zs ss n = EE zs ss j ++ r := by
  induction n with
  | zero => exact ⟨[], by rw [show j = 0 by omega]; simp⟩
  | succ n ih =>
    by_cases e : j = n + 1
    · exact ⟨[], by rw [e]; simp⟩
    · obtain ⟨r, hr⟩ := ih (by omega)
      exact ⟨r ++ itm (zs.getD n 0) (ss.getD n ByteArray.empty), by rw [EE, hr, List.append_assoc]⟩
theorem EE_mono (zs : List Int) (ss : List ByteArray) (j n : Nat) (h : j ≤ n) : (EE zs ss j).length ≤ (EE zs ss n).length := by
  obtain ⟨r, hr⟩ := EE_pre zs ss j n h
  rw [hr, List.length_append]; omega
theorem EE_int (zs : List Int) (ss : List ByteArray) (j n : Nat) (h : j < n) : getL (EE zs ss n) (EE zs ss j).length = some (numF (zs.getD j 0), (EE zs ss j).length + (putL (numF (zs.getD j 0))).length) := by
  obtain ⟨r, hr⟩ := EE_pre zs ss (j + 1) n h
  have nb := numF_bd (zs.getD j 0)
  rw [hr, EE, itm, show EE zs ss j ++ (putL (numF (zs.getD j 0)) ++ (putL (ct (ss.getD j ByteArray.empty)).size ++ (ct (ss.getD j ByteArray.empty)).data.toList)) ++ r = EE zs ss j ++ putL (numF (zs.getD j 0)) ++ ((putL (ct (ss.getD j ByteArray.empty)).size ++ (ct (ss.getD j ByteArray.empty)).data.toList) ++ r) by simp [List.append_assoc]]
  exact getL_putL _ _ _ nb.1 nb.2
theorem EE_text (zs : List Int) (ss : List ByteArray) (j n : Nat) (h : j < n) : getT (EE zs ss n) ((EE zs ss j).length + (putL (numF (zs.getD j 0))).length) = some ((ct (ss.getD j ByteArray.empty)).data.toList, (EE zs ss (j + 1)).length) := by
  obtain ⟨r, hr⟩ := EE_pre zs ss (j + 1) n h
  have h1 : EE zs ss n = (EE zs ss j ++ putL (numF (zs.getD j 0))) ++ (putL ((ct (ss.getD j ByteArray.empty)).data.toList.length : Int) ++ (ct (ss.getD j ByteArray.empty)).data.toList) ++ r := by
    rw [hr, EE, itm, data_len]; simp [List.append_assoc]
  have h2 := getT_putT (EE zs ss j ++ putL (numF (zs.getD j 0))) r (ct (ss.getD j ByteArray.empty)).data.toList (by rw [data_len]; have := ct_size (ss.getD j ByteArray.empty); omega)
  rw [← h1, List.length_append] at h2
  have h3 : (EE zs ss j).length + (putL (numF (zs.getD j 0))).length + (putL ((ct (ss.getD j ByteArray.empty)).data.toList.length : Int) ++ (ct (ss.getD j ByteArray.empty)).data.toList).length = (EE zs ss (j + 1)).length := by
    rw [EE, itm, data_len]; simp only [List.length_append]; omega
  rw [h3] at h2
  exact h2
theorem EE_stop (zs : List Int) (ss : List ByteArray) (n : Nat) : getL (EE zs ss n) (EE zs ss n).length = none := by
  unfold getL
  rw [List.drop_of_length_le (Nat.le_refl _)]; rfl
theorem cat_lists (x y z : List UInt8) : (⟨x.toArray⟩ : ByteArray) ++ ⟨y.toArray⟩ ++ ⟨z.toArray⟩ = ⟨(x ++ (y ++ z)).toArray⟩ := by
  apply ByteArray.ext
  apply Array.toList_inj.1
  simp

set_option maxRecDepth 100000 in
set_option maxHeartbeats 1000000 in
theorem Sequence_walk (b0 o0 len0 cap0 b1 o1 len1 cap1 : Nat) (zs : List Int) (ss : List ByteArray) (w : World) (n : Nat) (hn : n = min (min len0 len1) 20)
    (hl0 : len0 ≤ maxLen) (hl1 : len1 ≤ maxLen)
    (hb0 : b0 < w.heap.size) (hb1 : b1 < w.heap.size)
    (hz : ∀ i, i < n → w.cell? ⟨b0, o0 + i, none⟩ = some (.int .i64 (zs.getD i 0))) (hzb : ∀ i, i < n → -9223372036854775808 ≤ zs.getD i 0 ∧ zs.getD i 0 ≤ 9223372036854775807)
    (hs : ∀ i, i < n → w.cell? ⟨b1, o1 + i, none⟩ = some (.string (ss.getD i ByteArray.empty))) (hsb : ∀ i, i < n → (ss.getD i ByteArray.empty).size ≤ maxLen) (hT : Tab w) :
    Calls Tryd.prog 6 #[.slice (some ⟨b0, o0, none⟩) len0 cap0, .slice (some ⟨b1, o1, none⟩) len1 cap1] w fun e w' => e = .returned (.bool true) ∧ Below w.heap.size w w' := by
  unfold maxLen at hl0 hl1
  have r0 : ∀ ts t w, (Builtin.min_ ts t #[.int .i64 (len0 : Int), .int .i64 (len1 : Int), .int .i64 20]).run Tryd.prog w = .ok (.int .i64 (n : Int)) w := fun ts t w => by
    have e : (n : Int) = (if (20 : Int) < (if (len1 : Int) < len0 then (len1 : Int) else len0) then 20 else (if (len1 : Int) < len0 then (len1 : Int) else len0)) := by rw [hn]; omega
    rw [e, run_min_int3]
  have hn20 : n ≤ 20 := by omega
  have hn0 : n ≤ len0 := by omega
  have hn1 : n ≤ len1 := by omega
  clear hn
  have hz := Lib.hid hz
  have hzb := Lib.hid hzb
  have hs := Lib.hid hs
  have hsb := Lib.hid hsb
  rename_i hz0 hzb0 hs0 hsb0
  clear hz0 hzb0 hs0 hsb0
  go_enter Tryd.func6, Tryd.ntmps6
  go_wp2_with fail
  refine (sane_any _ hT).mono ?_
  rintro e w1 ⟨rfl, hB1⟩
  go_wp2_with fail
  go_loopw [7, 8] (fun sv v wr => ∃ i : Nat, i ≤ n ∧ v = .int .i64 i ∧ sv = .string ⟨(EE zs ss i).toArray⟩ ∧ Below w.heap.size w wr) (fun _ v _ => n - (intOf v).toNat)
  case atStart => exact ⟨0, by omega, rfl, rfl, hB1⟩
  case round =>
    obtain ⟨i, hi, rfl, rfl, B⟩ := hrel
    by_cases hlt : i < n
    · have c0 := (B.cell (p := ⟨b0, o0 + i, none⟩) hb0).trans (hz.out i hlt)
      have c1 := (B.cell (p := ⟨b1, o1 + i, none⟩) hb1).trans (hs.out i hlt)
      have zb := hzb.out i hlt
      have sb := hsb.out i hlt
      have hE : Hid (EE zs ss (i + 1) = EE zs ss i ++ itm (zs.getD i 0) (ss.getD i ByteArray.empty)) := rfl
      have hEl := EE_len zs ss i
      have hI : Hid (itm (zs.getD i 0) (ss.getD i ByteArray.empty) = putL (numF (zs.getD i 0)) ++ (putL (ct (ss.getD i ByteArray.empty)).size ++ (ct (ss.getD i ByteArray.empty)).data.toList)) := rfl
      have hci : Hid (ct (ss.getD i ByteArray.empty) = (ss.getD i ByteArray.empty).extract 0 (min (ss.getD i ByteArray.empty).size 100)) := rfl
      have hcs := ct_size (ss.getD i ByteArray.empty)
      generalize zs.getD i 0 = z at *
      generalize ss.getD i ByteArray.empty = t at *
      obtain ⟨m, hm, m1, m2⟩ : ∃ m, Hid (m = min t.size 100) ∧ m ≤ 100 ∧ m ≤ t.size := ⟨_, rfl, by omega, by omega⟩
      have r2 : ∀ ts ty w, (Builtin.min_ ts ty #[.int .i64 (t.size : Int), .int .i64 100]).run Tryd.prog w = .ok (.int .i64 (m : Int)) w := fun ts ty w => by rw [hm.out]; exact min_run _ 100 _ _ _ _ rfl
      have nb := numF_bd z
      obtain ⟨zb1, zb2⟩ := zb
      unfold maxLen at sb
      have hNum := fun W => NumberFrom_any z W zb1 zb2
      generalize numF z = nz at *
      obtain ⟨nb1, nb2⟩ := nb
      have hNu := Lib.hid hNum
      clear hNum
      have hct : ct t = t.extract 0 m := by rw [hci.out, hm.out]
      have hPS := fun W => PutString_any (t.extract 0 m) W (by rw [cut_size t m m2]; omega)
      have hPI := fun W => PutInt_any nz W nb1 nb2
      have hI2 := hI.out
      rw [hct] at hI2
      have lA := (putL_len nz).2
      have lC : (putL (t.extract 0 m).size ++ (t.extract 0 m).data.toList).length ≤ 109 := by
        have := (putL_len (t.extract 0 m).size).2
        rw [List.length_append, data_len, cut_size t m m2] at *; omega
      clear hct hci
      generalize putL (t.extract 0 m).size ++ (t.extract 0 m).data.toList = C at *
      generalize putL nz = A at *
      have hPs := Lib.hid hPS
      have hPi := Lib.hid hPI
      have hIt := Lib.hid hI2
      clear hPS hPI hI2 hI
      go_wp2_with fail
      refine (hNu.out _).mono ?_
      rintro e w2 ⟨rfl, hb2⟩
      go_wp2_with fail
      refine (hPi.out _).mono ?_
      rintro e w3 ⟨rfl, hb3⟩
      have hb3 : Below wr.heap.size wr w3 := hb2.trans (hb3.mono hb2.size)
      have c3 := (hb3.cell (p := ⟨b1, o1 + i, none⟩) (Nat.lt_of_lt_of_le hb1 B.size)).trans c1
      go_wp2_with fail
      have ba1 : b1 < w3.heap.size := Nat.lt_of_lt_of_le (Nat.lt_of_lt_of_le hb1 B.size) hb3.size
      have i0 : (0 : Int) ≤ (i : Int) := by omega
      have i2 : (i : Int) < (len1 : Int) := by omega
      go_region_held3 (fun w' => w'.cell? ⟨b1, o1 + i, none⟩ = some (.string t))
        (first | go_keep | (rw [hb4.cell (by first | (simp; done) | (simp; omega))]; assumption))
        (first | (go_at_call 19; refine (hPs.out _).mono ?_; rintro e w4 ⟨rfl, hb4⟩))
      go_wp2
      go_roundw
      case rel =>
        exact ⟨i + 1, by omega, by go_num, by rw [hE.out, hIt.out, cat_lists], B.trans ((hb3.trans ((((Below.refl _ w3).drew).trans hb4).mono hb3.size)).mono B.size)⟩
      case measure => simp [intOf]; omega
    · obtain rfl : i = n := by omega
      clear r0 hi hlt
      go_wp2_with fail
      go_loopw [13, 14] (fun av v wr => ∃ j : Nat, j ≤ i ∧ v = .int .i64 j ∧ av = .int .i64 (EE zs ss j).length ∧ Below w.heap.size w wr) (fun _ v _ => i - (intOf v).toNat)
      case atStart => exact ⟨0, by omega, rfl, rfl, B⟩
      case round =>
        rename_i wq
        obtain ⟨j, hj, rfl, rfl, BQ⟩ := hrel
        have hLs := EE_len zs ss i
        by_cases hlt : j < i
        · have c0 := (BQ.cell (p := ⟨b0, o0 + j, none⟩) hb0).trans (hz.out j hlt)
          have c1 := (BQ.cell (p := ⟨b1, o1 + j, none⟩) hb1).trans (hs.out j hlt)
          have zb := hzb.out j hlt
          have sb := hsb.out j hlt
          have e1 := EE_int zs ss j i hlt
          have e2 := EE_text zs ss j i hlt
          have hLj := EE_len zs ss j
          have hcs := ct_size (ss.getD j ByteArray.empty)
          have hci : Hid (ct (ss.getD j ByteArray.empty) = (ss.getD j ByteArray.empty).extract 0 (min (ss.getD j ByteArray.empty).size 100)) := rfl
          have hLm := EE_mono zs ss j i hj
          generalize zs.getD j 0 = z at *
          generalize ss.getD j ByteArray.empty = t at *
          obtain ⟨m, hm, m1, m2⟩ : ∃ m, Hid (m = min t.size 100) ∧ m ≤ 100 ∧ m ≤ t.size := ⟨_, rfl, by omega, by omega⟩
          have r2 : ∀ ts ty w, (Builtin.min_ ts ty #[.int .i64 (t.size : Int), .int .i64 100]).run Tryd.prog w = .ok (.int .i64 (m : Int)) w := fun ts ty w => by rw [hm.out]; exact min_run _ 100 _ _ _ _ rfl
          obtain ⟨zb1, zb2⟩ := zb
          unfold maxLen at sb
          have hct : ct t = t.extract 0 m := by rw [hci.out, hm.out]
          rw [hct] at e2
          have hNum := fun W => NumberFrom_any z W zb1 zb2
          generalize numF z = nz at *
          generalize hL1 : EE zs ss (j + 1) = L1 at e2
          have hE1 : Hid (Value.int .i64 L1.length = .int .i64 (EE zs ss (j + 1)).length) := by rw [← hL1]; exact rfl
          clear hL1
          generalize EE zs ss i = L at *
          generalize EE zs ss j = Lj at *
          have lA := (putL_len nz).2
          generalize putL nz = A at *
          have q1 := (getL_sound _ _ _ _ e1).2.2.1 hLm
          have hIn := fun W => Int_ok ⟨L.toArray⟩ Lj.length nz (Lj.length + A.length) W (by unfold maxLen; rw [mk_size]; omega) (by rw [mk_size]; exact hLm) e1
          have hSt := fun W => String_ok ⟨L.toArray⟩ (Lj.length + A.length) _ L1.length W (by rw [mk_size]; omega) (by rw [mk_size]; exact q1) e2
          simp only [Lib.mk_data] at hSt
          have hNu := Lib.hid hNum
          have hInt := Lib.hid hIn
          have hStr := Lib.hid hSt
          clear hNum hIn hSt e1 e2 hct hci q1
          go_wp2_with fail
          refine (hInt.out _).mono ?_
          rintro e w4 ⟨rfl, rfl⟩
          go_wp2_with fail
          refine (hStr.out _).mono ?_
          rintro e w5 ⟨rfl, hb5⟩
          have c2 := (hb5.cell (p := ⟨b0, o0 + j, none⟩) (Nat.lt_of_lt_of_le hb0 BQ.size)).trans c0
          have c3 := (hb5.cell (p := ⟨b1, o1 + j, none⟩) (Nat.lt_of_lt_of_le hb1 BQ.size)).trans c1
          have B5 : Below w.heap.size w w5 := BQ.trans (hb5.mono BQ.size)
          have ba : b1 < w5.heap.size := Nat.lt_of_lt_of_le hb1 B5.size
          go_wp2_with fail
          have ba0 : b0 < w5.heap.size := Nat.lt_of_lt_of_le hb0 B5.size
          have i0 : (0 : Int) ≤ (j : Int) := by omega
          have i1 : (j : Int) < (len0 : Int) := by omega
          have i2 : (j : Int) < (len1 : Int) := by omega
          go_region_held3 (fun w' => w'.cell? ⟨b0, o0 + j, none⟩ = some (.int .i64 z) ∧ w'.cell? ⟨b1, o1 + j, none⟩ = some (.string t))
            (first | go_keep | (go_split_ands; refine ⟨?_, ?_⟩ <;> (rw [hb6.cell (by first | (simp; done) | (simp; omega))]; assumption)))
            (first | (go_at_call 11; refine (hNu.out _).mono ?_; rintro e w6 ⟨rfl, hb6⟩))
          go_wp2
          go_roundw
          case rel => exact ⟨j + 1, by omega, by go_num, hE1.out, B5.trans ((((Below.refl _ w5).drew).trans hb6).mono B5.size)⟩
          case measure => simp [intOf]; omega
        · obtain rfl : j = i := by omega
          have hst := EE_stop zs ss j
          generalize EE zs ss j = L at *
          have hst2 := Lib.hid hst
          clear hst hlt hj
          go_wp2_with fail
          refine (Int_none ⟨L.toArray⟩ L.length _ (by unfold maxLen; rw [mk_size]; omega) (by rw [mk_size]; omega) hst2.out).mono ?_
          rintro e w4 ⟨rfl, rfl⟩
          go_wp2
          go_ret
          exact ⟨rfl, BQ⟩
end Go.Proofs.YtimfhnnabocliaaDoor
