import Derived.Test.YtimfhnnabocliaaDoorV
namespace Go.Proofs.YtimfhnnabocliaaDoor
open Go.RowKit

/-- What both programs answer. -/
def putA (x : Int) : ByteArray × Int := if x < -4611686018427387903 ∨ 4611686018427387903 < x then (⟨#[]⟩, 10) else (⟨(putL x).toArray⟩, 0)
def intA (s : ByteArray) (a : Int) : Int × Int × Int := if a < 0 ∨ (s.size : Int) < a then (0, 0, 2) else match getL s.data.toList a.toNat with | none => (0, 0, 10) | some p => (p.1, (p.2 : Int), 0)
def strA (s : ByteArray) (a : Int) : ByteArray × Int × Int := if a < 0 ∨ (s.size : Int) < a then (⟨#[]⟩, 0, 2) else match getT s.data.toList a.toNat with | none => (⟨#[]⟩, 0, 10) | some p => (⟨p.1.toArray⟩, (p.2 : Int), 0)

/-- the same answer, nothing that lay turned -/
def Ans (w : World) (v : Value) (e : Ending) (w' : World) : Prop := e = .returned v ∧ Below w.heap.size w w'

theorem PutInt_all (x : Int) (w : World) (h1 : -9223372036854775808 ≤ x) (h2 : x ≤ 9223372036854775807) : Calls Tryd.prog 12 #[.int .i64 x] w (Ans w (.tuple #[.string (putA x).1, .int .i64 (putA x).2])) := by
  unfold putA
  by_cases h : x < -4611686018427387903 ∨ 4611686018427387903 < x
  · rw [if_pos h]; exact PutInt_bad x w h h1 h2
  · rw [if_neg h]; exact PutInt_any x w (by omega) (by omega)
theorem RPutInt_all (x : Int) (w : World) (h1 : -9223372036854775808 ≤ x) (h2 : x ≤ 9223372036854775807) : Calls Tryd.prog 13 #[.int .i64 x] w (Ans w (.tuple #[.string (putA x).1, .int .i64 (putA x).2])) := by
  unfold putA
  by_cases h : x < -4611686018427387903 ∨ 4611686018427387903 < x
  · rw [if_pos h]; exact RPutInt_bad x w h h1 h2
  · rw [if_neg h]; exact RPutInt_any x w (by omega) (by omega)
theorem ans_same {f : FuncId} {args : Array Value} {w : World} {v : Value} (h : Calls Tryd.prog f args w fun e w' => e = .returned v ∧ w = w') : Calls Tryd.prog f args w (Ans w v) :=
  h.mono fun _ _ ⟨he, hw⟩ => ⟨he, by subst hw; exact Below.refl _ _⟩
theorem Int_all (s : ByteArray) (a : Int) (w : World) (hs : s.size ≤ 140737488351232) (h1 : -9223372036854775808 ≤ a) (h2 : a ≤ 9223372036854775807) :
    Calls Tryd.prog 15 #[.string s, .int .i64 a] w (Ans w (.tuple #[.int .i64 (intA s a).1, .int .i64 (intA s a).2.1, .int .i64 (intA s a).2.2])) := by
  have hm : s.size ≤ maxLen := by unfold maxLen; omega
  unfold intA
  by_cases h : a < 0 ∨ (s.size : Int) < a
  · rw [if_pos h]; exact ans_same (Int_arg s a w hm h h1 h2)
  · rw [if_neg h]
    obtain ⟨k, rfl⟩ := Int.eq_ofNat_of_zero_le (show 0 ≤ a by omega)
    rw [Int.toNat_natCast]
    cases hq : getL s.data.toList k with
    | none => exact ans_same (Int_none s k w hm (by omega) hq)
    | some p => exact ans_same (Int_ok s k p.1 p.2 w hm (by omega) hq)
theorem RInt_all (s : ByteArray) (a : Int) (w : World) (hs : s.size ≤ 140737488351232) (h1 : -9223372036854775808 ≤ a) (h2 : a ≤ 9223372036854775807) :
    Calls Tryd.prog 16 #[.string s, .int .i64 a] w (Ans w (.tuple #[.int .i64 (intA s a).1, .int .i64 (intA s a).2.1, .int .i64 (intA s a).2.2])) := by
  have hm : s.size ≤ maxLen := by unfold maxLen; omega
  unfold intA
  by_cases h : a < 0 ∨ (s.size : Int) < a
  · rw [if_pos h]; exact ans_same (RInt_arg s a w hm h h1 h2)
  · rw [if_neg h]
    obtain ⟨k, rfl⟩ := Int.eq_ofNat_of_zero_le (show 0 ≤ a by omega)
    rw [Int.toNat_natCast]
    cases hq : getL s.data.toList k with
    | none => exact RInt_none s k w hs (by omega) hq
    | some p => exact RInt_ok s k p.1 p.2 w hs (by omega) hq
theorem String_arg (s : ByteArray) (a : Int) (w : World) (hs : s.size ≤ 140737488351232) (h : a < 0 ∨ (s.size : Int) < a) (h1 : -9223372036854775808 ≤ a) (h2 : a ≤ 9223372036854775807) :
    Calls Tryd.prog 17 #[.string s, .int .i64 a] w fun e w' => e = .returned (.tuple #[.string ⟨#[]⟩, .int .i64 0, .int .i64 2]) ∧ w = w' := by
  have hm : s.size ≤ maxLen := by unfold maxLen; omega
  go_enter Tryd.func17, Tryd.ntmps17
  go_wp2_with fail
  refine (Int_arg _ _ _ hm h h1 h2).mono ?_
  rintro e w' ⟨rfl, rfl⟩
  go_wp2
  go_ret3
  exact ⟨rfl, rfl⟩
theorem RString_arg (s : ByteArray) (a : Int) (w : World) (hs : s.size ≤ 140737488351232) (h : a < 0 ∨ (s.size : Int) < a) (h1 : -9223372036854775808 ≤ a) (h2 : a ≤ 9223372036854775807) :
    Calls Tryd.prog 18 #[.string s, .int .i64 a] w fun e w' => e = .returned (.tuple #[.string ⟨#[]⟩, .int .i64 0, .int .i64 2]) ∧ w = w' := by
  have hm : s.size ≤ maxLen := by unfold maxLen; omega
  go_enter Tryd.func18, Tryd.ntmps18
  go_wp2_with fail
  refine (RInt_arg _ _ _ hm h h1 h2).mono ?_
  rintro e w' ⟨rfl, rfl⟩
  go_wp2
  go_ret3
  exact ⟨rfl, rfl⟩
theorem String_all (s : ByteArray) (a : Int) (w : World) (hs : s.size ≤ 140737488351232) (h1 : -9223372036854775808 ≤ a) (h2 : a ≤ 9223372036854775807) :
    Calls Tryd.prog 17 #[.string s, .int .i64 a] w (Ans w (.tuple #[.string (strA s a).1, .int .i64 (strA s a).2.1, .int .i64 (strA s a).2.2])) := by
  unfold strA
  by_cases h : a < 0 ∨ (s.size : Int) < a
  · rw [if_pos h]; exact ans_same (String_arg s a w hs h h1 h2)
  · rw [if_neg h]
    obtain ⟨k, rfl⟩ := Int.eq_ofNat_of_zero_le (show 0 ≤ a by omega)
    rw [Int.toNat_natCast]
    cases hq : getT s.data.toList k with
    | none => exact String_none s k w hs (by omega) hq
    | some p => exact String_ok s k p.1 p.2 w hs (by omega) hq
theorem RString_all (s : ByteArray) (a : Int) (w : World) (hs : s.size ≤ 140737488351232) (h1 : -9223372036854775808 ≤ a) (h2 : a ≤ 9223372036854775807) :
    Calls Tryd.prog 18 #[.string s, .int .i64 a] w (Ans w (.tuple #[.string (strA s a).1, .int .i64 (strA s a).2.1, .int .i64 (strA s a).2.2])) := by
  unfold strA
  by_cases h : a < 0 ∨ (s.size : Int) < a
  · rw [if_pos h]; exact ans_same (RString_arg s a w hs h h1 h2)
  · rw [if_neg h]
    obtain ⟨k, rfl⟩ := Int.eq_ofNat_of_zero_le (show 0 ≤ a by omega)
    rw [Int.toNat_natCast]
    cases hq : getT s.data.toList k with
    | none => exact RString_none s k w hs (by omega) hq
    | some p => exact RString_ok s k p.1 p.2 w hs (by omega) hq

/-- two numbers in a row of the call's own -/
def Two (W : World) (B : Nat) (a b : Int) : Prop := B < W.heap.size ∧ W.cell? ⟨B, 0, none⟩ = some (.int .i64 a) ∧ W.cell? ⟨B, 1, none⟩ = some (.int .i64 b)
theorem Two.below {W W' : World} {B : Nat} {a b : Int} (h : Two W B a b) (hb : Below W.heap.size W W') : Two W' B a b :=
  ⟨Nat.lt_of_lt_of_le h.1 hb.size, (hb.cell (p := ⟨B, 0, none⟩) h.1).trans h.2.1, (hb.cell (p := ⟨B, 1, none⟩) h.1).trans h.2.2⟩
theorem Two.at {W : World} {B : Nat} {a b : Int} (h : Two W B a b) (i : Nat) (hi : i < 2) : ∃ k, (k = a ∨ k = b) ∧ W.cell? ⟨B, i, none⟩ = some (.int .i64 k) := by
  match i, hi with
  | 0, _ => exact ⟨a, .inl rfl, h.2.1⟩
  | 1, _ => exact ⟨b, .inr rfl, h.2.2⟩

set_option maxRecDepth 100000 in
set_option maxHeartbeats 1000000 in
theorem Matches_walk (n at_ : Int) (s : ByteArray) (w : World) (h1 : -9223372036854775808 ≤ n) (h2 : n ≤ 9223372036854775807) (h3 : -9223372036854775808 ≤ at_) (h4 : at_ ≤ 9223372036854775807) (ht : s.size ≤ maxLen) (hT : Tab w) :
    Calls Tryd.prog 3 #[.int .i64 n, .string s, .int .i64 at_] w fun e w' => e = .returned (.bool true) ∧ Below w.heap.size w w' := by
  unfold maxLen at ht
  obtain ⟨m, hm, m2, ms⟩ : ∃ m, Hid (m = min s.size 300) ∧ m ≤ 300 ∧ m ≤ s.size := ⟨_, rfl, by omega, by omega⟩
  have r2 : ∀ ts t w, (Builtin.min_ ts t #[.int .i64 (s.size : Int), .int .i64 300]).run Tryd.prog w = .ok (.int .i64 (m : Int)) w := fun ts t w => by rw [hm.out]; exact min_run _ 300 _ _ _ _ rfl
  have hT2 := Lib.hid hT
  clear hT
  go_enter Tryd.func3, Tryd.ntmps3
  go_wp2_with fail
  refine (sane_any _ hT2.out).mono ?_
  rintro e w1 ⟨rfl, hb1⟩
  go_wp2_with fail
  refine (NumberFrom_any _ _ h1 h2).mono ?_
  rintro e w2 ⟨rfl, hb2⟩
  have B2 : Below w.heap.size w w2 := hb1.trans (hb2.mono hb1.size)
  clear hb1 hb2
  have nb := numF_bd n
  generalize numF n = nf at *
  obtain ⟨nb1, nb2⟩ := nb
  have eX := cut_size s m ms
  go_wp2_with fail
  generalize s.extract 0 m = X at *
  have pX : X.size ≤ 300 := by omega
  clear eX r2
  go_loopw [44] (fun v wr => ∃ i : Nat, i ≤ 2 ∧ v = .int .i64 i ∧ Below w.heap.size w wr ∧ Two wr w2.heap.size n nf) (fun v _ => 2 - (intOf v).toNat)
  case atStart => exact ⟨0, by omega, rfl, B2.alloc B2.size _, by simp, World.cell?_alloc_at _ _ _ _ rfl, World.cell?_alloc_at _ _ _ _ rfl⟩
  case round =>
    obtain ⟨i, hi, rfl, B3, hz⟩ := hrel
    by_cases hlt : i < 2
    · obtain ⟨k, hk, ci⟩ := hz.at i hlt
      have hk1 : -9223372036854775808 ≤ k ∧ k ≤ 9223372036854775807 := by omega
      obtain ⟨hk1, hk2⟩ := hk1
      have hP := Lib.hid (fun W => PutInt_all k W hk1 hk2)
      have hR := Lib.hid (fun W => RPutInt_all k W hk1 hk2)
      generalize (putA k).1 = pa at *
      generalize (putA k).2 = pe at *
      clear hk
      go_wp2_with fail
      refine (hP.out _).mono ?_
      rintro e w4 ⟨rfl, hb4⟩
      have hz4 := hz.below hb4
      have B4 : Below w.heap.size w w4 := B3.trans (hb4.mono B3.size)
      clear hb4
      go_wp2_with fail
      refine (hR.out _).mono ?_
      rintro e w5 ⟨rfl, hb5⟩
      have hz5 := hz4.below hb5
      have B5 : Below w.heap.size w w5 := B4.trans (hb5.mono B4.size)
      clear hb5 hz4 B4
      go_wp2
      go_roundw
      case rel => exact ⟨i + 1, by omega, by go_num, B5, hz5⟩
      case measure => simp [intOf]; omega
    · obtain rfl : i = 2 := by omega
      clear hz
      have p1 := pk_lo at_ (X.size + 2) (by omega)
      have p2 := pk_lt at_ (X.size + 2) (by omega)
      go_wp2_with fail
      refine (pick_any _ _ _ h3 h4 (by omega) (by omega)).mono ?_
      generalize pk at_ (X.size + 2) = ap at *
      rintro e w3 ⟨rfl, rfl⟩
      have Bs := B3.size
      go_wp2_with fail
      obtain ⟨wz, hwz⟩ : ∃ wz : World, wz = wr := ⟨_, rfl⟩
      rw [← hwz] at B3 Bs
      simp only [← hwz]
      clear hwz
      go_loopw [75] (fun v wr => ∃ j : Nat, j ≤ 2 ∧ v = .int .i64 j ∧ Below w.heap.size w wr ∧ Two wr wz.heap.size at_ ap) (fun v _ => 2 - (intOf v).toNat)
      case atStart => exact ⟨0, by omega, rfl, B3.alloc B3.size _, by simp, World.cell?_alloc_at _ _ _ _ rfl, World.cell?_alloc_at _ _ _ _ rfl⟩
      case round =>
        rename_i wq
        obtain ⟨j, hj, rfl, BQ, hz⟩ := hrel
        by_cases hlt : j < 2
        · obtain ⟨k, hk, ci⟩ := hz.at j hlt
          have hk1 : -9223372036854775808 ≤ k ∧ k ≤ 9223372036854775807 := by omega
          obtain ⟨hk1, hk2⟩ := hk1
          have hA := Lib.hid (fun W => Int_all X k W (by omega) hk1 hk2)
          have hB := Lib.hid (fun W => RInt_all X k W (by omega) hk1 hk2)
          have hC := Lib.hid (fun W => String_all X k W (by omega) hk1 hk2)
          have hD := Lib.hid (fun W => RString_all X k W (by omega) hk1 hk2)
          generalize (intA X k).1 = a1 at *
          generalize (intA X k).2.1 = a2 at *
          generalize (intA X k).2.2 = a3 at *
          generalize (strA X k).1 = c1 at *
          generalize (strA X k).2.1 = c2 at *
          generalize (strA X k).2.2 = c3 at *
          clear hk
          go_wp2_with fail
          refine (hA.out _).mono ?_
          rintro e w4 ⟨rfl, hb4⟩
          have hz4 := hz.below hb4
          have B4 := BQ.trans (hb4.mono BQ.size)
          clear hb4 hz BQ
          go_wp2_with fail
          refine (hB.out _).mono ?_
          rintro e w5 ⟨rfl, hb5⟩
          have hz5 := hz4.below hb5
          have B5 := B4.trans (hb5.mono B4.size)
          clear hb5 hz4 B4
          go_wp2_with fail
          refine (hC.out _).mono ?_
          rintro e w6 ⟨rfl, hb6⟩
          have hz6 := hz5.below hb6
          have B6 := B5.trans (hb6.mono B5.size)
          clear hb6 hz5 B5
          go_wp2_with fail
          refine (hD.out _).mono ?_
          rintro e w7 ⟨rfl, hb7⟩
          have hz7 := hz6.below hb7
          have B7 := B6.trans (hb7.mono B6.size)
          clear hb7 hz6 B6
          go_wp2
          go_roundw
          case rel => exact ⟨j + 1, by omega, by go_num, B7, hz7⟩
          case measure => simp [intOf]; omega
        · obtain rfl : j = 2 := by omega
          clear hz
          have hP := Lib.hid (fun W => PutString_any X W (by omega))
          have hR := Lib.hid (fun W => RPutString_any X W (by omega))
          generalize putL X.size ++ X.data.toList = C at *
          go_wp2_with fail
          refine (hP.out _).mono ?_
          rintro e w4 ⟨rfl, hb4⟩
          have B4 := BQ.trans (hb4.mono BQ.size)
          clear hb4 BQ
          go_wp2_with fail
          refine (hR.out _).mono ?_
          rintro e w5 ⟨rfl, hb5⟩
          have B5 := B4.trans (hb5.mono B4.size)
          clear hb5 B4
          have hS := Lib.hid (Sum_any X w5 (by unfold maxLen; omega) (hT2.out.below B5))
          have hU := Lib.hid (RSum_any X w5 (by unfold maxLen; omega))
          generalize crc X.data.toList = cx at *
          go_wp2_with fail
          refine hS.out.mono ?_
          rintro e w6 ⟨rfl, rfl⟩
          go_wp2_with fail
          refine hU.out.mono ?_
          rintro e w6 ⟨rfl, rfl⟩
          go_wp2
          go_ret
          exact ⟨rfl, B5⟩
end Go.Proofs.YtimfhnnabocliaaDoor
