import Derived.Test.YtimfhnnabocliaaDoorL
namespace Go.Proofs.YtimfhnnabocliaaDoor
open Go.RowKit

theorem odd_bit (p i : Nat) : (((p : Int) / 2 ^ i).tmod 2 == 1) = decide (p / 2 ^ i % 2 = 1) := by
  have e : (p : Int) / 2 ^ i = ((p / 2 ^ i : Nat) : Int) := by simp
  rw [e, Int.tmod_eq_emod_of_nonneg (Int.natCast_nonneg _)]
  generalize p / 2 ^ i = q
  by_cases h : q % 2 = 1
  · rw [decide_eq_true h]; exact beq_iff_eq.2 (by omega)
  · rw [decide_eq_false h]; exact beq_eq_false_iff_ne.2 (by omega)

theorem turn_val (x m : Nat) (hx : x < 256) (hm : m < 8) : bits .xor .u8 (x : Int) ((2 : Int) ^ m % 256) = ((x ^^^ 2 ^ m : Nat) : Int) := by
  have hp : 2 ^ m < 256 := Nat.lt_of_lt_of_le (Nat.pow_lt_pow_right (by omega) hm) (by decide)
  have e : (2 : Int) ^ m % 256 = ((2 ^ m : Nat) : Int) := by
    
    rw [show ((2 : Int) ^ m) = ((2 ^ m : Nat) : Int) by simp]
    generalize 2 ^ m = q at *
    omega
  rw [e, u8_xor_nat _ _ hx hp]
theorem Bts.turn {W : World} {B : Nat} {t : List UInt8} (h : Bts W B t) (k : Nat) (_hk : k / 8 < t.length) :
    Bts (W.setCell ⟨B, k / 8, none⟩ (.int .u8 (bits .xor .u8 ((t[k / 8]?.getD 0).toNat : Int) ((2 : Int) ^ (k % 8) % 256)))) B (turn t k) := by
  intro j hj
  rw [turn_len] at hj
  have hp : 2 ^ (k % 8) < 256 := Nat.lt_of_lt_of_le (Nat.pow_lt_pow_right (by omega) (show k % 8 < 8 by omega)) (by decide)
  refine ⟨?_, by simp only [World.frozen?_setCell]; exact (h j hj).2⟩
  by_cases e : k / 8 = j
  · subst e
    rw [World.cell?_setCell_same' _ _ _ (by rw [(h _ hj).1]; rfl), turn_val _ _ (UInt8.toNat_lt _) (by omega)]
    simp [YtimfhnnabocliaaDoor.turn, List.getD, hj, UInt8.toNat_xor, Nat.mod_eq_of_lt hp]
  · rw [World.cell?_setCell_other _ _ _ _ (fun h => e (by cases h; rfl)), (h j hj).1]
    simp only [YtimfhnnabocliaaDoor.turn, List.getD, List.getElem?_set, if_neg e]

set_option maxRecDepth 100000 in
set_option maxHeartbeats 1000000 in
theorem Burst_walk (at_ : Int) (p : Nat) (s : ByteArray) (w : World) (h1 : -9223372036854775808 ≤ at_) (h2 : at_ ≤ 9223372036854775807) (h3 : p ≤ 4294967295) (ht : s.size ≤ maxLen) (hT : Tab w) :
    Calls Tryd.prog 8 #[.string s, .int .i64 at_, .int .u32 (p : Int)] w fun e w' => e = .returned (.bool true) ∧ Below w.heap.size w w' := by
  unfold maxLen at ht
  obtain ⟨n, hn, n2, ns⟩ : ∃ m, Hid (m = min s.size 300) ∧ m ≤ 300 ∧ m ≤ s.size := ⟨_, rfl, by omega, by omega⟩
  have r2 : ∀ ts t w, (Builtin.min_ ts t #[.int .i64 (s.size : Int), .int .i64 300]).run Tryd.prog w = .ok (.int .i64 (n : Int)) w := fun ts t w => by rw [hn.out]; exact min_run _ 300 _ _ _ _ rfl
  have hcb : ∀ W : World, (convert 9 38 (.string (s.extract 0 n))).run Tryd.prog W = .ok (.slice (some ⟨W.heap.size, 0, none⟩) n (grownCap W n 0 5)) (Lib.bytesWorld W 5 (s.extract 0 n)) := fun W => by
    have := Lib.run_convert_string_bytes (P := Tryd.prog) W 9 38 5 (s.extract 0 n) Tryd.underlying9 Tryd.underlying38 Tryd.underlying5
    rw [cut_size s n ns] at this
    exact this
  go_enter Tryd.func8, Tryd.ntmps8
  go_wp2_with fail
  refine (sane_any _ hT).mono ?_
  rintro e w1 ⟨rfl, hb1⟩
  by_cases h0 : n = 0 ∨ p = 0
  · by_cases hn0 : n = 0
    · have n0 : ((n : Int) == 0) = true := beq_iff_eq.2 (by omega)
      clear hn0 h0
      go_wp2
      go_ret
      exact ⟨rfl, hb1.trans ((Bts.below w1 _).mono hb1.size)⟩
    · have n0 : ((n : Int) == 0) = false := beq_eq_false_iff_ne.2 (by omega)
      have p0 : ((p : Int) == 0) = true := beq_iff_eq.2 (by omega)
      clear hn0 h0
      go_wp2
      go_ret
      exact ⟨rfl, hb1.trans ((Bts.below w1 _).mono hb1.size)⟩
  · have p0 : ((p : Int) == 0) = false := beq_eq_false_iff_ne.2 (by omega)
    have n0 : ((n : Int) == 0) = false := beq_eq_false_iff_ne.2 (by omega)
    obtain ⟨a, ha⟩ := Int.eq_ofNat_of_zero_le (pk_lo at_ (8 * n) (by omega))
    have hal := pk_lt at_ (8 * n) (by omega)
    rw [ha] at hal
    have ha := Lib.hid ha
    go_wp2_with fail
    refine (pick_any _ _ _ h1 h2 (by omega) (by omega)).mono ?_
    rw [ha.out]
    rintro e w2 ⟨rfl, rfl⟩
    have hS : (s.extract 0 n).data.toList.length = n := by rw [data_len]; exact cut_size s n ns
    have hB0 := Bts.start w1 (s.extract 0 n)
    have B2 : Below w.heap.size w (Lib.bytesWorld w1 5 (s.extract 0 n)) := hb1.trans ((Bts.below w1 _).mono hb1.size)
    generalize hX : s.extract 0 n = X at *
    have hX := Lib.hid hX
    generalize grownCap w1 n 0 5 = cap at *
    generalize Lib.bytesWorld w1 5 X = w2 at *
    have hS := Lib.hid hS
    clear hcb r2
    go_wp2_with fail
    go_loopw [10, 11] (fun c v wr => ∃ (i : Nat) (t : List UInt8), i ≤ 32 ∧ a + i ≤ 8 * n ∧ v = .int .i64 i ∧ c = .bool (ch p i) ∧ Below w.heap.size w wr ∧ Bts wr w1.heap.size t ∧ Hid (Turned X.data.toList t a i p)) (fun _ v _ => 32 - (intOf v).toNat)
    case atStart => exact ⟨0, _, by omega, by omega, rfl, by simp [ch, Nat.mod_one], B2, hB0, turned_zero _ _ _⟩
    case round =>
      obtain ⟨i, t, hi, hai, rfl, rfl, B3, hb, htu⟩ := hrel
      have htl : t.length = n := by rw [htu.out.1, hS.out]
      have htl := Lib.hid htl
      by_cases hlt : i < 32 ∧ a + i < 8 * n
      · obtain ⟨hl1, hl2⟩ := hlt
        have hk : (a + i) / 8 < t.length := by rw [htl.out]; omega
        have hc1 := hb _ hk
        obtain ⟨hc1, hf1⟩ := hc1
        have hb := Lib.hid hb
        by_cases hp : p / 2 ^ i % 2 = 1
        · have hq : (((p : Int) / 2 ^ i).tmod 2 == 1) = true := by rw [odd_bit, decide_eq_true hp]
          have hp := Lib.hid hp
          go_wp2_with fail
          go_region
          go_wp2
          go_roundw
          case rel =>
            have hb2 := hb.out.turn (a + i) hk
            exact ⟨i + 1, turn t (a + i), by omega, by omega, by go_num, by rw [ch_yes _ _ hp.out], (B3.setCell (p := ⟨w1.heap.size, (a + i) / 8, none⟩) hb1.size _).drew, fun j hj => hb2 j hj, htu.out.yes (by rw [hS.out]; omega) hp.out⟩
          case measure => simp [intOf]; omega
        · have hq : (((p : Int) / 2 ^ i).tmod 2 == 1) = false := by rw [odd_bit, decide_eq_false hp]
          have hp := Lib.hid hp
          go_wp2
          go_roundw
          case rel => exact ⟨i + 1, t, by omega, by omega, by go_num, by rw [ch_no _ _ hp.out], B3, hb.out, htu.out.no hp.out⟩
          case measure => simp [intOf]; omega
      · have hT3 := hT.below B3
        have hcv : ∀ q, (convert 38 9 (.slice (some ⟨w1.heap.size, 0, none⟩) n cap)).run Tryd.prog (wr.drewN q) = .ok (.string ⟨t.toArray⟩) (wr.drewN q) := fun q => by
          have := run_convert_bytes_back (P := Tryd.prog) (wr.drewN q) 38 9 5 ⟨w1.heap.size, 0, none⟩ cap t Tryd.underlying38 Tryd.underlying5 Tryd.underlying9 (fun j hj => (hb.drewN q).bytes j hj)
          rw [htl.out] at this
          exact this
        have hXs : X.size = n := by rw [← hX.out]; exact cut_size s n ns
        have hend := burst_end X.data.toList t a i p hi (by rw [hS.out]; exact hai) htu.out
        have hA := fun q => Sum_q ⟨t.toArray⟩ wr q (by rw [mk_size, htl.out]; unfold maxLen; omega) hT3
        have hBb := fun q => Sum_q X wr q (by rw [hXs]; unfold maxLen; omega) hT3
        rw [show (⟨t.toArray⟩ : ByteArray).data.toList = t from rfl] at hA
        have hend2 : (ch p i == ((crc t : Int) != (crc X.data.toList : Int))) = true := by
          rw [← hend]; congr 1
          rw [Bool.eq_iff_iff]; simp; omega
        generalize crc t = c1 at *
        generalize crc X.data.toList = c2 at *
        have hA := Lib.hid hA
        have hBb := Lib.hid hBb
        have hb := Lib.hid hb
        clear hend hXs
        by_cases hl1 : i < 32
        · have hl2 : ¬ a + i < 8 * n := fun h => hlt ⟨hl1, h⟩
          clear hlt
          go_wp2_with fail
          go_quiet ((go_at_call 21; first | (with_reducible exact hA.out _) | (with_reducible exact hBb.out _)))
          go_wp2
          go_ret
          exact ⟨rfl, below_drewN B3 _⟩
        · clear hlt
          go_wp2_with fail
          go_quiet ((go_at_call 21; first | (with_reducible exact hA.out _) | (with_reducible exact hBb.out _)))
          go_wp2
          go_ret
          exact ⟨rfl, below_drewN B3 _⟩
end Go.Proofs.YtimfhnnabocliaaDoor
