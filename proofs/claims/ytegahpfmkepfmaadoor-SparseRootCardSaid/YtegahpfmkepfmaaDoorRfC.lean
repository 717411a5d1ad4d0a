import Derived.Test.YtegahpfmkepfmaaDoorRfB
import Derived.Test.YtegahpfmkepfmaaDoorSum
namespace Go.Proofs.YtegahpfmkepfmaaDoor.R2
open Go.RowKit
theorem ownB_cells {W : World} {base : Nat} {v : Value} {l : List UInt8} (h : OwnB W base v l) (hl : l ≠ []) : ∃ g cap, v = .slice (some ⟨g, 0, none⟩) l.length cap ∧ base ≤ g ∧ g < W.heap.size ∧ l.length ≤ cap ∧ cap ≤ maxLen ∧
    ∀ j, j < l.length → W.cell? ⟨g, j, none⟩ = some (.int .u8 ((l.getD j 0).toNat : Int)) := by
  unfold OwnB at h
  rcases h.2 with ⟨rfl, h0⟩ | ⟨g, cap, cur, rfl, hb, hg, hc, hm, hs, ht⟩
  · exact absurd (List.length_eq_zero_iff.1 h0) hl
  · refine ⟨g, cap, rfl, hb, (Array.getElem?_eq_some_iff.1 hg).1, hc, hm, fun j hj => ?_⟩
    rw [cell_of_row _ _ _ _ _ _ hg]
    have h2 : (cB l)[j]? = some (.int .u8 ((l.getD j 0).toNat : Int)) := by simp [cB, List.getD, List.getElem?_eq_getElem hj]
    rw [← h2, ← ht, List.getElem?_take_of_lt (by omega)]
    simp
theorem blk_at (X : List UInt8) (k j : Nat) (hj : j < 64) : (blk X k).getD j 0 = X.getD (64 * k + j) 0 := by
  simp [blk, List.getD, List.getElem?_take_of_lt hj]
theorem blk_len (X : List UInt8) (k : Nat) (h : 64 * k + 64 ≤ X.length) : (blk X k).length = 64 := by simp [blk]; omega
/-- the first k words as bytes -/
def oB (s : S8) (k : Nat) : List UInt8 := ((lst s).take k).flatMap by4
theorem oB_succ (s : S8) (k : Nat) (hk : k < 8) : oB s (k + 1) = oB s k ++ by4 ((lst s).getD k 0) := by
  rw [oB, lst_take _ _ hk, List.flatMap_append]; simp [oB]
theorem oB_full (s : S8) : oB s 8 = outB s := rfl
theorem oB_len (s : S8) (k : Nat) (hk : k ≤ 8) : (oB s k).length = 4 * k := by
  induction k with
  | zero => rfl
  | succ k ih => rw [oB_succ _ _ (by omega), List.length_append, ih (by omega)]; simp [by4]; omega
theorem wrap8 (n : Int) : IntKind.u8.wrap n = n % 256 := by simp [IntKind.wrap, IntKind.bits, IntKind.signed]
theorem by_0 (y : Nat) : IntKind.u8.wrap ((y : Int) / 16777216) = ((UInt8.ofNat (y / 16777216)).toNat : Int) := by
  rw [wrap8, UInt8.toNat_ofNat']; omega
theorem by_1 (y : Nat) : IntKind.u8.wrap ((y : Int) / 65536) = ((UInt8.ofNat (y / 65536 % 256)).toNat : Int) := by
  rw [wrap8, UInt8.toNat_ofNat']; omega
theorem by_2 (y : Nat) : IntKind.u8.wrap ((y : Int) / 256) = ((UInt8.ofNat (y / 256 % 256)).toNat : Int) := by
  rw [wrap8, UInt8.toNat_ofNat']; omega
theorem by_3 (y : Nat) : IntKind.u8.wrap (y : Int) = ((UInt8.ofNat (y % 256)).toNat : Int) := by
  rw [wrap8, UInt8.toNat_ofNat']; omega

set_option maxRecDepth 100000 in
set_option maxHeartbeats 4000000 in
theorem SumR_any (l : List UInt8) (w : World) (hl : l.length ≤ 1000000) :
    Calls Tryd.prog 51 #[.string ⟨l.toArray⟩] w fun e w' => e = .returned (.string ⟨(sha l).toArray⟩) ∧ Below w.heap.size w w' := by
  obtain ⟨i0, hi, hz0, hz1, hz2⟩ := info_parts info5
  obtain ⟨w1, hw1⟩ : ∃ w1, w1 = w.alloc (.cells (c8 h0) 106) := ⟨_, rfl⟩
  have B1 : Below w.heap.size w w1 := by rw [hw1]; exact (Below.refl _ w).alloc (Nat.le_refl _) _
  have z1 : w1.heap.size = w.heap.size + 1 := by rw [hw1]; simp
  have E1 : Eight w1 w.heap.size h0 := by
    rw [hw1]
    refine ⟨?_, ?_, ?_, ?_, ?_, ?_, ?_, ?_⟩ <;> exact World.cell?_alloc_at _ _ _ _ rfl
  have e8 : (⟨l.toArray⟩ : ByteArray).data.toList = l := rfl
  have hext0 := extended_any ⟨l.toArray⟩ w1 (show l.toArray.size ≤ 1000000 by simpa using hl)
  rw [e8] at hext0
  have hext := Lib.hid hext0
  clear hext0 e8
  obtain ⟨M, hM⟩ : ∃ M, Hid (M = (ext l).length / 64) := ⟨_, rfl⟩
  have hXl : Hid ((ext l).length = 64 * M) := by show _ = _; rw [hM.out]; have := ext_mod l; omega
  have hXs : (ext l).length ≤ 1000100 := by rw [ext_len]; have := pad_lt l.length; omega
  have hsha : Hid (sha l = outB (hs (ext l) M)) := by show _ = _; rw [hM.out]; rfl
  have hX0 : (ext l).length ≠ 0 := by rw [ext_len]; omega
  rw [hsha.out]
  clear hsha hM
  generalize ext l = X at *
  have hc8 : (#[.int .u32 1779033703, .int .u32 3144134277, .int .u32 1013904242, .int .u32 2773480762, .int .u32 1359893119, .int .u32 2600822924, .int .u32 528734635, .int .u32 1541459225] : Array Value) = c8 h0 := h0_cells
  have hc8h := Lib.hid hc8
  have hw1h := Lib.hid hw1
  clear hc8 hw1
  go_enter Tryd.func51, Tryd.ntmps51
  go_wp2_with fail
  rw [hc8h.out, ← hw1h.out]
  refine hext.out.mono ?_
  rintro e w2 ⟨v, rfl, hown, b2⟩
  have B2 := B1.trans (b2.mono B1.size)
  obtain ⟨g, cap, rfl, hg1, hg2, hgc, hgm, hcell⟩ := ownB_cells hown (fun e => hX0 (by rw [e]; rfl))
  have z2 := B2.size
  have E2 : Eight w2 w.heap.size h0 := Eight.of (fun j hj => by rw [b2.cell (p := ⟨w.heap.size, j, none⟩) (by dsimp only; omega)]; exact E1.at j hj)
  rw [hXl.out] at hgc hXs hcell ⊢
  have hcellh := Lib.hid hcell
  have zz : w.heap.size < w2.heap.size := by have := b2.size; omega
  clear hcell hown hX0 hext E1 b2 B1 hc8h hw1h
  unfold maxLen at hgm
  go_wp2_with fail
  go_loopw [3, 5] (fun hv iv wr => ∃ (k gh ch : Nat), k ≤ M ∧ iv = .int .i64 ((64 * k : Nat) : Int) ∧ hv = .slice (some ⟨gh, 0, none⟩) 8 ch ∧ 8 ≤ ch ∧ gh < wr.heap.size ∧ Eight wr gh (hs X k) ∧ Below w2.heap.size w2 wr) (fun _ iv _ => 64 * M - (intOf iv).toNat)
  case atStart => exact ⟨0, _, _, by omega, rfl, rfl, Nat.le_refl _, zz, E2, Below.refl _ _⟩
  case round =>
    obtain ⟨k, gh, ch, hkM, rfl, rfl, hch, hgh, hE, B3⟩ := hrel
    by_cases hlt : k < M
    · have i1 : ((64 * k : Nat) : Int) < ((64 * M : Nat) : Int) := by omega
      have hblk := Lib.hid (block_any gh 0 ch g (64 * k) (cap - 64 * k) (hs X k) (blk X k) wr (hs_ok X k) hgh (Nat.lt_of_lt_of_le hg2 B3.size) (blk_len X k (by rw [hXl.out]; omega)) (by omega) hch
        (fun j hj => by rw [Nat.zero_add]; exact hE.at j hj)
        (fun j hj => by rw [B3.cell (p := ⟨g, 64 * k + j, none⟩) hg2, blk_at X k j hj]; exact hcellh.out (64 * k + j) (by omega)))
      have hN : Hid (hs X (k + 1) = comp (hs X k) (blk X k)) := rfl
      rw [← hN.out] at hblk
      have j1 : IntKind.i64.wrap (((64 * k : Nat) : Int) + 64) = ((64 * k + 64 : Nat) : Int) := by rw [IntWalk.i64_in _ (by omega)]; omega
      have j2 : (0 : Int) ≤ ((64 * k : Nat) : Int) := by omega
      have j3 : ((64 * k : Nat) : Int) ≤ ((64 * k + 64 : Nat) : Int) := by omega
      have j4 : ((64 * k + 64 : Nat) : Int) ≤ (cap : Int) := by omega
      have j5 : ¬ cap = 64 * k := by omega
      have j6 : 64 * k + 64 - 64 * k = 64 := by omega
      have hEh := Lib.hid hE
      clear hE
      go_wp2_with fail
      refine hblk.out.mono ?_
      rintro e w4 ⟨v4, rfl, own4, b4⟩
      obtain ⟨g4, c4, rfl, _, hg4, hc4, cell4⟩ := ownW_cells own4 (by simp [lst])
      have B4 := B3.trans (b4.mono B3.size)
      have E4 : Eight w4 g4 (hs X (k + 1)) := Eight.of cell4
      have hc4' : 8 ≤ c4 := hc4
      clear cell4 own4 hc4
      go_wp2_with fail
      go_roundw
      case rel => exact ⟨k + 1, g4, c4, by omega, by go_num, rfl, hc4', hg4, E4, B4⟩
      case measure => simp [intOf]; omega
    · have hk2 : k = M := by omega
      have hHs : Hid (hs X k = hs X M) := by show _ = _; rw [hk2]
      have i1 : ¬ ((64 * k : Nat) : Int) < ((64 * M : Nat) : Int) := by omega
      rw [hHs.out] at hE
      have hok := hs_ok X M
      have hcE := Lib.hid (fun j (hj : j < 8) (W : World) (b : Below wr.heap.size wr W) => ((b.cell (p := ⟨gh, j, none⟩) hgh).trans (hE.at j hj)))
      have hlt8 := Lib.hid (fun j => lst_lt (hs X M) hok j)
      clear hHs hE hk2 hcellh hok
      obtain ⟨s, hsX⟩ : ∃ s, Hid (s = hs X M) := ⟨_, rfl⟩
      rw [← hsX.out] at hcE hlt8
      have z3 := B3.size
      go_wp2_with fail
      obtain ⟨wy, rfl⟩ : ∃ wy : World, wy = wr := ⟨_, rfl⟩
      go_loopw [6, 7] (fun ov iv wr => ∃ (k : Nat), k ≤ 8 ∧ iv = .int .i64 k ∧ OwnB wr wy.heap.size ov (oB s k) ∧ Below wy.heap.size wy wr) (fun _ iv _ => 8 - (intOf iv).toNat)
      case atStart => exact ⟨0, by omega, rfl, World.ownsRow_nil _ _ _ _, Below.refl _ _⟩
      case round =>
        obtain ⟨j, hj8, rfl, hown, BY⟩ := hrel
        by_cases hlt : j < 8
        · have c1 := hcE.out j hlt wr BY
          have hs2 : Hid (oB s (j + 1) = oB s j ++ by4 ((lst s).getD j 0)) := oB_succ _ _ hlt
          have hll := oB_len s j hj8
          generalize (lst s).getD j 0 = y at *
          have f0 := by_0 y
          have f1 := by_1 y
          have f2 := by_2 y
          have f3 := by_3 y
          have hb4 : Hid (by4 y = [UInt8.ofNat (y / 16777216), UInt8.ofNat (y / 65536 % 256), UInt8.ofNat (y / 256 % 256), UInt8.ofNat (y % 256)]) := rfl
          generalize UInt8.ofNat (y / 16777216) = x0 at *
          generalize UInt8.ofNat (y / 65536 % 256) = x1 at *
          generalize UInt8.ofNat (y / 256 % 256) = x2 at *
          generalize UInt8.ofNat (y % 256) = x3 at *
          unfold OwnB at hown
          rw [hll] at hown
          have hll2 := Lib.hid hll
          have zy := BY.size
          generalize oB s j = L at *
          clear hll
          have i8 : (j : Int) < 8 := by omega
          go_wp2_with fail
          go_region_law (refine step_append_lies _ (by rfl) _ _ _ (by rfl) wy.heap.size 5 i0 _ 1 1 Tryd.underlying93 hi hz0 hz1 hz2 rfl (by omega) u6 (4 * j) (cB L) (by rfl) ((hown.alloc _).drew) ⟨wr.heap.size, 0, none⟩ 4 4 [.int .u8 (x0.toNat : Int), .int .u8 (x1.toNat : Int), .int .u8 (x2.toNat : Int), .int .u8 (x3.toNat : Int)] (by rfl) (by rfl) (World.news_of_block (cs := #[.int .u8 (x0.toNat : Int), .int .u8 (x1.toNat : Int), .int .u8 (x2.toNat : Int), .int .u8 (x3.toNat : Int)]) (t := 5) (fr := (0, 0)) (heap_alloc_new wr _)) (by simp [Value.oneCell']) (by omega) (by unfold maxLen; omega) (by omega) (by simp; omega) (wr.heap.size + 1) (by simp) ?_; intro gg cap w1 hown1 hgrow hat hlt2)
          all_goals
            go_wp2_with fail
            go_roundw
            case rel =>
              refine ⟨j + 1, by omega, by go_num, ?_, ?_⟩
              · rw [hs2.out, hb4.out]
                unfold OwnB
                rw [List.length_append, hll2.out, cB, List.map_append]
                exact hown1
              · exact ((BY.alloc zy _).drew).grown hgrow (by simp; omega) (own_base hown)
            case measure => simp [intOf]; omega
        · have hj : j = 8 := by omega
          have hr2 : Hid (oB s j = outB s) := by show _ = _; rw [hj]; rfl
          rw [hr2.out] at hown
          have hO := outB_len s
          obtain ⟨go, co, rfl, _, _, _, _, hco⟩ := ownB_cells hown (fun e => by rw [e] at hO; simp at hO)
          have hcv := run_convert_bytes_back (P := Tryd.prog) wr 93 9 5 ⟨go, 0, none⟩ co (outB s) Tryd.underlying93 Tryd.underlying5 Tryd.underlying9 (fun i hi => by
            rw [Addr.add_lit, Nat.zero_add, hco i hi]
            simp [List.getD, List.getElem?_eq_getElem hi])
          have hjh := Lib.hid hj
          clear hj hown hco
          obtain ⟨O, hOX⟩ : ∃ O, Hid (O = outB s) := ⟨_, rfl⟩
          rw [← hOX.out] at hcv hO hr2 ⊢
          have hOh := Lib.hid hO
          clear hO
          go_wp2_with fail
          go_ret
          exact ⟨congrArg (fun z : List UInt8 => Ending.returned (.string ⟨z.toArray⟩)) (show O = outB (hs X M) by rw [hOX.out, hsX.out]), B2.trans ((B3.trans (BY.mono z3)).mono z2)⟩
end Go.Proofs.YtegahpfmkepfmaaDoor.R2
