import Derived.Test.YtegahpfmkepfmaaDoorMix
namespace Go.Proofs.YtegahpfmkepfmaaDoor
open Go.RowKit
theorem lens_at (n i : Nat) (h : i < 8) : (lens n 8).drop (7 - i) = UInt8.ofNat (8 * n / 2 ^ (8 * i) % 256) :: (lens n 8).drop (8 - i) := by
  match i, h with
  | 0, _ => rfl
  | 1, _ => rfl
  | 2, _ => rfl
  | 3, _ => rfl
  | 4, _ => rfl
  | 5, _ => rfl
  | 6, _ => rfl
  | 7, _ => rfl
/-- the row of 72 bytes when i bytes of the length are there -/
def prow (n i : Nat) : List UInt8 := [128] ++ (List.replicate (pad n + (8 - i)) 0 ++ ((lens n 8).drop (8 - i) ++ List.replicate (63 - pad n) 0))
theorem prow_len (n i : Nat) (h : i ≤ 8) : (prow n i).length = 72 := by
  have := pad_lt n
  simp [prow, lens_len]; omega
theorem set_mid {α : Type} (a b : List α) (x v : α) : (a ++ (x :: b)).set a.length v = a ++ v :: b := by
  rw [List.set_append_right _ _ (Nat.le_refl _)]; simp
theorem prow_set (n i : Nat) (h : i < 8) : (prow n i).set (8 + pad n - i) (UInt8.ofNat (8 * n / 2 ^ (8 * i) % 256)) = prow n (i + 1) := by
  rw [prow, prow, show 8 + pad n - i = (pad n + (8 - (i + 1))) + 1 by omega, List.cons_append, List.set_cons_succ, List.nil_append, show 8 - (i + 1) = 7 - i by omega, lens_at n i h]
  rw [show pad n + (8 - i) = pad n + (7 - i) + 1 by omega, List.replicate_succ', List.append_assoc]
  have e : (List.replicate (pad n + (7 - i)) (0 : UInt8)).length = pad n + (7 - i) := by simp
  have hm := set_mid (List.replicate (pad n + (7 - i)) (0 : UInt8)) (List.drop (8 - i) (lens n 8) ++ List.replicate (63 - pad n) 0) 0 (UInt8.ofNat (8 * n / 2 ^ (8 * i) % 256))
  rw [e] at hm
  simp only [List.cons_append, List.nil_append]
  rw [hm]
theorem prow_tail (n : Nat) : (prow n 8).take (9 + pad n) = tail n := by
  have h : prow n 8 = tail n ++ List.replicate (63 - pad n) 0 := by simp [prow, tail]
  have e : (tail n).length = 9 + pad n := by simp [tail, lens_len]; omega
  rw [h, ← e, List.take_left]
theorem tail_len (n : Nat) : (tail n).length = 9 + pad n := by simp [tail, lens_len]; omega
def PadW (b : Nat) (wr : World) (l : List UInt8) : Prop := wr.heap[b]? = some (.cells (cB l).toArray 132 (0, 0))
theorem cB_set (l : List UInt8) (i : Nat) (v : UInt8) : (cB l).toArray.setIfInBounds i (.int .u8 (v.toNat : Int)) = (cB (l.set i v)).toArray := by
  simp [cB, List.map_set]
theorem PadW.set {b : Nat} {wr : World} {l : List UInt8} (h : PadW b wr l) (i : Nat) (v : UInt8) : PadW b (wr.setCell ⟨b, i, none⟩ (.int .u8 (v.toNat : Int))) (l.set i v) := by
  unfold PadW at h ⊢
  rw [setCell_eq_setRow _ _ _ _ _ _ _ h, setRow_heap _ _ _ _ _ _ h, ← cB_set]
theorem PadW.byte {n : Nat} {wr : World} {l : List UInt8} (h : PadW n wr l) (i : Nat) (hi : i < l.length) : wr.cell? ⟨n, i, none⟩ = some (.int .u8 (((l.getD i 0).toNat : Nat) : Int)) := by
  rw [cell_of_row _ _ _ _ _ _ h]
  simp [cB, List.getD, List.getElem?_eq_getElem hi]
theorem PadW.free {n : Nat} {wr : World} {l : List UInt8} (h : PadW n wr l) (i : Nat) : wr.frozen? ⟨n, i, none⟩ = false := by
  unfold PadW at h
  simp [World.frozen?, h]
theorem z72 (n : Nat) : Tryd.zeroCells132.setIfInBounds 0 (Value.int .u8 128) = (cB (prow n 0)).toArray := by
  have h : prow n 0 = 128 :: List.replicate 71 0 := by
    have := pad_lt n
    have e : (lens n 8).drop (8 - 0) = [] := List.drop_of_length_le (by rw [lens_len]; omega)
    rw [prow, e, List.nil_append, List.replicate_append_replicate, show pad n + (8 - 0) + (63 - pad n) = 71 by omega]; rfl
  rw [h]; rfl
theorem pad_end (n : Nat) : (64 - (n : Int) % 64 ≤ 8 ∧ 64 - (n : Int) % 64 + 64 = ((9 + pad n : Nat) : Int)) ∨ (8 < 64 - (n : Int) % 64 ∧ 64 - (n : Int) % 64 = ((9 + pad n : Nat) : Int)) := by
  unfold pad; omega
theorem byte_val (n k : Nat) : (8 * (n : Int)) / 2 ^ (8 * k) % 256 = ((UInt8.ofNat (8 * n / 2 ^ (8 * k) % 256)).toNat : Int) := by
  have h : 8 * n / 2 ^ (8 * k) % 256 < 256 := Nat.mod_lt _ (by decide)
  rw [UInt8.toNat_ofNat', Nat.mod_eq_of_lt h]
  simp

theorem size5 : ∀ w, (Go.sizeOf 5).run Tryd.prog w = .ok 1 w := fun _ => by kernel_rfl
theorem slice132 (W : World) (b : Nat) (m : Nat) (hm : m ≤ 72) : (Instr.sliceAt 132 (.pointer (some ⟨b, 0, none⟩)) none (some (.int .i64 (m : Int))) none).run Tryd.prog W = .ok (.slice (some ⟨b, 0, none⟩) m 72) W := by
  have e1 : Tryd.prog.arrayLen 132 = 72 := by kernel_rfl
  have e2 : Tryd.prog.elem 132 = 5 := by kernel_rfl
  rw [run_sliceAt_array_h W 132 ⟨b, 0, none⟩ (by kernel_rfl) .i64 m (by omega) (by rw [e1]; omega), e2, size5, e1]
  simp [Result.andThen, slicedAt, Addr.add]
theorem add_block (b j : Nat) : (Addr.add ⟨b, 0, none⟩ j) = ⟨b, j, none⟩ := by
  unfold Addr.add
  split
  · rename_i e; rw [e]
  · simp
theorem pad_bytes (n : Nat) (W : World) (b : Nat) (h : PadW b W (prow n 8)) (j : Nat) (hj : j < (tail n).length) : W.cell? (Addr.add ⟨b, 0, none⟩ j) = some (.int .u8 ((tail n)[j].toNat : Int)) := by
  have hl := pad_lt n
  rw [tail_len] at hj
  rw [add_block, h.byte j (by rw [prow_len _ _ (by omega)]; omega)]
  congr 3
  have e := prow_tail n
  have : (tail n)[j]? = (prow n 8)[j]? := by rw [← e, List.getElem?_take_of_lt hj]
  rw [List.getElem?_eq_getElem (by rw [tail_len]; exact hj)] at this
  rw [List.getD, ← this]; rfl
set_option maxRecDepth 100000 in
set_option maxHeartbeats 1000000 in
theorem padding_any (n : Nat) (w : World) (hn : n ≤ 1000000000000000) :
    Calls Tryd.prog 81 #[.int .i64 n] w fun e w' => e = .returned (.string ⟨(tail n).toArray⟩) ∧ Below w.heap.size w w' := by
  rcases pad_end n with ⟨p1, p2⟩ | ⟨p1, p2⟩
  all_goals
    have hp := Lib.hid p2
    clear p2
    go_enter Tryd.func81, Tryd.ntmps81
    go_wp2_with fail
    rw [z72 n]
    obtain ⟨w0, hw0⟩ : ∃ w0, w0 = w.alloc (.cells (cB (prow n 0)).toArray 132) := ⟨_, rfl⟩
    rw [← hw0]
    have B0 : Below w.heap.size w w0 := by rw [hw0]; exact (Below.refl _ w).alloc (Nat.le_refl _) _
    have P0 : PadW w.heap.size w0 (prow n 0) := by rw [hw0]; exact heap_alloc_new _ _
    clear hw0
    rw [hp.out]
    have hpl := pad_lt n
    go_loopw [14] (fun v wr => ∃ i : Nat, i ≤ 8 ∧ v = .int .i64 i ∧ PadW w.heap.size wr (prow n i) ∧ Below w.heap.size w wr) (fun v _ => 8 - (intOf v).toNat)
    case atStart => exact ⟨0, by omega, rfl, P0, B0⟩
    case round =>
      obtain ⟨i, hi, rfl, P1, B1⟩ := hrel
      by_cases hlt : i < 8
      · have c1 := P1.byte (8 + pad n - i) (by rw [prow_len _ _ hi]; omega)
        have f1 := P1.free (8 + pad n - i)
        have hset := Lib.hid (P1.set (8 + pad n - i) (UInt8.ofNat (8 * n / 2 ^ (8 * i) % 256)))
        rw [prow_set _ _ hlt] at hset
        have hv := byte_val n i
        generalize UInt8.ofNat (8 * n / 2 ^ (8 * i) % 256) = v at *
        generalize (prow n i).getD (8 + pad n - i) 0 = y at *
        have hv2 := Lib.hid hv
        clear hv
        go_wp2_with fail
        rw [hv2.out]
        go_roundw
        case rel => exact ⟨i + 1, by omega, by go_num, hset.out, B1.setCell (p := ⟨w.heap.size, 8 + pad n - i, none⟩) (Nat.le_refl _) _⟩
        case measure => simp [intOf]; omega
      · obtain rfl : i = 8 := by omega
        have hl := tail_len n
        have hsl := slice132 wr w.heap.size (9 + pad n) (by omega)
        simp only [Int.natCast_add, Int.cast_ofNat_Int] at hsl
        have hcv := run_convert_bytes_back (P := Tryd.prog) wr 93 9 5 ⟨w.heap.size, 0, none⟩ 72 (tail n) Tryd.underlying93 Tryd.underlying5 Tryd.underlying9 (pad_bytes n _ _ P1)
        rw [hl] at hcv
        have hl := Lib.hid hl
        rename_i hlo
        clear hlo
        go_wp2_with fail
        go_ret
        exact ⟨rfl, B1⟩
end Go.Proofs.YtegahpfmkepfmaaDoor
