import Derived.Test.YtegahpfmkepfmaaDoorMix
namespace Go.Proofs.YtegahpfmkepfmaaDoor
open Go.RowKit

theorem rotate_own (x : Nat) (y : Int) (w : World) (hx : x < 4294967296) (h1 : 1 ≤ y) (h2 : y ≤ 31) :
    Calls Tryd.prog 92 #[.int .u32 x, .int .i64 y] w fun e w' => e = .returned (.int .u32 (rot x y.toNat)) ∧ w' = w := rotate_lit x y w hx h1 h2
/-- what lies in memory while the words of a block are made -/
def SchW (n : Nat) (wr : World) (b : List UInt8) (l : List Nat) : Prop :=
  wr.heap[n]? = some (.cells (cB b).toArray 119 (0, 0)) ∧ wr.heap[n + 1]? = some (.cells (cW (List.replicate 64 0)).toArray 121 (0, 0)) ∧ wr.heap[n + 1 + 1]? = some (.cells (cW l).toArray 121 (0, 0))
theorem cW_set (l : List Nat) (i v : Nat) : (cW l).toArray.setIfInBounds i (.int .u32 (v : Int)) = (cW (l.set i v)).toArray := by
  simp [cW, List.map_set]
theorem SchW.drewN {n : Nat} {wr : World} {b : List UInt8} {l : List Nat} (h : SchW n wr b l) (m : Nat) : SchW n (wr.drewN m) b l := h
theorem SchW.drew {n : Nat} {wr : World} {b : List UInt8} {l : List Nat} (h : SchW n wr b l) : SchW n wr.drew b l := h
theorem SchW.set {n : Nat} {wr : World} {b : List UInt8} {l : List Nat} (h : SchW n wr b l) (i v : Nat) : SchW n (wr.setCell ⟨n + 1 + 1, i, none⟩ (.int .u32 (v : Int))) b (l.set i v) := by
  obtain ⟨h1, h2, h3⟩ := h
  rw [setCell_eq_setRow _ _ _ _ _ _ _ h3]
  refine ⟨by rw [setRow_other _ _ _ _ (by omega)]; exact h1, by rw [setRow_other _ _ _ _ (by omega)]; exact h2, ?_⟩
  rw [setRow_heap _ _ _ _ _ _ h3, ← cW_set]
theorem SchW.byte {n : Nat} {wr : World} {b : List UInt8} {l : List Nat} (h : SchW n wr b l) (i : Nat) (hi : i < b.length) : wr.cell? ⟨n, i, none⟩ = some (.int .u8 (((b.getD i 0).toNat : Nat) : Int)) := by
  rw [cell_of_row _ _ _ _ _ _ h.1]
  simp [cB, List.getD, List.getElem?_eq_getElem hi]
theorem SchW.word {n : Nat} {wr : World} {b : List UInt8} {l : List Nat} (h : SchW n wr b l) (i : Nat) (hi : i < l.length) : wr.cell? ⟨n + 1 + 1, i, none⟩ = some (.int .u32 ((l.getD i 0 : Nat) : Int)) := by
  rw [cell_of_row _ _ _ _ _ _ h.2.2]
  simp [cW, List.getD, List.getElem?_eq_getElem hi]
theorem SchW.free {n : Nat} {wr : World} {b : List UInt8} {l : List Nat} (h : SchW n wr b l) (i : Nat) : wr.frozen? ⟨n + 1 + 1, i, none⟩ = false := by
  simp [World.frozen?, h.2.2]

theorem z64 : (#[.int .u32 0, .int .u32 0, .int .u32 0, .int .u32 0, .int .u32 0, .int .u32 0, .int .u32 0, .int .u32 0, .int .u32 0, .int .u32 0, .int .u32 0, .int .u32 0, .int .u32 0, .int .u32 0, .int .u32 0, .int .u32 0, .int .u32 0, .int .u32 0, .int .u32 0, .int .u32 0, .int .u32 0, .int .u32 0, .int .u32 0, .int .u32 0, .int .u32 0, .int .u32 0, .int .u32 0, .int .u32 0, .int .u32 0, .int .u32 0, .int .u32 0, .int .u32 0, .int .u32 0, .int .u32 0, .int .u32 0, .int .u32 0, .int .u32 0, .int .u32 0, .int .u32 0, .int .u32 0, .int .u32 0, .int .u32 0, .int .u32 0, .int .u32 0, .int .u32 0, .int .u32 0, .int .u32 0, .int .u32 0, .int .u32 0, .int .u32 0, .int .u32 0, .int .u32 0, .int .u32 0, .int .u32 0, .int .u32 0, .int .u32 0, .int .u32 0, .int .u32 0, .int .u32 0, .int .u32 0, .int .u32 0, .int .u32 0, .int .u32 0, .int .u32 0] : Array Value) = (cW (List.replicate 64 0)).toArray := rfl
theorem three_world (w w0 : World) (cs ds es : Array Value) (t1 t2 t3 : TypeId) (hw0 : w0 = ((w.alloc (.cells cs t1)).alloc (.cells ds t2)).alloc (.cells es t3)) :
    w0.heap.size = w.heap.size + 3 ∧ Below w.heap.size w w0 ∧ w0.heap[w.heap.size]? = some (.cells cs t1 (0, 0)) ∧ w0.heap[w.heap.size + 1]? = some (.cells ds t2 (0, 0)) ∧ w0.heap[w.heap.size + 1 + 1]? = some (.cells es t3 (0, 0)) := by
  refine ⟨by rw [hw0]; simp, by rw [hw0]; exact (((Below.refl _ w).alloc (Nat.le_refl _) _).alloc (by simp) _).alloc (by simp; omega) _, ?_, ?_, ?_⟩
  · rw [hw0, heap_alloc_old (h := by simp; omega), heap_alloc2_old]
  · rw [hw0, heap_alloc_old (h := by simp), heap_alloc2_new]
  · rw [hw0]
    have := heap_alloc_new ((w.alloc (.cells cs t1)).alloc (.cells ds t2)) (.cells es t3)
    rwa [World.size_alloc, World.size_alloc] at this
set_option maxRecDepth 100000 in
theorem sch_world (w w0 : World) (b : List UInt8) (hw0 : w0 = ((w.alloc (.cells (cB b).toArray 119)).alloc (.cells (cW (List.replicate 64 0)).toArray 121)).alloc (.cells (cW (List.replicate 64 0)).toArray 121)) :
    Below w.heap.size w w0 ∧ SchW w.heap.size w0 b (List.replicate 64 0) ∧ w0.heap.size = w.heap.size + 3 := by
  obtain ⟨h1, h2, h3, h4, h5⟩ := three_world w w0 _ _ _ _ _ _ hw0
  exact ⟨h2, ⟨h3, h4, h5⟩, h1⟩
/-- word i of a block, of which j bytes have been read -/
def wp (b : List UInt8) (i : Nat) : Nat → Nat
  | 0 => 0
  | j + 1 => wp b i j * 256 % 4294967296 ||| (b.getD (4 * i + j) 0).toNat
theorem wp_lt (b : List UInt8) (i j : Nat) : wp b i j < 4294967296 := by
  cases j with
  | zero => simp [wp]
  | succ j => exact Nat.or_lt_two_pow (n := 32) (Nat.mod_lt _ (by decide)) (Nat.lt_of_lt_of_le (UInt8.toNat_lt _) (by decide))
theorem or_add (x y k : Nat) (h : y < 2 ^ k) : x * 2 ^ k ||| y = x * 2 ^ k + y := by
  rw [Nat.mul_comm, ← Nat.two_pow_add_eq_or_of_lt h]
theorem lin1 (x0 x1 x2 : Nat) : (x0 * 256 + x1) * 65536 + x2 * 256 = (x0 * 65536 + x1 * 256 + x2) * 256 := by omega
theorem lin2 (x0 x1 x2 : Nat) : ((x0 * 256 + x1) * 256 + x2) = x0 * 65536 + x1 * 256 + x2 := by omega
theorem wp_word (b : List UInt8) (i : Nat) : wp b i 4 = word b i := by
  have h0 : (b.getD (4 * i) 0).toNat < 256 := UInt8.toNat_lt _
  have h1 : (b.getD (4 * i + 1) 0).toNat < 256 := UInt8.toNat_lt _
  have h2 : (b.getD (4 * i + 2) 0).toNat < 256 := UInt8.toNat_lt _
  have h3 : (b.getD (4 * i + 3) 0).toNat < 256 := UInt8.toNat_lt _
  simp only [wp, word, Nat.add_zero]
  generalize (b.getD (4 * i) 0).toNat = x0 at *
  generalize (b.getD (4 * i + 1) 0).toNat = x1 at *
  generalize (b.getD (4 * i + 2) 0).toNat = x2 at *
  generalize (b.getD (4 * i + 3) 0).toNat = x3 at *
  have e1 := or_add x0 (x1 * 65536) 24 (by omega)
  have e2 := or_add (x0 * 256 + x1) (x2 * 256) 16 (by omega)
  have e3 := or_add (x0 * 65536 + x1 * 256 + x2) x3 8 (by omega)
  have f1 := or_add x0 x1 8 (by omega)
  have f2 := or_add (x0 * 256 + x1) x2 8 (by omega)
  simp only [Nat.reducePow] at e1 e2 e3 f1 f2
  have a0 : 0 * 256 % 4294967296 ||| x0 = x0 := by simp
  rw [a0, Nat.mod_eq_of_lt (a := x0 * 256) (by omega), f1, Nat.mod_eq_of_lt (a := (x0 * 256 + x1) * 256) (by omega), f2, Nat.mod_eq_of_lt (by omega), e1]
  have g1 : x0 * 16777216 + x1 * 65536 = (x0 * 256 + x1) * 65536 := by omega
  rw [g1, e2]
  have g2 : (x0 * 256 + x1) * 65536 + x2 * 256 = (x0 * 65536 + x1 * 256 + x2) * 256 := lin1 _ _ _
  rw [g2, show ((x0 * 256 + x1) * 256 + x2) = x0 * 65536 + x1 * 256 + x2 from lin2 _ _ _]
theorem wk_len (b : List UInt8) (n : Nat) : (wk b n).length = n := by
  induction n with
  | zero => rfl
  | succ n ih => simp [wk, ih]
/-- the row while word i is made: j bytes of it -/
def row1 (b : List UInt8) (i j : Nat) : List Nat := wk b i ++ [wp b i j] ++ List.replicate (63 - i) 0
def row2 (b : List UInt8) (i : Nat) : List Nat := wk b i ++ List.replicate (64 - i) 0
theorem row1_len (b : List UInt8) (i j : Nat) (h : i < 64) : (row1 b i j).length = 64 := by simp [row1, wk_len]; omega
theorem row2_len (b : List UInt8) (i : Nat) (h : i ≤ 64) : (row2 b i).length = 64 := by simp [row2, wk_len]; omega
theorem row1_zero (b : List UInt8) (i : Nat) (h : i < 64) : row1 b i 0 = row2 b i := by
  rw [row1, row2, show 64 - i = (63 - i) + 1 by omega, List.replicate_succ]; simp [wp]
theorem row1_set (b : List UInt8) (i j : Nat) (_h : i < 64) : (row1 b i j).set i (wp b i (j + 1)) = row1 b i (j + 1) := by
  have e : i = (wk b i).length := (wk_len b i).symm
  simp only [row1, List.append_assoc]
  conv => lhs; arg 2; rw [e]
  rw [List.set_append_right _ _ (Nat.le_refl _)]; simp
theorem row1_four (b : List UInt8) (i : Nat) (h : i < 16) : row1 b i 4 = row2 b (i + 1) := by
  rw [row1, row2, wp_word, wk, if_pos h, show 63 - i = 64 - (i + 1) by omega]
theorem row1_at (b : List UInt8) (i j : Nat) : (row1 b i j).getD i 0 = wp b i j := by
  have e : i = (wk b i).length := (wk_len b i).symm
  simp only [row1, List.append_assoc, List.getD]
  conv => lhs; arg 1; arg 2; rw [e]
  rw [List.getElem?_append_right (Nat.le_refl _)]; simp
theorem row2_set (b : List UInt8) (i : Nat) (_h : i < 64) (h16 : 16 ≤ i) : (row2 b i).set i (nxt (wk b i) i) = row2 b (i + 1) := by
  have e : i = (wk b i).length := (wk_len b i).symm
  rw [row2, row2, wk, if_neg (by omega), show 64 - i = (64 - (i + 1)) + 1 by omega, List.replicate_succ]
  conv => lhs; arg 2; rw [e]
  rw [List.set_append_right _ _ (Nat.le_refl _)]; simp
theorem row2_at (b : List UInt8) (i j : Nat) (h : j < i) : (row2 b i).getD j 0 = (wk b i).getD j 0 := by
  simp only [row2, List.getD]
  rw [List.getElem?_append_left (by rw [wk_len]; exact h)]
theorem row2_full (b : List UInt8) : row2 b 64 = wk b 64 := by simp [row2]
theorem nxt_lt (l : List Nat) (n : Nat) : nxt l n < 4294967296 := add32_lt _ _
theorem word_lt (b : List UInt8) (i : Nat) : word b i < 4294967296 := by rw [← wp_word]; exact wp_lt _ _ _
theorem wk_lt (b : List UInt8) (n j : Nat) : (wk b n).getD j 0 < 4294967296 := by
  induction n with
  | zero => simp [wk]
  | succ n ih =>
    rw [wk, List.getD, List.getElem?_append]
    split
    · exact ih
    · by_cases h : j - (wk b n).length = 0
      · rw [h]
        simp
        split
        · exact word_lt _ _
        · exact nxt_lt _ _
      · rw [List.getElem?_eq_none (by simp; omega)]; simp

theorem size121 : (Tryd.prog.info? 121).map (·.size) = some 64 := by kernel_rfl
theorem allW (l : List Nat) : (cW l).toArray.all (·.oneCell') = true := by simp [cW, Value.oneCell']
theorem ss0_eq (x : Nat) (h : x < 4294967296) : bits .xor .u32 (bits .xor .u32 ((rot x 7 : Nat) : Int) ((rot x 18 : Nat) : Int)) ((x : Int) / 8) = ((ss0 x : Nat) : Int) := by
  have e : (x : Int) / 8 = ((x / 8 : Nat) : Int) := by simp
  rw [e, u32_xor_nat _ _ (rot_lt _ _ h) (rot_lt _ _ h), u32_xor_nat _ _ (xor_lt _ _ (rot_lt _ _ h) (rot_lt _ _ h)) (Nat.lt_of_le_of_lt (Nat.div_le_self _ _) h)]
  rfl
theorem ss1_eq (x : Nat) (h : x < 4294967296) : bits .xor .u32 (bits .xor .u32 ((rot x 17 : Nat) : Int) ((rot x 19 : Nat) : Int)) ((x : Int) / 1024) = ((ss1 x : Nat) : Int) := by
  have e : (x : Int) / 1024 = ((x / 1024 : Nat) : Int) := by simp
  rw [e, u32_xor_nat _ _ (rot_lt _ _ h) (rot_lt _ _ h), u32_xor_nat _ _ (xor_lt _ _ (rot_lt _ _ h) (rot_lt _ _ h)) (Nat.lt_of_le_of_lt (Nat.div_le_self _ _) h)]
  rfl
set_option maxRecDepth 100000 in
set_option maxHeartbeats 1000000 in
theorem schedule_any (b : List UInt8) (w : World) (hb : b.length = 64) :
    Calls Tryd.prog 83 #[.agg (cB b).toArray] w fun e w' => e = .returned (.agg (cW (wk b 64)).toArray) ∧ Below w.heap.size w w' := by
  have hb2 := Lib.hid hb
  clear hb
  go_enter Tryd.func83, Tryd.ntmps83
  go_wp2_with fail
  rw [z64]
  obtain ⟨w0, hw0⟩ : ∃ w0, w0 = ((w.alloc (.cells (cB b).toArray 119)).alloc (.cells (cW (List.replicate 64 0)).toArray 121)).alloc (.cells (cW (List.replicate 64 0)).toArray 121) := ⟨_, rfl⟩
  rw [← hw0]
  obtain ⟨B0, S0, hsz⟩ := sch_world w w0 b hw0
  clear hw0
  have hsz2 := Lib.hid hsz
  clear hsz
  go_loopw [9] (fun v wr => ∃ i : Nat, i ≤ 16 ∧ v = .int .i64 i ∧ SchW w.heap.size wr b (row2 b i) ∧ Below w.heap.size w wr) (fun v _ => 16 - (intOf v).toNat)
  case atStart => exact ⟨0, by omega, rfl, S0, B0⟩
  case round =>
    obtain ⟨i, hi, rfl, S1, B1⟩ := hrel
    by_cases hlt : i < 16
    · go_wp2_with fail
      obtain ⟨wo, rfl⟩ : ∃ wo : World, wo = wr := ⟨_, rfl⟩
      go_loopw [12] (fun v wr => ∃ j : Nat, j ≤ 4 ∧ v = .int .i64 j ∧ SchW w.heap.size wr b (row1 b i j) ∧ Below w.heap.size w wr) (fun v _ => 4 - (intOf v).toNat)
      case atStart => exact ⟨0, by omega, rfl, by rw [row1_zero _ _ (by omega)]; exact S1, B1⟩
      case round =>
        obtain ⟨j, hj, rfl, S2, B2⟩ := hrel
        by_cases hjl : j < 4
        · have c1 := S2.byte (4 * i + j) (by rw [hb2.out]; omega)
          have c2 := S2.word i (by rw [row1_len _ _ _ (by omega)]; omega)
          have f2 := S2.free i
          rw [row1_at] at c2
          have bx := wp_lt b i j
          have hx : Hid (wp b i (j + 1) = wp b i j * 256 % 4294967296 ||| (b.getD (4 * i + j) 0).toNat) := rfl
          have by_ : (b.getD (4 * i + j) 0).toNat < 256 := UInt8.toNat_lt _
          have hor := u32_or_nat (wp b i j * 256 % 4294967296) (b.getD (4 * i + j) 0).toNat (Nat.mod_lt _ (by decide)) (by omega)
          rw [← hx.out] at hor
          have hset := Lib.hid (S2.set i (wp b i (j + 1)))
          rw [row1_set _ _ _ (by omega)] at hset
          generalize wp b i (j + 1) = z at *
          generalize (b.getD (4 * i + j) 0).toNat = y at *
          generalize wp b i j = x at *
          simp only [Int.natCast_emod, Int.natCast_mul, Int.cast_ofNat_Int] at hor
          go_wp2_with fail
          go_region
          go_wp2_with fail
          go_roundw
          case rel => exact ⟨j + 1, by omega, by go_num, hset.out.drew, (B2.setCell (p := ⟨w.heap.size + 1 + 1, i, none⟩) (by simp; omega) _).drew⟩
          case measure => simp [intOf]; omega
        · obtain rfl : j = 4 := by omega
          rw [row1_four _ _ hlt] at S2
          go_wp2_with fail
          go_roundw
          case rel => exact ⟨i + 1, by omega, by go_num, S2, B2⟩
          case measure => simp [intOf]; omega
    · obtain rfl : i = 16 := by omega
      go_wp2_with fail
      obtain ⟨wo, rfl⟩ : ∃ wo : World, wo = wr := ⟨_, rfl⟩
      go_loopw [6] (fun v wr => ∃ i : Nat, 16 ≤ i ∧ i ≤ 64 ∧ v = .int .i64 i ∧ SchW w.heap.size wr b (row2 b i) ∧ Below w.heap.size w wr) (fun v _ => 64 - (intOf v).toNat)
      case atStart => exact ⟨16, by omega, by omega, rfl, S1, B1⟩
      case round =>
        obtain ⟨i, hi16, hi, rfl, S2, B2⟩ := hrel
        by_cases hlt : i < 64
        · have hl := row2_len b i hi
          have c15 := S2.word (i - 15) (by omega)
          have c2 := S2.word (i - 2) (by omega)
          rw [row2_at _ _ _ (by omega)] at c15 c2
          have c16 := S2.word (i - 16) (by omega)
          have c7 := S2.word (i - 7) (by omega)
          rw [row2_at _ _ _ (by omega)] at c16 c7
          have v15 := wk_lt b i (i - 15)
          have v2 := wk_lt b i (i - 2)
          have hN : Hid (nxt (wk b i) i = add32 (add32 (add32 ((wk b i).getD (i - 16) 0) (ss0 ((wk b i).getD (i - 15) 0))) ((wk b i).getD (i - 7) 0)) (ss1 ((wk b i).getD (i - 2) 0))) := rfl
          have hl := Lib.hid hl
          generalize (wk b i).getD (i - 15) 0 = x15 at *
          generalize (wk b i).getD (i - 2) 0 = x2 at *
          generalize (wk b i).getD (i - 16) 0 = x16 at *
          generalize (wk b i).getD (i - 7) 0 = x7 at *
          have hc16 := Lib.hid c16
          have hc7 := Lib.hid c7
          have hc2 := Lib.hid c2
          clear c16 c7
          go_wp2_with fail
          go_quiet ((go_at_call 92; exact Calls.quiet_of_same (rotate_lit _ _ _ (by assumption) (by decide) (by decide))))
          rw [ss0_eq x15 v15]
          have S3 := S2.drewN nq
          have B3 := below_drewN B2 nq
          have d2 : (wr.drewN nq).cell? ⟨w.heap.size + 1 + 1, i - 2, none⟩ = _ := hc2.out
          have d16 := Lib.hid (show (wr.drewN nq).cell? ⟨w.heap.size + 1 + 1, i - 16, none⟩ = _ from hc16.out)
          have d7 := Lib.hid (show (wr.drewN nq).cell? ⟨w.heap.size + 1 + 1, i - 7, none⟩ = _ from hc7.out)
          generalize wr.drewN nq = wr2 at *
          go_wp2_with fail
          go_quiet ((go_at_call 92; exact Calls.quiet_of_same (rotate_lit _ _ _ (by assumption) (by decide) (by decide))))
          rw [ss1_eq x2 v2]
          have S4 := S3.drewN nq
          have B4 := below_drewN B3 nq
          have e16 : (wr2.drewN nq).cell? ⟨w.heap.size + 1 + 1, i - 16, none⟩ = _ := d16.out
          have e7 : (wr2.drewN nq).cell? ⟨w.heap.size + 1 + 1, i - 7, none⟩ = _ := d7.out
          generalize wr2.drewN nq = wr3 at *
          have ei := S4.word i (by rw [hl.out]; omega)
          have ef := S4.free i
          go_wp2_with fail
          go_region
          have en : ((x16 : Int) + (ss0 x15 : Nat) + (x7 : Int) + (ss1 x2 : Nat)) % 4294967296 = ((nxt (wk b i) i : Nat) : Int) := by rw [hN.out]; unfold add32; omega
          rw [en]
          have hset := Lib.hid (S4.set i (nxt (wk b i) i))
          rw [row2_set _ _ hlt (by omega)] at hset
          go_wp2_with fail
          go_roundw
          case rel => exact ⟨i + 1, by omega, by omega, by go_num, hset.out.drew, (B4.setCell (p := ⟨w.heap.size + 1 + 1, i, none⟩) (by simp; omega) _).drew⟩
          case measure => simp [intOf]; omega
        · obtain rfl : i = 64 := by omega
          rw [row2_full] at S2
          have hO := Lib.hid S2.2.1
          have hI := Lib.hid S2.2.2
          have hsz := wk_len b 64
          have hs1 : (Tryd.prog.info? 121).map (·.size) = some (cW (wk b 64)).toArray.size := by simp only [List.size_toArray, cW, List.length_map, hsz]; exact size121
          have hs2 : (cW (List.replicate 64 0)).toArray.size = (cW (wk b 64)).toArray.size := by simp only [List.size_toArray, cW, List.length_map, hsz, List.length_replicate]
          have hs1 := Lib.hid hs1
          have hs2 := Lib.hid hs2
          rename_i hs1o hs2o
          clear hs1o hs2o hsz
          go_wp2_with (first
            | (refine wpList_load_row rfl 121 (.tmp 3) rfl (w.heap.size + 1 + 1) rfl 121 (cW (wk b 64)).toArray (0, 0) _ hI.out Tryd.underlying121 rfl hs1.out ?_)
            | (refine wpList_store_row rfl 121 (.tmp 2) (.tmp 84) rfl (w.heap.size + 1) (cW (wk b 64)).toArray rfl rfl 121 _ hO.out hs1.out hs2.out (allW _) ?_))
          refine bodyPost_ret (v := _) (results_cell_row (fn := Tryd.f83) rfl _ _ (w.heap.size + 1) 121 _ (0, 0) _ rfl (setRow_heap _ _ _ _ _ _ hO.out) Tryd.underlying121 rfl hs1.out) rfl ⟨rfl, ?_⟩
          exact below_setRow B2 (by omega) _
end Go.Proofs.YtegahpfmkepfmaaDoor
