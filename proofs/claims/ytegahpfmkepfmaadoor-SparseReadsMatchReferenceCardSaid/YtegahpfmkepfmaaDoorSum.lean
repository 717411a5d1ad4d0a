import Derived.Test.YtegahpfmkepfmaaDoorOrd
import Derived.Test.YtegahpfmkepfmaaDoorPad
import Derived.Test.YtegahpfmkepfmaaDoorSch
namespace Go.Proofs.YtegahpfmkepfmaaDoor
open Go.RowKit Go.Shelf
attribute [local go_sem] Oper.semAt_some

/-- the words behind the blocks that were handed out -/
def hpre (l : List Blk) : S8 := l.foldl (fun s x => comp s x.1) h0
theorem hpre_snoc (l : List Blk) (x : Blk) : hpre (l ++ [x]) = comp (hpre l) x.1 := by simp [hpre]
theorem hpre_ok (l : List Blk) : Ok8 (hpre l) := by
  rcases List.eq_nil_or_concat l with rfl | ⟨q, x, rfl⟩
  · exact h0_ok
  · rw [List.concat_eq_append, hpre_snoc]; exact plus_ok _ _
theorem hs_fold (X : List UInt8) (M : Nat) : ((List.range M).map (blk X)).foldl comp h0 = hs X M := by
  induction M with
  | zero => rfl
  | succ M ih => rw [List.range_succ, List.map_append, List.foldl_append, ih]; rfl
theorem hpre_done (xs : List Blk) (X : List UInt8) (M : Nat) (h : xs.map Subtype.val = (List.range M).map (blk X)) : hpre xs = hs X M := by
  rw [← hs_fold, ← h, List.foldl_map]; rfl
theorem allB (l : List UInt8) : (cB l).toArray.all (·.oneCell') = true := by simp [cB, Value.oneCell']
theorem all_c8 (s : S8) : (c8 s).all (·.oneCell') = true := by simp [c8, Value.oneCell']
theorem size_c8 (s : S8) : (Tryd.prog.info? 113).map (·.size) = some (c8 s).size := size113
theorem zb32 : (#[.int .u8 0, .int .u8 0, .int .u8 0, .int .u8 0, .int .u8 0, .int .u8 0, .int .u8 0, .int .u8 0, .int .u8 0, .int .u8 0, .int .u8 0, .int .u8 0, .int .u8 0, .int .u8 0, .int .u8 0, .int .u8 0, .int .u8 0, .int .u8 0, .int .u8 0, .int .u8 0, .int .u8 0, .int .u8 0, .int .u8 0, .int .u8 0, .int .u8 0, .int .u8 0, .int .u8 0, .int .u8 0, .int .u8 0, .int .u8 0, .int .u8 0, .int .u8 0] : Array Value) = (cB (List.replicate 32 0)).toArray := rfl
def PadW7 (b : Nat) (wr : World) (l : List UInt8) : Prop := wr.heap[b]? = some (.cells (cB l).toArray 123 (0, 0))
theorem PadW7.set {b : Nat} {wr : World} {l : List UInt8} (h : PadW7 b wr l) (i : Nat) (v : UInt8) : PadW7 b (wr.setCell ⟨b, i, none⟩ (.int .u8 (v.toNat : Int))) (l.set i v) := by
  unfold PadW7 at h ⊢
  rw [setCell_eq_setRow _ _ _ _ _ _ _ h, setRow_heap _ _ _ _ _ _ h, ← cB_set]
theorem PadW7.byte {n : Nat} {wr : World} {l : List UInt8} (h : PadW7 n wr l) (i : Nat) (hi : i < l.length) : wr.cell? ⟨n, i, none⟩ = some (.int .u8 (((l.getD i 0).toNat : Nat) : Int)) := by
  rw [cell_of_row _ _ _ _ _ _ h]
  simp [cB, List.getD, List.getElem?_eq_getElem hi]
theorem PadW7.free {n : Nat} {wr : World} {l : List UInt8} (h : PadW7 n wr l) (i : Nat) : wr.frozen? ⟨n, i, none⟩ = false := by
  unfold PadW7 at h
  simp [World.frozen?, h]
/-- the row of 32 bytes when k are there -/
def orow (s : S8) (k : Nat) : List UInt8 := (outB s).take k ++ List.replicate (32 - k) 0
theorem orow_zero (s : S8) : orow s (4 * 0) = List.replicate 32 0 := by simp [orow]
theorem orow_len (s : S8) (k : Nat) (h : k ≤ 32) : (orow s k).length = 32 := by simp [orow, outB_len]; omega
theorem orow_set (s : S8) (k : Nat) (h : k < 32) : (orow s k).set k ((outB s).getD k 0) = orow s (k + 1) := by
  have hl : k < (outB s).length := by rw [outB_len]; exact h
  have e : ((outB s).take k).length = k := by simp [outB_len]; omega
  have hm := set_mid ((outB s).take k) (List.replicate (32 - (k + 1)) 0) 0 ((outB s).getD k 0)
  rw [e] at hm
  have g : (outB s).getD k 0 = (outB s)[k] := by simp [List.getD, List.getElem?_eq_getElem hl]
  rw [orow, orow, show 32 - k = (32 - (k + 1)) + 1 by omega, List.replicate_succ, hm, List.take_succ_eq_append_getElem hl, g, List.append_assoc]; rfl
theorem orow_full (s : S8) : orow s 32 = outB s := by simp [orow, List.take_of_length_le, outB_len]
set_option maxRecDepth 100000 in
theorem hidx (s : S8) (i : Nat) (h : i < 8) (w : World) : (Instr.index 113 (.agg (c8 s)) (.int .i64 (i : Int))).run Tryd.prog w = .ok (.int .u32 (((lst s).getD i 0 : Nat) : Int)) w := by
  match i, h with
  | 0, _ => rfl
  | 1, _ => rfl
  | 2, _ => rfl
  | 3, _ => rfl
  | 4, _ => rfl
  | 5, _ => rfl
  | 6, _ => rfl
  | 7, _ => rfl
theorem byte_val2 (n k : Nat) : (n : Int) / 2 ^ k % 256 = ((UInt8.ofNat (n / 2 ^ k % 256)).toNat : Int) := by
  have h : n / 2 ^ k % 256 < 256 := Nat.mod_lt _ (by decide)
  rw [UInt8.toNat_ofNat', Nat.mod_eq_of_lt h]
  simp
theorem u8_mod (n : Nat) : UInt8.ofNat (n % 256) = UInt8.ofNat n := by
  apply UInt8.toNat_inj.1
  simp
theorem outB_at (s : S8) (i j : Nat) (hi : i < 8) (hj : j < 4) : (outB s).getD (4 * i + j) 0 = UInt8.ofNat ((lst s).getD i 0 / 2 ^ (8 * (3 - j)) % 256) := by
  match i, j, hi, hj with
  | 0, 0, _, _ | 1, 0, _, _ | 2, 0, _, _ | 3, 0, _, _ | 4, 0, _, _ | 5, 0, _, _ | 6, 0, _, _ | 7, 0, _, _ => rw [u8_mod]; rfl
  | 0, 1, _, _ | 1, 1, _, _ | 2, 1, _, _ | 3, 1, _, _ | 4, 1, _, _ | 5, 1, _, _ | 6, 1, _, _ | 7, 1, _, _ => rfl
  | 0, 2, _, _ | 1, 2, _, _ | 2, 2, _, _ | 3, 2, _, _ | 4, 2, _, _ | 5, 2, _, _ | 6, 2, _, _ | 7, 2, _, _ => rfl
  | 0, 3, _, _ | 1, 3, _, _ | 2, 3, _, _ | 3, 3, _, _ | 4, 3, _, _ | 5, 3, _, _ | 6, 3, _, _ | 7, 3, _, _ => simp [outB, lst, by4]
theorem lst_lt (s : S8) (h : Ok8 s) (i : Nat) : (lst s).getD i 0 < 4294967296 := by
  obtain ⟨a, b, c, d, e, f, g, h⟩ := h
  match i with
  | 0 => exact a
  | 1 => exact b
  | 2 => exact c
  | 3 => exact d
  | 4 => exact e
  | 5 => exact f
  | 6 => exact g
  | 7 => exact h
  | i + 8 => simp [lst]
theorem slice123 (W : World) (b : Nat) : (Instr.sliceAt 123 (.pointer (some ⟨b, 0, none⟩)) none none none).run Tryd.prog W = .ok (.slice (some ⟨b, 0, none⟩) 32 32) W := by
  have e1 : Tryd.prog.arrayLen 123 = 32 := by kernel_rfl
  have e2 : Tryd.prog.elem 123 = 5 := by kernel_rfl
  rw [run_sliceAt_array_all W 123 ⟨b, 0, none⟩ (by kernel_rfl), e2, size5, e1]
  simp [Result.andThen, slicedAt, Addr.add]
theorem out_bytes (s : S8) (W : World) (b : Nat) (h : PadW7 b W (outB s)) (j : Nat) (hj : j < (outB s).length) : W.cell? (Addr.add ⟨b, 0, none⟩ j) = some (.int .u8 ((outB s)[j].toNat : Int)) := by
  rw [add_block, h.byte j hj]
  congr 3
  simp [List.getD, List.getElem?_eq_getElem hj]
theorem blocks_maker (a : Option Addr) (l c : Nat) (w : World) :
    Calls Tryd.prog 79 #[.slice a l c] w fun e w' => e = .returned (.func (.func 90) #[] #[.pointer (some ⟨w.heap.size, 0, none⟩)]) ∧ (w.alloc (.cells #[.slice a l c] 35)) = w' := by
  go_enter Tryd.func79, Tryd.ntmps79
  go_wp2
  go_ret
  exact ⟨rfl, rfl⟩
theorem h0_cells : (#[.int .u32 1779033703, .int .u32 3144134277, .int .u32 1013904242, .int .u32 2773480762, .int .u32 1359893119, .int .u32 2600822924, .int .u32 528734635, .int .u32 1541459225] : Array Value) = c8 h0 := rfl
theorem two_world (w w0 : World) (cs ds : Array Value) (t1 t2 : TypeId) (hw0 : w0 = (w.alloc (.cells cs t1)).alloc (.cells ds t2)) :
    w0.heap.size = w.heap.size + 2 ∧ Below w.heap.size w w0 ∧ w0.heap[w.heap.size]? = some (.cells cs t1 (0, 0)) ∧ w0.heap[w.heap.size + 1]? = some (.cells ds t2 (0, 0)) := by
  refine ⟨by rw [hw0]; simp, by rw [hw0]; exact ((Below.refl _ w).alloc (Nat.le_refl _) _).alloc (by simp) _, ?_, ?_⟩
  · rw [hw0, heap_alloc2_old]
  · rw [hw0, heap_alloc2_new]

set_option maxRecDepth 100000 in
set_option maxHeartbeats 1000000 in
theorem sum_in (bp : Nat) (ss : List ByteArray) (w : World) (h1 : 1 ≤ ss.length) (hn : ss.length ≤ 1000) (hz : (cat ss).length ≤ 100000000000000) (hT : Tab w)
    (hp : ∀ j u, (cS ss)[j]? = some u → w.cell? ⟨bp, j, none⟩ = some u) :
    CallsIn Fence.wide 7 Tryd.prog 60 #[.slice (some ⟨bp, 0, none⟩) ss.length ss.length] w fun e w' => e = .returned (.string ⟨(sha (cat ss)).toArray⟩) ∧ Below w.heap.size w w' := by
  obtain ⟨N, hN⟩ : ∃ N, Hid (N = ss.length) := ⟨_, rfl⟩
  have hp2 := Lib.hid hp
  rw [← hN.out] at h1 hn ⊢
  clear hp
  refine callsIn_of_wp_marks Tryd.func60 rfl trivial ?_ rfl
  simp only [Tryd.ntmps60, List.size_toArray, List.length_cons, List.length_nil, Nat.reduceAdd, Nat.reduceSub, Array.replicate_succ, Array.replicate_zero, List.push_toArray, List.append_toArray, List.nil_append, List.cons_append]
  gi_wp2_with fail
  gi_loop [3, 5, 14] (fun s _ v => ∃ i m : Nat, i ≤ N ∧ v = .int .i64 i ∧ s = .int .i64 m ∧ m ≤ 100000000000000 ∧ Hid (m = (cat (ss.take i)).length)) (fun _ _ v => N - (intOf v).toNat)
  case atStart => exact ⟨0, 0, by omega, rfl, rfl, by omega, rfl⟩
  case round =>
    obtain ⟨i, m, hi, rfl, rfl, hmb, hm⟩ := hrel
    by_cases hlt : i < N
    · have hlt2 : i < ss.length := by rw [← hN.out]; exact hlt
      have ci := hp2.out i (.string ss[i]) (by simp [cS, List.getElem?_eq_getElem hlt2])
      have hm2 : Hid (m + ss[i].size = (cat (ss.take (i + 1))).length) := by
        show _ = _
        rw [List.take_succ_eq_append_getElem hlt2, cat, List.flatMap_append, List.length_append, hm.out]; simp [cat]
      have hle : m + ss[i].size ≤ 100000000000000 := by
        rw [hm2.out]
        have h3 := congrArg (fun l => (cat l).length) (List.take_append_drop (i + 1) ss)
        simp only [cat, List.flatMap_append, List.length_append] at h3
        have h4 : (cat ss).length = (List.flatMap (fun s : ByteArray => s.data.toList) ss).length := rfl
        show (List.flatMap (fun s : ByteArray => s.data.toList) (List.take (i + 1) ss)).length ≤ _
        omega
      generalize ss[i] = s0 at *
      gi_wp2_with fail
      go_round
      case rel => exact ⟨i + 1, m + s0.size, by omega, by go_num, by go_num, hle, hm2⟩
      case measure => simp [intOf]; omega
    · obtain rfl : i = N := by omega
      have hm3 : Hid (m = (cat ss).length) := by show _ = _; rw [hm.out, hN.out, List.take_length]
      gi_wp2_with fail
      rw [h0_cells]
      obtain ⟨w1, hw1⟩ : ∃ w1, w1 = w.alloc (.cells (c8 h0) 113) := ⟨_, rfl⟩
      rw [← hw1]
      have B1 : Below w.heap.size w w1 := by rw [hw1]; exact (Below.refl _ w).alloc (Nat.le_refl _) _
      have H1 : w1.heap[w.heap.size]? = some (.cells (c8 h0) 113 (0, 0)) := by rw [hw1]; exact heap_alloc_new _ _
      have z1 : w1.heap.size = w.heap.size + 1 := by rw [hw1]; simp
      clear hw1
      refine ⟨trivial, (callsIn_wide.2 (padding_any m _ (by omega))).mono ?_⟩
      rintro e w2 ⟨rfl, b2⟩
      have z2 := b2.size
      gi_wp2_with fail
      obtain ⟨w3, hw3⟩ : ∃ w3, w3 = (w2.alloc (.cells #[.string ⟨(tail m).toArray⟩] 9)).alloc (.cells #[.slice (some ⟨bp, 0, none⟩) i i, .slice (some ⟨w2.heap.size, 0, none⟩) 1 1] 35) := ⟨_, rfl⟩
      rw [← hw3]
      obtain ⟨z3, b3, r3a, r3b⟩ := two_world w2 w3 _ _ _ _ hw3
      clear hw3
      have B2 : Below w.heap.size w w2 := B1.trans (b2.mono (by omega))
      have B3 : Below w.heap.size w w3 := B2.trans (b3.mono (by omega))
      have bpl : bp < w.heap.size := World.block_lt_of_cell? w ⟨bp, 0, none⟩ (hp2.out 0 _ (List.getElem?_eq_getElem (by simp [cS]; rw [← hN.out]; omega)))
      have hcat := Concat_any (w2.heap.size + 1) bp w2.heap.size ss ⟨(tail m).toArray⟩ w3 (by rw [← hN.out]; exact h1) (by rw [← hN.out]; omega)
        (by rw [cell_of_row _ _ _ _ _ _ r3b, ← hN.out]; rfl) (by rw [cell_of_row _ _ _ _ _ _ r3b]; rfl) (fun j u e => by rw [B3.cell (p := ⟨bp, j, none⟩) bpl]; exact hp2.out j u e) (by rw [cell_of_row _ _ _ _ _ _ r3a]; rfl)
      refine ⟨trivial, (callsIn_wide.2 hcat).mono ?_⟩
      clear hcat
      rintro e w4 ⟨g, cap, rfl, hg, hgc, b4⟩
      rw [← hN.out]
      have hgc2 := Lib.hid hgc
      clear hgc
      have z4 := b4.size
      gi_wp2_with fail
      refine ⟨trivial, (callsIn_wide.2 (blocks_maker _ _ _ _)).mono ?_⟩
      rintro e w5 ⟨rfl, hw5⟩
      gi_wp2_with fail
      have gl : g < w4.heap.size := World.block_lt_of_cell? w4 ⟨g, 0, none⟩ (hgc2.out 0 _ (List.getElem?_eq_getElem (by simp [cS])))
      have b5 : Below w4.heap.size w4 w5 := by rw [← hw5]; exact (Below.refl _ w4).alloc (Nat.le_refl _) _
      have r5 : w5.heap[w4.heap.size]? = some (.cells #[.slice (some ⟨g, 0, none⟩) (i + 1) cap] 35 (0, 0)) := by rw [← hw5]; exact heap_alloc_new _ _
      have z5 : w5.heap.size = w4.heap.size + 1 := by rw [← hw5]; simp
      clear hw5
      have B4 : Below w.heap.size w w4 := B3.trans (b4.mono (by omega))
      have B5 : Below w.heap.size w w5 := B4.trans (b5.mono (by omega))
      have H5 : w5.heap[w.heap.size]? = some (.cells (c8 h0) 113 (0, 0)) := by
        rw [b5.block _ (by omega), b4.block _ (by omega), b3.block _ (by omega), b2.block _ (by omega)]; exact H1
      obtain ⟨st, hst⟩ : ∃ st : List ByteArray, Hid (st = ss ++ [(⟨(tail m).toArray⟩ : ByteArray)]) := ⟨_, rfl⟩
      have hstl : Hid (st.length = i + 1) := by show _ = _; rw [hst.out, hN.out]; simp
      have hcat : Hid (cat st = ext (cat ss)) := by
        show _ = _
        rw [hst.out, ext_tail, ← hm3.out]; simp [cat]
      obtain ⟨M, hM⟩ : ∃ M, Hid (M = (ext (cat ss)).length / 64) := ⟨_, rfl⟩
      have hMl : (cat st).length = 64 * M := by rw [hcat.out, hM.out]; have := ext_mod (cat ss); omega
      have hzs : ∀ s ∈ st, ByteArray.size s ≤ 1000000000000000 := by
        intro s hs
        obtain ⟨A, B, hAB⟩ := List.append_of_mem hs
        have h1 : (cat st).length = (ext (cat ss)).length := by rw [hcat.out]
        have h2 := ext_len (cat ss)
        have h3 := pad_lt (cat ss).length
        rw [hAB] at h1
        simp [cat] at h1 h2 h3 hz
        omega
      refine range_own (α := Blk) (F := Fence.wide) (n := 7) rfl (by omega) (gf := 90) (lb := #[.pointer (some ⟨w4.heap.size, 0, none⟩)]) rfl trivial (enters_of Tryd.func90 (by kernel_rfl) rfl)
        (encs := fun x => #[.agg (cB x.1).toArray]) (Kp := KpX w.heap.size) (S := fun xs => xs.map Subtype.val = (List.range M).map (blk (cat st))) (N := M) ?seq KpX.trans (fun W l o o' h1 h2 => KpX.puts W l o o' h1 h2) (fun _ => rfl)
        (fun pre W => W.heap[w.heap.size]? = some (.cells (c8 (hpre pre)) 113 (0, 0)) ∧ Below w.heap.size w W) ?apart ⟨H5, B5⟩ ?round ?done
      case seq =>
        intro l J W hW hJ hY h0
        exact blocks_in Fence.wide _ trivial rfl (by omega) l w4.heap.size g w.heap.size cap M st w5 J W hW hJ hMl (by rw [hstl.out]; omega) (by rw [hstl.out]; omega) hzs (by omega) (by omega) (by omega) (by omega)
          (by rw [cell_of_row _ _ _ _ _ _ r5, hstl.out]; rfl) (fun j u e => by rw [b5.cell (p := ⟨g, j, none⟩) gl]; rw [hst.out] at e; exact hgc2.out j u e) hY h0
      case apart =>
        rintro s A B row ⟨p1, p2⟩ hgr hrow
        refine ⟨?_, p2.grown hgr p2.size (fun k e => by have := hrow k e; omega)⟩
        rw [hgr.block _ (Array.getElem?_eq_some_iff.1 p1).1 (fun e => by have := hrow _ e.symm; omega)]; exact p1
      case round =>
        rintro l pre x W hl ⟨p1, p2⟩ hlen
        have hx64 : (cB x.1).toArray.size = 64 := by simp [cB, x.2]
        gi_wp2_with (refine wpListIn_store_row rfl 119 (.tmp 7) (.tmp 31) rfl W.heap.size (cB x.1).toArray rfl rfl 119 _ (heap_alloc_new W _) (sizeB _ x.2) hx64.symm (allB _) ?_)
        rw [World.setRow_alloc_new]
        have zW := p2.size
        refine ⟨(KeepsOthers.alloc _ _).from _, KpX.below ((Below.refl _ W).alloc (Nat.le_refl _) _) (Nat.le_refl _), ⟨by rw [heap_alloc_old (h := (Array.getElem?_eq_some_iff.1 p1).1)]; exact p1, p2.alloc zW _⟩, ?_⟩
        rintro o o' ho hoc ⟨q1, q2⟩
        have hlW : l ≠ W.heap.size := fun e => by rw [e, heap_alloc_new] at ho; cases ho; simp [Obj.isCells] at hoc
        have q3 : ((W.alloc (.cells (cB x.1).toArray 119)).putObj l o').heap[W.heap.size]? = some (.cells (cB x.1).toArray 119 (0, 0)) := by
          rw [World.putObj_heap_other (fun e => hlW e.symm)]; exact heap_alloc_new _ _
        generalize (W.alloc (.cells (cB x.1).toArray 119)).putObj l o' = V at *
        have hTV : Tab V := hT.below q2
        have zV := q2.size
        have hw7 : w.heap.size < W.heap.size := (Array.getElem?_eq_some_iff.1 p1).1
        gi_wp2_with fail
        refine wpIn_region_any (by kernel_rfl) ?_
        change wpAnyIn _ _ _ _ _ _ _ _ _ (World.drew _)
        have q1' : V.drew.heap[w.heap.size]? = some (.cells (c8 (hpre pre)) 113 (0, 0)) := q1
        have q3' : V.drew.heap[W.heap.size]? = some (.cells (cB x.1).toArray 119 (0, 0)) := q3
        have hT' : Tab V.drew := hTV
        have q2' : Below w.heap.size w V.drew := q2.drew
        have kf : KeepsFrom w5.heap.size V V.drew := (KeepsOthers.drew V).from _
        have kx : KpX w.heap.size V V.drew := ⟨Nat.le_refl _, fun _ _ _ _ _ e => e⟩
        generalize V.drew = V0 at q1' q3' hT' q2' kf kx ⊢
        have hsch := schedule_any x.1 V0 x.2
        have hok := hpre_ok pre
        -- behind the schedule: the words of the block are made in V1
        have fin : ∀ V1, Below V0.heap.size V0 V1 → V1.heap[w.heap.size]? = some (.cells (c8 (hpre pre)) 113 (0, 0)) ∧ Tab V1 ∧ KeepsFrom w5.heap.size V V1 ∧ KpX w.heap.size V V1 ∧ Below w.heap.size w V1 := fun V1 b => by
          have hlt := (Array.getElem?_eq_some_iff.1 q1').1
          refine ⟨by rw [b.block _ hlt]; exact q1', hT'.below b, kf.trans ⟨b.size, fun k o _ hk _ => by rw [b.block _ (Array.getElem?_eq_some_iff.1 hk).1]; exact hk⟩, kx.trans (KpX.below b (Nat.le_refl _)), q2'.trans (b.mono (by omega))⟩
        have pay : ∀ V2, (∃ V1, Below V0.heap.size V0 V1 ∧ Below V1.heap.size V1 V2) → V2.heap[w.heap.size]? = some (.cells (c8 (hpre pre)) 113 (0, 0)) ∧
            (KeepsFrom w5.heap.size V (V2.setRow w.heap.size (c8 (hpre (pre ++ [x])))) ∧ KpX w.heap.size V (V2.setRow w.heap.size (c8 (hpre (pre ++ [x])))) ∧ (V2.setRow w.heap.size (c8 (hpre (pre ++ [x])))).heap[w.heap.size]? = some (.cells (c8 (hpre (pre ++ [x]))) 113 (0, 0)) ∧ Below w.heap.size w (V2.setRow w.heap.size (c8 (hpre (pre ++ [x]))))) := by
          rintro V2 ⟨V1, b1, b2⟩
          obtain ⟨f1, f2, f3, f4, f5⟩ := fin V2 (b1.trans (b2.mono b1.size))
          refine ⟨f1, ⟨by simpa using f3.size, fun k o hB hk ho => ?_⟩, ⟨by simpa using f4.1, fun k cs t fr hk e => ?_⟩, setRow_heap _ _ _ _ _ _ f1, below_setRow f5 (Nat.le_refl _) _⟩
          · rw [setRow_other _ _ _ _ (by omega)]; exact f3.same k o hB hk ho
          · rw [setRow_other _ _ _ _ hk]; exact f4.2 k cs t fr hk e
        have hwl : (wk x.1 64).length = 64 := wk_len _ _
        have hwb : ∀ j, (wk x.1 64).getD j 0 < 4294967296 := wk_lt _ _
        have hmx : plus (hpre pre) (rn (wk x.1 64) (hpre pre) 64) = hpre (pre ++ [x]) := by rw [hpre_snoc]; rfl
        have last : ∀ V1, Below V0.heap.size V0 V1 → Calls Tryd.prog 82 #[.agg (c8 (hpre pre)), .agg (cW (wk x.1 64)).toArray] V1 fun e w' => e = .returned (.agg (c8 (hpre (pre ++ [x])))) ∧ Below V1.heap.size V1 w' := fun V1 b => by
          rw [← hmx]; exact mix_any _ _ _ hok hwl hwb (fin V1 b).2.1
        clear hmx hwl hwb
        refine any_two 0 1 (by kernel_rfl) ?oA ?oB
        case oA =>
          refine op_load_row 0 _ rfl rfl 113 (.tmp 6) rfl w.heap.size rfl 113 (c8 (hpre pre)) (0, 0) _ q1' Tryd.underlying113 rfl (size_c8 _) ?_
          refine any_one 1 (by kernel_rfl) ?_
          refine op_load_row 1 _ rfl rfl 119 (.tmp 7) rfl W.heap.size rfl 119 (cB x.1).toArray (0, 0) _ q3' Tryd.underlying119 rfl (sizeB _ x.2) ?_
          refine any_one 2 (by kernel_rfl) ?_
          refine op_call1 2 _ rfl rfl 83 (.tmp 33) _ rfl (.agg (cB x.1).toArray) rfl rfl (enters_of Tryd.func83 (by kernel_rfl) rfl) trivial (by omega) (CallsIn.inRound l (callsIn_wide.2 hsch)) ?_
          intro V1 b1
          refine any_one 3 (by kernel_rfl) ?_
          refine op_call2 3 _ rfl rfl 82 (.tmp 32) (.tmp 34) _ rfl (.agg (c8 (hpre pre))) (.agg (cW (wk x.1 64)).toArray) rfl rfl rfl (enters_of Tryd.func82 (by kernel_rfl) rfl) trivial (by omega) (CallsIn.inRound l (callsIn_wide.2 (last V1 b1))) ?_
          intro V2 b2
          obtain ⟨g1, g2⟩ := pay V2 ⟨V1, b1, b2⟩
          refine any_one 4 (by kernel_rfl) ?_
          refine op_store_row 4 _ rfl rfl 113 (.tmp 6) (.tmp 35) rfl w.heap.size (c8 (hpre (pre ++ [x]))) rfl rfl 113 _ g1 (size_c8 _) rfl (all_c8 _) ?_
          exact wpAnyIn_done (by kernel_rfl) g2 _
        case oB =>
          refine op_load_row 1 _ rfl rfl 119 (.tmp 7) rfl W.heap.size rfl 119 (cB x.1).toArray (0, 0) _ q3' Tryd.underlying119 rfl (sizeB _ x.2) ?_
          refine any_two 0 2 (by kernel_rfl) ?oC ?oD
          case oC =>
            refine op_load_row 0 _ rfl rfl 113 (.tmp 6) rfl w.heap.size rfl 113 (c8 (hpre pre)) (0, 0) _ q1' Tryd.underlying113 rfl (size_c8 _) ?_
            refine any_one 2 (by kernel_rfl) ?_
            refine op_call1 2 _ rfl rfl 83 (.tmp 33) _ rfl (.agg (cB x.1).toArray) rfl rfl (enters_of Tryd.func83 (by kernel_rfl) rfl) trivial (by omega) (CallsIn.inRound l (callsIn_wide.2 hsch)) ?_
            intro V1 b1
            refine any_one 3 (by kernel_rfl) ?_
            refine op_call2 3 _ rfl rfl 82 (.tmp 32) (.tmp 34) _ rfl (.agg (c8 (hpre pre))) (.agg (cW (wk x.1 64)).toArray) rfl rfl rfl (enters_of Tryd.func82 (by kernel_rfl) rfl) trivial (by omega) (CallsIn.inRound l (callsIn_wide.2 (last V1 b1))) ?_
            intro V2 b2
            obtain ⟨g1, g2⟩ := pay V2 ⟨V1, b1, b2⟩
            refine any_one 4 (by kernel_rfl) ?_
            refine op_store_row 4 _ rfl rfl 113 (.tmp 6) (.tmp 35) rfl w.heap.size (c8 (hpre (pre ++ [x]))) rfl rfl 113 _ g1 (size_c8 _) rfl (all_c8 _) ?_
            exact wpAnyIn_done (by kernel_rfl) g2 _
          case oD =>
            refine op_call1 2 _ rfl rfl 83 (.tmp 33) _ rfl (.agg (cB x.1).toArray) rfl rfl (enters_of Tryd.func83 (by kernel_rfl) rfl) trivial (by omega) (CallsIn.inRound l (callsIn_wide.2 hsch)) ?_
            intro V1 b1
            refine any_one 0 (by kernel_rfl) ?_
            refine op_load_row 0 _ rfl rfl 113 (.tmp 6) rfl w.heap.size rfl 113 (c8 (hpre pre)) (0, 0) _ (fin V1 b1).1 Tryd.underlying113 rfl (size_c8 _) ?_
            refine any_one 3 (by kernel_rfl) ?_
            refine op_call2 3 _ rfl rfl 82 (.tmp 32) (.tmp 34) _ rfl (.agg (c8 (hpre pre))) (.agg (cW (wk x.1 64)).toArray) rfl rfl rfl (enters_of Tryd.func82 (by kernel_rfl) rfl) trivial (by omega) (CallsIn.inRound l (callsIn_wide.2 (last V1 b1))) ?_
            intro V2 b2
            obtain ⟨g1, g2⟩ := pay V2 ⟨V1, b1, b2⟩
            refine any_one 4 (by kernel_rfl) ?_
            refine op_store_row 4 _ rfl rfl 113 (.tmp 6) (.tmp 35) rfl w.heap.size (c8 (hpre (pre ++ [x]))) rfl rfl 113 _ g1 (size_c8 _) rfl (all_c8 _) ?_
            exact wpAnyIn_done (by kernel_rfl) g2 _
      case done =>
        rintro D xs W hD hS ⟨p1, p2⟩ hK
        have hfin := Lib.hid (hpre_done xs (cat st) M hS)
        have hokx := hpre_ok xs
        have hDlt := (Array.getElem?_eq_some_iff.1 hK).1
        generalize hpre xs = s at *
        have hlt8 := (Array.getElem?_eq_some_iff.1 p1).1
        gi_wp2_with (refine wpListIn_load_row rfl 113 (.tmp 6) rfl w.heap.size rfl 113 (c8 s) (0, 0) _ ((heap_alloc_old W _ hlt8).trans p1) Tryd.underlying113 rfl (size_c8 _) ?_)
        rw [zb32]
        obtain ⟨V, hV⟩ : ∃ V, V = W.alloc (.cells (cB (List.replicate 32 0)).toArray 123) := ⟨_, rfl⟩
        rw [← hV]
        have VB : Below w.heap.size w V := by rw [hV]; exact p2.alloc p2.size _
        have Vrow : PadW7 W.heap.size V (List.replicate 32 0) := by rw [hV]; exact heap_alloc_new _ _
        have VK : V.heap[D]? = some (.deferred (some [])) := by rw [hV, heap_alloc_old (h := hDlt)]; exact hK
        clear hV hK
        obtain ⟨Bo, hBo⟩ : ∃ Bo, Hid (Bo = W.heap.size) := ⟨_, rfl⟩
        have hBw : w.heap.size ≤ Bo := by rw [hBo.out]; exact p2.size
        have hDB : D ≠ Bo := by rw [hBo.out]; omega
        rw [← hBo.out] at Vrow ⊢
        have VK2 := Lib.hid VK
        clear VK
        gi_loopw [37] (fun v wr => ∃ i : Nat, i ≤ 8 ∧ v = .int .i64 i ∧ PadW7 Bo wr (orow s (4 * i)) ∧ Below w.heap.size w wr ∧ Hid (wr.heap[D]? = some (.deferred (some [])))) (fun v _ => 8 - (intOf v).toNat)
        case atStart => exact ⟨0, by omega, rfl, by rw [orow_zero]; exact Vrow, VB, VK2⟩
        case round =>
          obtain ⟨i, hi, rfl, P1, B1, K1⟩ := hrel
          by_cases hlt : i < 8
          · have hix := hidx s i hlt
            have hbi := lst_lt s hokx i
            have hat := Lib.hid (fun j (h : j < 4) => outB_at s i j hlt h)
            generalize (lst s).getD i 0 = nw at *
            gi_wp2_with fail
            obtain ⟨wo, hwo⟩ : ∃ wo : World, wo = wr := ⟨_, rfl⟩
            rw [← hwo] at P1 B1 K1 ⊢
            clear hwo hix
            gi_loopw [41] (fun v wr => ∃ j : Nat, j ≤ 4 ∧ v = .int .i64 j ∧ PadW7 Bo wr (orow s (4 * i + j)) ∧ Below w.heap.size w wr ∧ Hid (wr.heap[D]? = some (.deferred (some [])))) (fun v _ => 4 - (intOf v).toNat)
            case atStart => exact ⟨0, by omega, rfl, P1, B1, K1⟩
            case round =>
              obtain ⟨j, hj, rfl, P2, B2, K2⟩ := hrel
              by_cases hjl : j < 4
              · have c1 := P2.byte (4 * i + j) (by rw [orow_len _ _ (by omega)]; omega)
                have f1 := P2.free (4 * i + j)
                have hset := Lib.hid (P2.set (4 * i + j) (UInt8.ofNat (nw / 2 ^ (8 * (3 - j)) % 256)))
                have hrow := orow_set s (4 * i + j) (by omega)
                rw [hat.out j hjl] at hrow
                rw [hrow] at hset
                have hv := Lib.hid (byte_val2 nw (8 * (3 - j)))
                generalize UInt8.ofNat (nw / 2 ^ (8 * (3 - j)) % 256) = v at *
                generalize (orow s (4 * i + j)).getD (4 * i + j) 0 = y at *
                clear hrow
                gi_wp2_with fail
                rw [hv.out]
                go_roundw
                case rel => exact ⟨j + 1, by omega, by go_num, hset.out, B2.setCell (p := ⟨Bo, 4 * i + j, none⟩) hBw _, (KeepsOthers.setCell wr _ _).same D _ K2.out rfl⟩
                case measure => simp [intOf]; omega
              · obtain rfl : j = 4 := by omega
                gi_wp2_with fail
                go_roundw
                case rel => exact ⟨i + 1, by omega, by go_num, P2, B2, K2⟩
                case measure => simp [intOf]; omega
          · obtain rfl : i = 8 := by omega
            have P2 : PadW7 Bo wr (outB s) := by rw [← orow_full]; exact P1
            have hsl := slice123 wr Bo
            have hcv := run_convert_bytes_back (P := Tryd.prog) wr 93 9 5 ⟨Bo, 0, none⟩ 32 (outB s) Tryd.underlying93 Tryd.underlying5 Tryd.underlying9 (out_bytes s _ _ P2)
            have hol := outB_len s
            rw [hol] at hcv
            clear hol
            have hres : Hid (outB s = sha (cat ss)) := by show _ = _; rw [hfin.out, hcat.out, hM.out]; rfl
            gi_wp2_with fail
            refine ⟨by simp, .inl ⟨_, _, rfl, run_takeDeferred K1.out, ?_⟩⟩
            refine ⟨_, results_tmp rfl _ _ _, ?_, ?_⟩
            · rw [← hres.out]; rfl
            · exact B1.trans (belowK_b (w := w) (Nat.le_refl _) wr D _ _ (by omega) K1.out rfl rfl)

theorem sum_any (bp : Nat) (ss : List ByteArray) (w : World) (h1 : 1 ≤ ss.length) (hn : ss.length ≤ 1000) (hz : (cat ss).length ≤ 100000000000000) (hT : Tab w)
    (hp : ∀ j u, (cS ss)[j]? = some u → w.cell? ⟨bp, j, none⟩ = some u) :
    Calls Tryd.prog 60 #[.slice (some ⟨bp, 0, none⟩) ss.length ss.length] w fun e w' => e = .returned (.string ⟨(sha (cat ss)).toArray⟩) ∧ Below w.heap.size w w' :=
  callsIn_wide.1 (sum_in bp ss w h1 hn hz hT hp)
end Go.Proofs.YtegahpfmkepfmaaDoor
