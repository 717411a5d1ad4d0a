import Derived.Test.YtegahpfmkepfmaaDoorProg
import Derived.Test.YtegahpfmkepfmaaDoorWm
import Derived.Test.YtegahpfmkepfmaaDoorWa
import Derived.RangeFuncNested
import Derived.RangeFuncBound
import Derived.RangeFuncCalls
import Derived.RangeFuncLeaves
import Derived.Shelf.Abstract
import Derived.Shelf.RegionOpen
import Derived.WalkKit
import Derived.OwnWalkIn
import Derived.TacticsInMore
import Derived.LoopNIn
import Derived.LoopIn
import Derived.Lib.Hide
import Derived.Outline
namespace Go.Proofs.YtegahpfmkepfmaaDoor.Wr
open Go.RowKit Go.Shelf
attribute [local go_sem] Oper.semAt_some

def encI (k z : Nat) : List Int := (enc k z).map fun b => (b.toNat : Int)
theorem encI_small (k z : Nat) (h : z < 128) : encI k z = [(z : Int)] := by
  unfold encI
  cases k with
  | zero => simp [enc, toNat_of z (by omega)]
  | succ k => rw [enc, if_pos h]; simp; omega
theorem encI_large (k z : Nat) (h : 128 ≤ z) : encI (k + 1) z = ((z : Int) % 128 + 128) :: encI k (z / 128) := by
  unfold encI
  rw [enc, if_neg (by omega)]
  simp only [List.map_cons, toNat_of (z % 128 + 128) (by omega)]
  congr 1

theorem groups_any (z : Int) (w : World) :
    Calls Tryd.prog 93 #[.int .u64 z] w fun e w' => e = .returned (.func (.func 98) #[] #[.pointer (some ⟨w.heap.size, 0, none⟩)]) ∧ (w.alloc (.cells #[.int .u64 z] 133)) = w' := by
  go_enter Tryd.func93, Tryd.ntmps93
  go_wp2
  go_ret
  exact ⟨rfl, rfl⟩

/-- the loop's relation in the iterator -/
def GI (z : Nat) (J : List Int → World → Prop) (p : Value) (wr : World) : Prop :=
  ∃ (pre : List Int) (r : Nat), p = .int .u64 r ∧ pre ++ encI (8 - pre.length) r = encI 8 z ∧ pre.length ≤ 8 ∧ r < 128 ^ (9 - pre.length) ∧ J pre wr

set_option maxRecDepth 100000 in
theorem groups1_in (F : Fence) (n : Nat) (h29 : F.fn 98) (hro : F.round = none) (hn : 1 ≤ n) (l Bn : Nat) (z : Nat) (hz : z < 128 ^ 9) (J Jx : List Int → World → Prop)
    (hY : ∀ pre x W, J pre W → pre.length < 9 → YieldAt F (n - 1) Tryd.prog l #[.int .u8 x] W fun e W' =>
      (e = .returned (.bool true) ∧ J (pre ++ [x]) W' ∧ True) ∨ (e = .returned (.bool false) ∧ Jx (pre ++ [x]) W'))
    (W : World) (hBn : W.cell? ⟨Bn, 0, none⟩ = some (.int .u64 z)) (h0 : J [] W) :
    CallsIn F n Tryd.prog 98 #[.func (.yield l) #[] #[], .pointer (some ⟨Bn, 0, none⟩)] W fun e W' => (∃ v, e = .returned v) ∧
      ((∃ ys, ys = encI 8 z ∧ J ys W') ∨ (∃ pre, True ∧ Jx pre W')) := by
  refine callsIn_of_wp Tryd.func98 rfl h29 ?_ hro
  simp only [Tryd.ntmps98, List.size_toArray, List.length_cons, List.length_nil, Nat.reduceAdd, Nat.reduceSub, Array.replicate_succ, Array.replicate_zero, List.push_toArray, List.append_toArray, List.nil_append, List.cons_append]
  gi_wp2
  gi_loopw [3] (fun p wr => GI z J p wr) (fun p _ => (intOf p).toNat)
  case atStart =>
    exact ⟨[], z, rfl, by simp, by simp, hz, h0⟩
  case round =>
    obtain ⟨pre, r, rfl, hx, hl, hr, hJs⟩ := hrel
    have hx := Lib.hid hx
    have hr := Lib.hid hr
    obtain ⟨j, hj⟩ : ∃ j : Nat, Hid (9 - pre.length = j) := ⟨_, rfl⟩
    have hrb : r < 9223372036854775808 := by
      have h1 := hr.out
      have h2 : 128 ^ (9 - pre.length) ≤ 128 ^ 9 := Nat.pow_le_pow_right (by omega) (by omega)
      have h3 : (128 : Nat) ^ 9 = 9223372036854775808 := by decide
      omega
    by_cases hc : 128 ≤ r
    · have hlen : pre.length < 8 := by
        have h1 := hr.out
        have : pre.length ≠ 8 := fun e => by rw [e] at h1; omega
        omega
      obtain ⟨fn, tmps, assign, body, hy, hR⟩ := hY pre ((r : Int) % 128 + 128) wr hJs (by omega)
      gi_wp2
      refine hR.mono ?_
      rintro e W3 (⟨rfl, hJ3, _⟩ | ⟨rfl, hJx3⟩)
      · gi_wp2
        go_roundw
        case rel =>
          refine ⟨pre ++ [(r : Int) % 128 + 128], r / 128, by go_num, ?_, by simp; omega, ?_, hJ3⟩
          · have h1 := hx.out
            rw [show 8 - pre.length = (8 - (pre ++ [(r : Int) % 128 + 128]).length) + 1 by simp; omega, encI_large _ r hc] at h1
            rw [← h1]; simp
          · have h1 := hr.out
            rw [show 9 - pre.length = (9 - (pre ++ [(r : Int) % 128 + 128]).length) + 1 by simp; omega, Nat.pow_succ] at h1
            exact Nat.div_lt_of_lt_mul (by omega)
        case measure => simp [intOf]; omega
      · gi_wp2
        refine bodyPost_ret (results_none rfl _ _ _) rfl ?_
        exact ⟨⟨_, rfl⟩, .inr ⟨_, trivial, hJx3⟩⟩
    · obtain ⟨fn, tmps, assign, body, hy, hR⟩ := hY pre (r : Int) wr hJs (by omega)
      gi_wp2
      refine hR.mono ?_
      rintro e W3 (⟨rfl, hJ3, _⟩ | ⟨rfl, hJx3⟩)
      · gi_wp2
        go_end0
        exact ⟨⟨_, rfl⟩, .inl ⟨_, by rw [← hx.out, encI_small _ r (by omega)], hJ3⟩⟩
      · gi_wp2
        go_end0
        exact ⟨⟨_, rfl⟩, .inr ⟨_, trivial, hJx3⟩⟩

theorem groups_stops (F : Fence) (n : Nat) (h29 : F.fn 98) (hro : F.round = none) (hn : 1 ≤ n) (Bn : Nat) (z : Nat) (hz : z < 128 ^ 9) (w : World) (hB : Bn < w.heap.size) (hBn : w.cell? ⟨Bn, 0, none⟩ = some (.int .u64 z)) :
    SeqStopsK F n Tryd.prog 98 #[.pointer (some ⟨Bn, 0, none⟩)] (fun x : Int => #[.int .u8 x]) (fun _ _ => True) (fun ys => ys = encI 8 z) (fun _ => True) 9 w := by
  intro l J Jx W hW _ _ hY h0
  exact groups1_in F n h29 hro hn l Bn z hz J Jx hY W ((hW.cell (p := ⟨Bn, 0, none⟩) hB).trans hBn) h0

theorem PutInt_bad (x : Int) (w : World) (h : x < -4611686018427387903 ∨ 4611686018427387903 < x) (h1 : -9223372036854775808 ≤ x) (h2 : x ≤ 9223372036854775807) :
    Calls Tryd.prog 84 #[.int .i64 x] w fun e w' => e = .returned (.tuple #[.string ⟨#[]⟩, .int .i64 10]) ∧ Below w.heap.size w w' := by
  by_cases hc : x < -4611686018427387903
  · go_enter Tryd.func84, Tryd.ntmps84
    go_wp2
    go_ret2
    exact ⟨rfl, Below.refl _ _⟩
  · have hc' : 4611686018427387903 < x := by omega
    go_enter Tryd.func84, Tryd.ntmps84
    go_wp2
    go_ret2
    exact ⟨rfl, Below.refl _ _⟩

theorem foldN_eq (x : Int) : foldN x = (foldI x : Int) := by unfold foldN foldI; split <;> omega

/-- the array's cells -/
def Arr (W : World) (B : Nat) (pre : List Int) : Prop := ∀ j, j < 9 → W.cell? ⟨B, j, none⟩ = some (.int .u8 (pre.getD j 0)) ∧ W.frozen? ⟨B, j, none⟩ = false

theorem put_world (w w0 : World) (z : Int) (hw : w0 = ((w.alloc (.cells #[.int .u8 0, .int .u8 0, .int .u8 0, .int .u8 0, .int .u8 0, .int .u8 0, .int .u8 0, .int .u8 0, .int .u8 0] 134)).alloc (.cells #[.int .i64 0] 3)).alloc (.cells #[.int .u64 z] 133)) :
    w0.heap.size = w.heap.size + 3 ∧ Below w.heap.size w w0 ∧ Arr w0 w.heap.size [] ∧ w0.cell? ⟨w.heap.size + 1, 0, none⟩ = some (.int .i64 0) ∧ w0.frozen? ⟨w.heap.size + 1, 0, none⟩ = false ∧
      w0.cell? ⟨w.heap.size + 1 + 1, 0, none⟩ = some (.int .u64 z) := by
  subst hw
  refine ⟨by simp, (((Below.refl _ w).alloc (Nat.le_refl _) _).alloc (by simp) _).alloc (by simp; omega) _, ?_, ?_, ?_, ?_⟩
  · intro j hj
    rw [World.cell?_alloc_past _ _ _ (by simp; omega), World.cell?_alloc_past _ _ _ (by simp), World.cell?_alloc_at _ _ _ _ rfl, World.frozen?_alloc_past _ _ _ (by simp; omega), World.frozen?_alloc_past _ _ _ (by simp), World.frozen?_alloc_at _ _ _ _ rfl]
    refine ⟨?_, rfl⟩
    match j, hj with
    | 0, _ => rfl
    | 1, _ => rfl
    | 2, _ => rfl
    | 3, _ => rfl
    | 4, _ => rfl
    | 5, _ => rfl
    | 6, _ => rfl
    | 7, _ => rfl
    | 8, _ => rfl
  · rw [World.cell?_alloc_past _ _ _ (by simp), World.cell?_alloc_at _ _ _ _ (by simp)]; rfl
  · rw [World.frozen?_alloc_past _ _ _ (by simp), World.frozen?_alloc_at _ _ _ _ (by simp)]
  · rw [World.cell?_alloc_at _ _ _ _ (by simp)]; rfl
theorem pow9 : (128 : Nat) ^ 9 = 9223372036854775808 := by decide
theorem lt_pow9 (z : Nat) (h : z ≤ 9223372036854775806) : z < 128 ^ 9 := by rw [pow9]; omega
theorem encI_len (z : Nat) : (encI 8 z).length ≤ 9 := by unfold encI; rw [List.length_map]; exact (enc_len 8 z).2

theorem put_step (w W : World) (pre : List Int) (y : Int) (hA : Arr W w.heap.size pre) (hc : W.cell? ⟨w.heap.size + 1, 0, none⟩ = some (.int .i64 pre.length)) (hf : W.frozen? ⟨w.heap.size + 1, 0, none⟩ = false) (hB : Below w.heap.size w W) (_hl : pre.length < 9) :
    KeepsOthers W ((W.setCell ⟨w.heap.size, pre.length, none⟩ (.int .u8 y)).setCell ⟨w.heap.size + 1, 0, none⟩ (.int .i64 (pre.length + 1))) ∧ True ∧
    (Arr ((W.setCell ⟨w.heap.size, pre.length, none⟩ (.int .u8 y)).setCell ⟨w.heap.size + 1, 0, none⟩ (.int .i64 (pre.length + 1))) w.heap.size (pre ++ [y]) ∧
      ((W.setCell ⟨w.heap.size, pre.length, none⟩ (.int .u8 y)).setCell ⟨w.heap.size + 1, 0, none⟩ (.int .i64 (pre.length + 1))).cell? ⟨w.heap.size + 1, 0, none⟩ = some (.int .i64 (pre ++ [y]).length) ∧
      ((W.setCell ⟨w.heap.size, pre.length, none⟩ (.int .u8 y)).setCell ⟨w.heap.size + 1, 0, none⟩ (.int .i64 (pre.length + 1))).frozen? ⟨w.heap.size + 1, 0, none⟩ = false) ∧
      Below w.heap.size w ((W.setCell ⟨w.heap.size, pre.length, none⟩ (.int .u8 y)).setCell ⟨w.heap.size + 1, 0, none⟩ (.int .i64 (pre.length + 1))) := by
  refine ⟨(KeepsOthers.setCell _ _ _).trans (KeepsOthers.setCell _ _ _), trivial, ⟨?_, ?_, ?_⟩, (hB.setCell (p := ⟨w.heap.size, pre.length, none⟩) (Nat.le_refl _) _).setCell (p := ⟨w.heap.size + 1, 0, none⟩) (by simp) _⟩
  · intro j hj
    refine ⟨?_, by simp only [World.frozen?_setCell]; exact (hA j hj).2⟩
    rw [World.cell?_setCell_other _ _ _ _ (by simp)]
    by_cases e : j = pre.length
    · subst e
      rw [World.cell?_setCell_same' _ _ _ (by rw [(hA _ hj).1]; rfl)]
      simp
    · rw [World.cell?_setCell_other _ _ _ _ (by simp), (hA j hj).1]
      congr 2
      simp only [List.getD, List.getElem?_append]
      split
      · rfl
      · rw [List.getElem?_eq_none (by omega), List.getElem?_eq_none (by simp; omega)]
  · rw [World.cell?_setCell_same' _ _ _ (by rw [World.cell?_setCell_other _ _ _ _ (by simp), hc]; rfl)]
    simp
  · simp only [World.frozen?_setCell]; exact hf

theorem size5 : ∀ w, (Go.sizeOf 5).run Tryd.prog w = .ok 1 w := fun _ => by kernel_rfl
theorem slice46 (W : World) (b : Nat) (m : Nat) (hm : m ≤ 9) : (Instr.sliceAt 134 (.pointer (some ⟨b, 0, none⟩)) none (some (.int .i64 (m : Int))) none).run Tryd.prog W = .ok (.slice (some ⟨b, 0, none⟩) m 9) W := by
  have e1 : Tryd.prog.arrayLen 134 = 9 := by kernel_rfl
  have e2 : Tryd.prog.elem 134 = 5 := by kernel_rfl
  rw [run_sliceAt_array_h W 134 ⟨b, 0, none⟩ (by kernel_rfl) .i64 m (by omega) (by rw [e1]; omega), e2, size5, e1]
  simp [Result.andThen, slicedAt, Addr.add]
theorem enc_lens (x : Int) : (encI 8 (foldI x)).length = (putL x).length := by simp [encI, putL]
theorem arr_bytes (W : World) (B : Nat) (x : Int) (h : Arr W B (encI 8 (foldI x))) (j : Nat) (hj : j < (putL x).length) : W.cell? (Addr.add ⟨B, 0, none⟩ j) = some (.int .u8 ((putL x)[j].toNat : Int)) := by
  have hj9 : j < 9 := by have := (putL_len x).2; omega
  have h1 := (h j hj9).1
  have e : (Addr.add ⟨B, 0, none⟩ j) = ⟨B, j, none⟩ := by
    unfold Addr.add
    split
    · rename_i e; rw [e]
    · simp
  rw [e, h1]
  congr 2
  have e2 : (encI 8 (foldI x))[j]? = some ((putL x)[j].toNat : Int) := by
    unfold encI
    rw [List.getElem?_map]
    show ((putL x)[j]?).map _ = _
    rw [List.getElem?_eq_getElem hj]; rfl
  simp [List.getD, e2]

set_option maxRecDepth 100000 in
set_option maxHeartbeats 400000 in
theorem PutInt_in (x : Int) (w : World) (h1 : -4611686018427387903 ≤ x) (h2 : x ≤ 4611686018427387903) :
    CallsIn Fence.wide 5 Tryd.prog 84 #[.int .i64 x] w fun e w' => e = .returned (.tuple #[.string ⟨(putL x).toArray⟩, .int .i64 0]) ∧ Below w.heap.size w w' := by
  have hz := fold_lt x h1 h2
  have d1 : decide (x < -4611686018427387903) = false := by simp; omega
  have d2 : decide (4611686018427387903 < x) = false := by simp; omega
  refine callsIn_of_wp_marks Tryd.func84 rfl trivial ?_ rfl
  simp only [Tryd.ntmps84, List.size_toArray, List.length_cons, List.length_nil, Nat.reduceAdd, Nat.reduceSub, Array.replicate_succ, Array.replicate_zero, List.push_toArray, List.append_toArray, List.nil_append, List.cons_append]
  gi_wp2_with fail
  refine ⟨trivial, (callsIn_wide.2 (fold_any _ _ h1 h2)).mono ?_⟩
  rw [foldN_eq]
  rintro e w' ⟨rfl, rfl⟩
  gi_wp2_with fail
  refine ⟨trivial, (callsIn_wide.2 (groups_any _ _)).mono ?_⟩
  rintro e w' ⟨rfl, rfl⟩
  gi_wp2_with fail
  obtain ⟨w0, hw0⟩ : ∃ w0, w0 = ((w.alloc (.cells #[.int .u8 0, .int .u8 0, .int .u8 0, .int .u8 0, .int .u8 0, .int .u8 0, .int .u8 0, .int .u8 0, .int .u8 0] 134)).alloc (.cells #[.int .i64 0] 3)).alloc (.cells #[.int .u64 ↑(foldI x)] 133) := ⟨_, rfl⟩
  rw [← hw0]
  obtain ⟨hsz, hB0, hA, hS1, hS2, hX⟩ := put_world w w0 _ hw0
  clear hw0
  have hsz := Lib.hid hsz
  refine wpIn_rangeFunc_ownF (F := Fence.wide) (n := 5) rfl (by omega) (gf := 98) (lb := #[.pointer (some ⟨w.heap.size + 1 + 1, 0, none⟩)]) rfl trivial (enters_of Tryd.func98 (by kernel_rfl) rfl)
    (groups_stops Fence.wide _ trivial rfl (by omega) (w.heap.size + 1 + 1) (foldI x) (lt_pow9 _ hz) w0 (by have := hsz.out; omega) hX) (fun _ _ => trivial) (fun _ _ _ _ _ _ _ _ => trivial) (Below.refl _ _) (fun _ => rfl)
    (fun pre W => (Arr W w.heap.size pre ∧ W.cell? ⟨w.heap.size + 1, 0, none⟩ = some (.int .i64 pre.length) ∧ W.frozen? ⟨w.heap.size + 1, 0, none⟩ = false) ∧ Below w.heap.size w W)
    (fun _ _ _ => False)
    (OwnFrom.and (Own.from (fun s A B row hs hg hr => ⟨fun j hj => ⟨cell_kept (hs.1 j hj).1 hg hr, (frozen_kept (hs.1 j hj).1 hg hr).trans (hs.1 j hj).2⟩, cell_kept hs.2.1 hg hr, (frozen_kept hs.2.1 hg hr).trans hs.2.2⟩) _) (ownFrom_below (Nat.le_refl _) (by have := hsz.out; omega)))
    (fun _ _ _ _ _ hs _ _ => hs)
    ⟨⟨hA, hS1, hS2⟩, hB0⟩
    (fun y => { tmps := #[.int .i64 x, undef, .string { data := #[] }, .int .i64 0, .pointer (some ⟨w.heap.size, 0, none⟩), .pointer (some ⟨w.heap.size + 1, 0, none⟩), .int .u8 y, .int .i64 x, .bool false, .bool false, .int .i64 x, .bool false, .bool false, .int .i64 x, .int .u64 ↑(foldI x), .func (.func 98) #[] #[.pointer (some ⟨w.heap.size + 1 + 1, 0, none⟩)], .int .u8 y, undef, undef, undef, undef, undef, undef, undef, undef], defers := [] }) ?assign ?body ?done ?stop
  case assign =>
    intro l x W K hK
    gi_wp2
    exact hK
  case body =>
    rintro l pre y W ⟨⟨hA1, hc, hf⟩, hB⟩ hlen
    have h9 := (hA1 pre.length hlen)
    have H := Lib.hid (put_step w W pre y hA1 hc hf hB hlen)
    clear hA1
    gi_wp2
    exact H.out
  case done =>
    rintro D ys W hD rfl ⟨⟨hA1, hc, hf⟩, hB⟩ hK
    have hl := encI_len (foldI x)
    rw [enc_lens] at hc hl
    have hsl := slice46 W w.heap.size (putL x).length hl
    have hcv := run_convert_bytes_back (P := Tryd.prog) W 93 9 5 ⟨w.heap.size, 0, none⟩ 9 (putL x) Tryd.underlying93 Tryd.underlying5 Tryd.underlying9 (arr_bytes W _ x hA1)
    have hA1 := Lib.hid hA1
    gi_wp2
    refine ⟨by simp, .inl ⟨_, _, rfl, run_takeDeferred hK, ?_⟩⟩
    exact ⟨_, results_tmp2 rfl _ _ _, rfl, hB.trans (belowK_b (w := w) (Nat.le_refl _) W D _ _ (by have := hsz.out; omega) hK rfl rfl)⟩
  case stop =>
    rintro D c pre W _ _ h _
    exact h.elim

theorem PutInt_any (x : Int) (w : World) (h1 : -4611686018427387903 ≤ x) (h2 : x ≤ 4611686018427387903) :
    Calls Tryd.prog 84 #[.int .i64 x] w fun e w' => e = .returned (.tuple #[.string ⟨(putL x).toArray⟩, .int .i64 0]) ∧ Below w.heap.size w w' :=
  callsIn_wide.1 (PutInt_in x w h1 h2)
end Go.Proofs.YtegahpfmkepfmaaDoor.Wr
