import Derived.Test.YtimfhnnabocliaaDoorI
import Derived.RegionTactic
import Derived.ChangeAlike
import Derived.BigRegion
import Derived.Deep.QuietTactic
import Derived.BigQuiet
namespace Go.Proofs.YtimfhnnabocliaaDoor
open Go.RowKit

theorem i64_xor_nat (a b : Nat) (ha : a < 4294967296) (hb : b < 4294967296) : bits .xor .i64 (a : Int) (b : Int) = ((a ^^^ b : Nat) : Int) := by
  have hx : a ^^^ b < 2 ^ 32 := Nat.xor_lt_two_pow (by omega) (by omega)
  show IntKind.i64.wrap ((BitVec.ofInt 64 (a : Int) ^^^ BitVec.ofInt 64 (b : Int)).toNat : Int) = _
  rw [BitVec.toNat_xor, ofInt_u64 a (by omega), ofInt_u64 b (by omega), IntKind.wrap_i64]
  omega
theorem Tab.drewN {w : World} (h : Tab w) (n : Nat) : Tab (w.drewN n) := fun j hj => by
  have := h j hj
  simpa using this
/-- 'Sum' within a statement whose order is open. -/
theorem Sum_q (s : ByteArray) (w : World) (n : Nat) (hs : s.size ≤ maxLen) (hT : Tab w) :
    Calls Tryd.prog 21 #[.string s] (w.drewN n) fun e w'' => e = .returned (.int .i64 (crc s.data.toList)) ∧ ∃ m, w'' = w.drewN m :=
  Calls.quiet_of_same ((Sum_any s (w.drewN n) hs (hT.drewN n)).mono fun _ _ ⟨he, hw⟩ => ⟨he, hw.symm⟩)

/-- the bytes that the loop has laid: the first i of l, zeros behind -/
def Row (W : World) (B : Nat) (l : List UInt8) (i : Nat) : Prop := ∀ j, j < l.length → W.cell? ⟨B, j, none⟩ = some (.int .u8 (if j < i then (l.getD j 0).toNat else 0 : Nat)) ∧ W.frozen? ⟨B, j, none⟩ = false
theorem Row.step {W : World} {B : Nat} {l : List UInt8} {i : Nat} (h : Row W B l i) (_hi : i < l.length) (v : Int) (hv : v = ((l.getD i 0).toNat : Nat)) : Row (W.setCell ⟨B, i, none⟩ (.int .u8 v)) B l (i + 1) := by
  intro j hj
  refine ⟨?_, by simp only [World.frozen?_setCell]; exact (h j hj).2⟩
  by_cases e : i = j
  · subst e
    rw [World.cell?_setCell_same' _ _ _ (by rw [(h _ hj).1]; rfl), hv, if_pos (by omega)]
  · rw [World.cell?_setCell_other _ _ _ _ (fun h => e (by cases h; rfl)), (h j hj).1]
    congr 3
    by_cases e2 : j < i
    · rw [if_pos e2, if_pos (by omega)]
    · rw [if_neg e2, if_neg (by omega)]
theorem Row.bytes {W : World} {B : Nat} {l : List UInt8} (h : Row W B l l.length) (j : Nat) (hj : j < l.length) : W.cell? (Addr.add ⟨B, 0, none⟩ j) = some (.int .u8 (l[j].toNat : Int)) := by
  have e : (Addr.add ⟨B, 0, none⟩ j) = ⟨B, j, none⟩ := by
    unfold Addr.add
    split
    · rename_i e; rw [e]
    · simp
  rw [e, (h j hj).1, if_pos hj]
  simp [List.getD, hj]
theorem Row.drewN {W : World} {B : Nat} {l : List UInt8} {i : Nat} (h : Row W B l i) (q : Nat) : Row (W.drewN q) B l i := fun j hj => by
  have := h j hj
  simpa using this

theorem xor3_at (a b c : ByteArray) (n i : Nat) (hi : i < n) (ha : n ≤ a.size) (hb : n ≤ b.size) (hc : n ≤ c.size) :
    bits .xor .u8 (bits .xor .u8 (a[i].toNat : Int) (b[i].toNat : Int)) (c[i].toNat : Int) = (((xl (xl (a.extract 0 n).data.toList (b.extract 0 n).data.toList) (c.extract 0 n).data.toList).getD i 0).toNat : Nat) := by
  have h1 : a[i].toNat < 256 := a[i].toNat_lt
  have h2 : b[i].toNat < 256 := b[i].toNat_lt
  have h3 : c[i].toNat < 256 := c[i].toNat_lt
  have h4 := Nat.xor_lt_two_pow (n := 8) h1 h2
  rw [u8_xor_nat _ _ h1 h2, u8_xor_nat _ _ h4 h3]
  have e : ∀ s : ByteArray, ∀ h : n ≤ s.size, ∀ (h' : i < s.size), (s.extract 0 n).data.toList[i]? = some s[i] := fun s h h' => by
    rw [Lib.extract_data, List.drop_zero, List.getElem?_take_of_lt (by omega), List.getElem?_eq_getElem (by rw [data_len]; omega)]; rfl
  simp only [xl, List.getD, List.getElem?_zipWith, e a ha (by omega), e b hb (by omega), e c hc (by omega)]
  simp [UInt8.toNat_xor]

set_option maxRecDepth 100000 in
set_option maxHeartbeats 1000000 in
theorem Affine_walk (a b c : ByteArray) (w : World) (ha : a.size ≤ maxLen) (hb : b.size ≤ maxLen) (hc : c.size ≤ maxLen) (hT : Tab w) :
    Calls Tryd.prog 9 #[.string a, .string b, .string c] w fun e w' => e = .returned (.bool true) ∧ Below w.heap.size w w' := by
  unfold maxLen at ha hb hc
  obtain ⟨n, hn, n2, na, nb, nc⟩ : ∃ n, Hid (n = min (min (min a.size b.size) c.size) 200) ∧ n ≤ 200 ∧ n ≤ a.size ∧ n ≤ b.size ∧ n ≤ c.size := ⟨_, rfl, by omega, by omega, by omega, by omega⟩
  have r0 : ∀ ts t w, (Builtin.min_ ts t #[.int .i64 (a.size : Int), .int .i64 (b.size : Int), .int .i64 (c.size : Int), .int .i64 200]).run Tryd.prog w = .ok (.int .i64 (n : Int)) w := fun ts t w => by
    have e : (n : Int) = (if (200 : Int) < (if (c.size : Int) < (if (b.size : Int) < a.size then (b.size : Int) else a.size) then (c.size : Int) else (if (b.size : Int) < a.size then (b.size : Int) else a.size)) then 200 else (if (c.size : Int) < (if (b.size : Int) < a.size then (b.size : Int) else a.size) then (c.size : Int) else (if (b.size : Int) < a.size then (b.size : Int) else a.size))) := by
      rw [hn.out]; omega
    rw [e]
    simp [Builtin.min_, Builtin.min2]
  go_enter Tryd.func9, Tryd.ntmps9
  go_wp2_with fail
  refine (sane_any _ hT).mono ?_
  rintro e w1 ⟨rfl, hb1⟩
  obtain ⟨i0, hi, hz0, hz1, hz2⟩ := info_parts info5
  obtain ⟨M, hM⟩ : ∃ M, M = madeCells (Value.int .u8 0).cells (((n : Nat) : Int).toNat * i0.size) := ⟨_, rfl⟩
  have hMs : M.size = n := by rw [hM, size_madeCells, hz1]; simp
  have hMc : ∀ j, j < n → M[j]? = some (.int .u8 0) := by
    intro j hj
    have e : M.toList = List.replicate n (Value.int .u8 0) := by
      rw [hM, hz1, show (Value.int .u8 0).cells = #[.int .u8 0] from rfl]; simpa using toList_madeCells_one (Value.int .u8 0) n
    rw [← Array.getElem?_toList, e]; simp [hj]
  have hmk : ∀ W : World, (Instr.makeSlice 38 (.int .i64 (n : Int)) (.int .i64 (n : Int))).run Tryd.prog W = .ok (.slice (some ⟨W.heap.size, 0, none⟩) n n) (W.alloc (.cells M 5)) := fun W => by
    have h := run_make (P := Tryd.prog) W 38 5 i0 (.int .u8 0) Tryd.underlying38 hi hz0 .i64 .i64 (n : Int) (n : Int) (by omega) (by omega) (by rw [hz2]; omega) (by omega)
    rw [← hM] at h
    simpa using h
  clear hM
  have la : (a.extract 0 n).data.toList.length = n := by rw [data_len]; exact cut_size a n na
  have lb : (b.extract 0 n).data.toList.length = n := by rw [data_len]; exact cut_size b n nb
  have lc : (c.extract 0 n).data.toList.length = n := by rw [data_len]; exact cut_size c n nc
  obtain ⟨L, hL⟩ : ∃ L, Hid (L = xl (xl (a.extract 0 n).data.toList (b.extract 0 n).data.toList) (c.extract 0 n).data.toList) := ⟨_, rfl⟩
  have hLl : L.length = n := by rw [hL.out]; simp only [xl, List.length_zipWith, la, lb, lc]; omega
  have hR : Row (w1.alloc (.cells M 5)) w1.heap.size L 0 := fun j hj => ⟨by rw [World.cell?_alloc_at _ _ _ _ rfl, hMc j (by omega)]; rfl, World.frozen?_alloc_at _ _ _ _ rfl⟩
  have hLl := Lib.hid hLl
  have la := Lib.hid la
  have lb := Lib.hid lb
  have lc := Lib.hid lc
  have hMs := Lib.hid hMs
  clear hMc
  go_wp2_with fail
  go_loopw [10] (fun v wr => ∃ i : Nat, i ≤ n ∧ v = .int .i64 i ∧ Below w.heap.size w wr ∧ Row wr w1.heap.size L i) (fun v _ => n - (intOf v).toNat)
  case atStart => exact ⟨0, by omega, rfl, hb1.alloc hb1.size _, hR⟩
  case round =>
    obtain ⟨i, hin, rfl, B3, hr⟩ := hrel
    by_cases hlt : i < n
    · have hc1 := (hr i (by rw [hLl.out]; exact hlt))
      obtain ⟨hc1, hf1⟩ := hc1
      have hx := Lib.hid (xor3_at a b c n i hlt na nb nc)
      have hr := Lib.hid hr
      have ia : (i : Int) < a.size := by omega
      have ib : (i : Int) < b.size := by omega
      have ic : (i : Int) < c.size := by omega
      go_wp2_with fail
      go_region
      go_wp2
      go_roundw
      case rel =>
        refine ⟨i + 1, by omega, by go_num, (B3.setCell (p := ⟨w1.heap.size, i, none⟩) hb1.size _).drew, ?_⟩
        have h1 : Row (wr.setCell ⟨w1.heap.size, i, none⟩ (.int .u8 (bits .xor .u8 (bits .xor .u8 (a[i].toNat : Int) (b[i].toNat : Int)) (c[i].toNat : Int)))) w1.heap.size L (i + 1) :=
          Row.step hr.out (by rw [hLl.out]; exact hlt) _ (by rw [hL.out]; exact hx.out)
        exact fun j hj => h1 j hj
      case measure => simp [intOf]; omega
    · obtain rfl : i = n := by omega
      have hcv : ∀ q, (convert 38 9 (.slice (some ⟨w1.heap.size, 0, none⟩) i i)).run Tryd.prog (wr.drewN q) = .ok (.string ⟨L.toArray⟩) (wr.drewN q) := fun q => by
        have := run_convert_bytes_back (P := Tryd.prog) (wr.drewN q) 38 9 5 ⟨w1.heap.size, 0, none⟩ i L Tryd.underlying38 Tryd.underlying5 Tryd.underlying9 (fun j hj => Row.bytes (by rw [hLl.out]; exact hr.drewN q) j hj)
        rw [hLl.out] at this
        exact this
      have hT3 := hT.below B3
      have x1 := i64_xor_nat _ _ (crc_lt (a.extract 0 i).data.toList) (crc_lt (b.extract 0 i).data.toList)
      have x2 := i64_xor_nat _ _ (Nat.xor_lt_two_pow (n := 32) (crc_lt (a.extract 0 i).data.toList) (crc_lt (b.extract 0 i).data.toList)) (crc_lt (c.extract 0 i).data.toList)
      have x3 := crc_affine (a.extract 0 i).data.toList (b.extract 0 i).data.toList (c.extract 0 i).data.toList (by rw [la.out, lb.out]) (by rw [la.out, lc.out])
      rw [← hL.out] at x3
      have x4 : ((crc L : Int) == ((crc (a.extract 0 i).data.toList ^^^ crc (b.extract 0 i).data.toList ^^^ crc (c.extract 0 i).data.toList : Nat) : Int)) = true := by rw [x3]; simp
      have hA := fun q => Sum_q (a.extract 0 i) wr q (by rw [cut_size a i na]; unfold maxLen; omega) hT3
      have hBb := fun q => Sum_q (b.extract 0 i) wr q (by rw [cut_size b i nb]; unfold maxLen; omega) hT3
      have hC := fun q => Sum_q (c.extract 0 i) wr q (by rw [cut_size c i nc]; unfold maxLen; omega) hT3
      have hLL := fun q => Sum_q ⟨L.toArray⟩ wr q (by rw [mk_size, hLl.out]; unfold maxLen; omega) hT3
      generalize crc (a.extract 0 i).data.toList = ca at *
      generalize crc (b.extract 0 i).data.toList = cb at *
      generalize crc (c.extract 0 i).data.toList = cc at *
      rw [show (⟨L.toArray⟩ : ByteArray).data.toList = L from rfl] at hLL
      generalize crc L = cl at *
      have hA := Lib.hid hA
      have hBb := Lib.hid hBb
      have hC := Lib.hid hC
      have hLL := Lib.hid hLL
      clear x3
      go_wp2_with fail
      go_quiet ((go_at_call 21; first | (with_reducible exact hLL.out _) | (with_reducible exact hA.out _) | (with_reducible exact hBb.out _) | (with_reducible exact hC.out _)))
      go_wp2
      go_ret
      exact ⟨rfl, below_drewN B3 _⟩
end Go.Proofs.YtimfhnnabocliaaDoor
