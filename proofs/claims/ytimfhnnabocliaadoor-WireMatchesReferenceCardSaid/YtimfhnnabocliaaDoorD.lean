import Derived.Test.YtimfhnnabocliaaDoorA
import Derived.Test.YtimfhnnabocliaaDoorB
import Derived.Test.YtimfhnnabocliaaDoorC
import Derived.WalkKit
import Derived.Below
import Derived.WalkLawsBesides
import Derived.WalkSpells
import Derived.Outline
import Derived.Lib.Hide
import Derived.Lib.Strings
import Derived.Lib.Walk
import Derived.Lib.BufferWrite
import Derived.Lib.UnsafeStr
import Derived.Laws.MakeOwn
namespace Go.Proofs.YtimfhnnabocliaaDoor
open Go.RowKit

theorem unfoldN_eq (z : Nat) : unfoldN (z : Int) = unfoldI z := by
  unfold unfoldN unfoldI
  by_cases h : z % 2 = 1
  · rw [if_pos (by omega), if_pos h]; simp
  · rw [if_neg (by omega), if_neg h]; simp
theorem tail_data (s : ByteArray) (k : Nat) : (s.extract k s.size).data.toList = s.data.toList.drop k := by
  rw [Lib.extract_data]; exact List.take_of_length_le (by simp)

theorem Int_arg (s : ByteArray) (at_ : Int) (w : World) (_hs : s.size ≤ maxLen) (h : at_ < 0 ∨ (s.size : Int) < at_) (h1 : -9223372036854775808 ≤ at_) (h2 : at_ ≤ 9223372036854775807) :
    Calls Tryd.prog 15 #[.string s, .int .i64 at_] w fun e w' => e = .returned (.tuple #[.int .i64 0, .int .i64 0, .int .i64 2]) ∧ w = w' := by
  unfold maxLen at _hs
  by_cases hc : at_ < 0
  · go_enter Tryd.func15, Tryd.ntmps15
    go_wp2
    go_ret3
    exact ⟨rfl, rfl⟩
  · have hc' : (s.size : Int) < at_ := by omega
    go_enter Tryd.func15, Tryd.ntmps15
    go_wp2
    go_ret3
    exact ⟨rfl, rfl⟩

theorem Int_none (s : ByteArray) (k : Nat) (w : World) (hs : s.size ≤ maxLen) (hk : k ≤ s.size) (h : getL s.data.toList k = none) :
    Calls Tryd.prog 15 #[.string s, .int .i64 k] w fun e w' => e = .returned (.tuple #[.int .i64 0, .int .i64 0, .int .i64 10]) ∧ w = w' := by
  have hs' := hs
  unfold maxLen at hs'
  have hj : (jr (s.data.toList.drop k)).2 = 0 ∨ 0 < (jr (s.data.toList.drop k)).2 ∧ 9223372036854775806 < (jr (s.data.toList.drop k)).1 := by
    unfold getL at h
    unfold jr
    cases hq : jn 9 true (s.data.toList.drop k) with
    | none => exact .inl rfl
    | some p =>
      rw [hq] at h
      have := (jn_sound 8 true _ _ _ hq).2.1
      simp at h
      exact .inr ⟨by show 0 < p.2; omega, by simpa using h⟩
  generalize hg : jr (s.data.toList.drop k) = g at hj
  obtain ⟨z, i⟩ := g
  have hg := Lib.hid hg
  have d1 : decide ((k : Int) < 0) = false := by simp
  have d2 : decide ((s.size : Int) < (k : Int)) = false := by simp; omega
  have hsz : (s.extract k s.size).size ≤ maxLen := by simp; omega
  rcases hj with hj | ⟨hj1, hj2⟩
  · simp at hj
    subst hj
    go_enter Tryd.func15, Tryd.ntmps15
    go_wp2_with fail
    refine (join_any _ _ hsz).mono ?_
    rw [tail_data, hg.out]
    rintro e w' ⟨rfl, rfl⟩
    go_wp2
    go_ret3
    exact ⟨rfl, rfl⟩
  · simp at hj1 hj2
    have d3 : ((i : Int) == 0) = false := by simp; omega
    go_enter Tryd.func15, Tryd.ntmps15
    go_wp2_with fail
    refine (join_any _ _ hsz).mono ?_
    rw [tail_data, hg.out]
    rintro e w' ⟨rfl, rfl⟩
    go_wp2
    go_ret3
    exact ⟨rfl, rfl⟩

theorem Int_ok (s : ByteArray) (k : Nat) (n : Int) (m : Nat) (w : World) (hs : s.size ≤ maxLen) (hk : k ≤ s.size) (h : getL s.data.toList k = some (n, m)) :
    Calls Tryd.prog 15 #[.string s, .int .i64 k] w fun e w' => e = .returned (.tuple #[.int .i64 n, .int .i64 m, .int .i64 0]) ∧ w = w' := by
  have hs' := hs
  unfold maxLen at hs'
  obtain ⟨z, i, hj, hi, hz, hn, hm⟩ : ∃ z i : Nat, jr (s.data.toList.drop k) = (z, i) ∧ 0 < i ∧ z ≤ 9223372036854775806 ∧ unfoldI z = n ∧ k + i = m := by
    unfold getL at h
    unfold jr
    cases hq : jn 9 true (s.data.toList.drop k) with
    | none => rw [hq] at h; cases h
    | some p =>
      rw [hq] at h
      have := (jn_sound 8 true _ _ _ hq).2.1
      by_cases hz : p.1 ≤ 9223372036854775806
      · simp [hz] at h
        exact ⟨p.1, p.2, rfl, by omega, hz, h.1, h.2⟩
      · simp [hz] at h
  have hml : m ≤ s.size := by
    have := (getL_sound _ _ _ _ h).2.2.1 (by simpa using hk)
    simpa using this
  subst hn
  subst hm
  have hj := Lib.hid hj
  have d1 : decide ((k : Int) < 0) = false := by simp
  have d2 : decide ((s.size : Int) < (k : Int)) = false := by simp; omega
  have d3 : ((i : Int) == 0) = false := by simp; omega
  have d4 : decide ((9223372036854775806 : Int) < z) = false := by simp; omega
  have hsz : (s.extract k s.size).size ≤ maxLen := by simp; omega
  go_enter Tryd.func15, Tryd.ntmps15
  go_wp2_with fail
  refine (join_any _ _ hsz).mono ?_
  rw [tail_data, hj.out]
  rintro e w' ⟨rfl, rfl⟩
  go_wp2_with fail
  refine (unfold_any _ _ (by omega) (by omega)).mono ?_
  rw [unfoldN_eq]
  rintro e w' ⟨rfl, rfl⟩
  go_wp2
  go_ret3
  exact ⟨by simp, rfl⟩


theorem put_append (x : Int) (s : ByteArray) : (⟨(putL x).toArray⟩ : ByteArray) ++ s = ⟨(putL x ++ s.data.toList).toArray⟩ := by
  apply ByteArray.ext
  apply Array.toList_inj.1
  simp

/-- 'PutString' of a short string. -/
theorem PutString_any (s : ByteArray) (w : World) (hs : s.size ≤ 65536) :
    Calls Tryd.prog 19 #[.string s] w fun e w' => e = .returned (.tuple #[.string ⟨(putL s.size ++ s.data.toList).toArray⟩, .int .i64 0]) ∧ Below w.heap.size w w' := by
  have hl := (putL_len s.size).2
  go_enter Tryd.func19, Tryd.ntmps19
  go_wp2_with fail
  refine (PutInt_any _ _ (by omega) (by omega)).mono ?_
  rintro e w' ⟨rfl, hb⟩
  go_wp2
  rw [put_append]
  go_ret2
  exact ⟨rfl, hb⟩

theorem info5 : (Tryd.prog.info? 5).map (fun i => (i.zero, i.size, i.bytes)) = some (some (.int .u8 0), 1, 1) := by kernel_rfl
set_option maxHeartbeats 400000 in
set_option maxRecDepth 100000 in
/-- a fresh copy of s -/
theorem Clone30_any (s : ByteArray) (w : World) (hlim : s.size ≤ 140737488351232) :
    Calls Tryd.prog 30 #[.string s] w fun e w' => e = .returned (.string s) ∧ Below w.heap.size w w' := by
  by_cases h0 : s.size = 0
  · obtain rfl : s = ⟨#[]⟩ := ByteArray.ext (Array.eq_empty_of_size_eq_zero h0)
    go_enter Tryd.func30, Tryd.ntmps30
    go_wp2
    go_ret
    exact ⟨rfl, Below.refl _ _⟩
  · obtain ⟨i0, hi, hz0, hz1, hz2⟩ := info_parts info5
    have hinfo : (Tryd.prog.info? 5).map (·.size) = some 1 := by rw [hi]; simp [hz1]
    have hco : Tryd.prog.cellsOf 5 = 1 := by kernel_rfl
    obtain ⟨M, hM⟩ : ∃ M, M = madeCells (Value.int .u8 0).cells (((s.size : Nat) : Int).toNat * i0.size) := ⟨_, rfl⟩
    have hMs : M.size = s.size := by rw [hM, size_madeCells, hz1]; simp
    have hmk : ∀ W : World, (Instr.makeSlice 38 (.int .i64 (s.size : Int)) (.int .i64 (s.size : Int))).run Tryd.prog W = .ok (.slice (some ⟨W.heap.size, 0, none⟩) s.size s.size) (W.alloc (.cells M 5)) := fun W => by
      have h := run_make (P := Tryd.prog) W 38 5 i0 (.int .u8 0) Tryd.underlying38 hi hz0 .i64 .i64 (s.size : Int) (s.size : Int) (by omega) (by omega) (by rw [hz2]; omega) (by omega)
      rw [← hM] at h
      simpa using h
    clear hM
    have hcp := Lib.run_copy_row_string (P := Tryd.prog) (w.alloc (.cells M 5)) 38 9 3 5 w.heap.size 0 s.size s.size s M 5 Tryd.underlying38 hinfo (heap_alloc_new w _) (Nat.le_refl _) (by omega)
    obtain ⟨Y, hY⟩ : ∃ Y, Y = (M.toList.take 0 ++ Lib.byteCells s.data.toList ++ M.toList.drop (0 + s.size)).toArray := ⟨_, rfl⟩
    rw [← hY] at hcp
    have hYl : Y.toList = Lib.byteCells s.data.toList := by
      rw [hY, List.toList_toArray, List.take_zero, List.nil_append, List.drop_of_length_le (by rw [Array.length_toList]; omega), List.append_nil]
    have hYs : Y.size = s.size := by rw [← Array.length_toList, hYl, Lib.byteCells_length, ← Lib.size_eq]
    have hgY : ((w.alloc (.cells M 5)).setRow w.heap.size Y).heap[w.heap.size]? = some (.cells Y 5 (0, 0)) := setRow_heap _ _ M _ 5 (0, 0) (heap_alloc_new w _)
    have hne : s.data.toList ≠ [] := fun e => h0 (by rw [Lib.size_eq, e]; rfl)
    have hUS := Lib.run_unsafeString_row (P := Tryd.prog) ((w.alloc (.cells M 5)).setRow w.heap.size Y) 59 3 9 5 Tryd.underlying59 hco w.heap.size Y.size (by unfold World.shape?; rw [hgY]) s.data.toList hne (by rw [← Lib.size_eq]; omega) (by rw [← Lib.size_eq]; omega)
      (fun j x hx => Lib.cells_of_row hgY Y.size j _ (by rw [List.take_of_length_le (by rw [Array.length_toList]; exact Nat.le_refl _), hYl]; simp [Lib.byteCells, hx]))
    rw [← Lib.size_eq] at hUS
    clear hY
    go_enter Tryd.func30, Tryd.ntmps30
    go_wp2
    go_ret
    have hb1 : Below w.heap.size w (w.alloc (.cells M 5)) := (Below.refl _ w).alloc (Nat.le_refl _) _
    have hb2 : Below w.heap.size (w.alloc (.cells M 5)) ((w.alloc (.cells M 5)).setRow w.heap.size Y) := ⟨rfl, rfl, rfl, by simp, fun k hk => setRow_other _ _ _ _ (by omega)⟩
    exact ⟨rfl, Lib.below_freeze (hb1.trans hb2) (p := ⟨w.heap.size, 0, none⟩) (Nat.le_refl _) _⟩
theorem Clone_any (s : ByteArray) (w : World) (hlim : s.size ≤ 140737488351232) :
    Calls Tryd.prog 28 #[.string s] w fun e w' => e = .returned (.string s) ∧ Below w.heap.size w w' := by
  go_enter Tryd.func28, Tryd.ntmps28
  go_wp2_with fail
  refine (Clone30_any _ _ hlim).mono ?_
  rintro e w' ⟨rfl, hb⟩
  go_wp2
  go_ret
  exact ⟨rfl, hb⟩

theorem String_none (s : ByteArray) (k : Nat) (w : World) (hs : s.size ≤ 140737488351232) (hk : k ≤ s.size) (h : getT s.data.toList k = none) :
    Calls Tryd.prog 17 #[.string s, .int .i64 k] w fun e w' => e = .returned (.tuple #[.string ⟨#[]⟩, .int .i64 0, .int .i64 10]) ∧ Below w.heap.size w w' := by
  have hm : s.size ≤ maxLen := by unfold maxLen; omega
  cases hq : getL s.data.toList k with
  | none =>
    go_enter Tryd.func17, Tryd.ntmps17
    go_wp2_with fail
    refine (Int_none _ _ _ hm hk hq).mono ?_
    rintro e w' ⟨rfl, rfl⟩
    go_wp2
    go_ret3
    exact ⟨rfl, Below.refl _ _⟩
  | some p =>
    obtain ⟨n, m⟩ := p
    have hb := getL_sound _ _ _ _ hq
    obtain ⟨b1, b2, b3, b4, _⟩ := hb
    have b3 := b3 (by simpa using hk)
    have b3' : m ≤ s.size := by simpa using b3
    have hc : n < 0 ∨ 65536 < n ∨ (0 ≤ n ∧ n ≤ 65536 ∧ (s.size : Int) - m < n) := by
      unfold getT at h
      rw [hq] at h
      simp only at h
      split at h
      · cases h
      · rename_i hh
        have e : s.data.toList.length = s.size := by simp
        rw [e] at hh
        omega
    clear b3
    rcases hc with hc | hc | ⟨hc1, hc2, hc3⟩
    all_goals
      go_enter Tryd.func17, Tryd.ntmps17
      go_wp2_with fail
      refine (Int_ok _ _ _ _ _ hm hk hq).mono ?_
      rintro e w' ⟨rfl, rfl⟩
      go_wp2
      go_ret3
      exact ⟨rfl, Below.refl _ _⟩
theorem String_ok (s : ByteArray) (k : Nat) (t : List UInt8) (m : Nat) (w : World) (hs : s.size ≤ 140737488351232) (hk : k ≤ s.size) (h : getT s.data.toList k = some (t, m)) :
    Calls Tryd.prog 17 #[.string s, .int .i64 k] w fun e w' => e = .returned (.tuple #[.string ⟨t.toArray⟩, .int .i64 m, .int .i64 0]) ∧ Below w.heap.size w w' := by
  have hm : s.size ≤ maxLen := by unfold maxLen; omega
  cases hq : getL s.data.toList k with
  | none => unfold getT at h; rw [hq] at h; cases h
  | some p =>
    obtain ⟨n, f⟩ := p
    have hb := getL_sound _ _ _ _ hq
    obtain ⟨b1, b2, b3, b4, _⟩ := hb
    have b3 := b3 (by simpa using hk)
    have b3' : f ≤ s.size := by simpa using b3
    obtain ⟨c1, c2, c3, ht, hm'⟩ : 0 ≤ n ∧ n ≤ 65536 ∧ f + n.toNat ≤ s.size ∧ (s.data.toList.drop f).take n.toNat = t ∧ f + n.toNat = m := by
      unfold getT at h
      rw [hq] at h
      simp only at h
      split at h
      · rename_i hh
        simp only [Option.some.injEq, Prod.mk.injEq] at h
        have e : s.data.toList.length = s.size := by simp
        rw [e] at hh
        exact ⟨hh.1, hh.2.1, hh.2.2, h.1, h.2⟩
      · cases h
    obtain ⟨n, rfl⟩ := Int.eq_ofNat_of_zero_le c1
    rw [Int.toNat_natCast] at c3 ht hm'
    have hx : (⟨t.toArray⟩ : ByteArray) = s.extract f (f + n) := by
      rw [Lib.extract_eq, ← ht]; congr 2; congr 1; omega
    have hsx : (s.extract f (f + n)).size ≤ 140737488351232 := by simp; omega
    rw [hx]
    subst hm'
    clear b3 hx h ht
    have hq := Lib.hid hq
    go_enter Tryd.func17, Tryd.ntmps17
    go_wp2_with fail
    refine (Int_ok _ _ _ _ _ hm hk hq.out).mono ?_
    rintro e w' ⟨rfl, rfl⟩
    go_wp2_with fail
    refine (Clone_any _ _ hsx).mono ?_
    rintro e w' ⟨rfl, hb⟩
    go_wp2
    go_ret3
    exact ⟨by simp, hb⟩
end Go.Proofs.YtimfhnnabocliaaDoor
