import Derived.Test.YtimfhnnabocliaaDoorQ
import Derived.OpenShut
namespace Go.Proofs.YtimfhnnabocliaaDoor
open Go.RowKit

set_option maxRecDepth 100000 in
set_option maxHeartbeats 1000000 in
theorem Sequence_zero (a0 a1 : Option Addr) (len0 cap0 len1 cap1 : Nat) (w : World) (hn : min (min len0 len1) 20 = 0) (hT : Tab w) :
    Calls Tryd.prog 6 #[.slice a0 len0 cap0, .slice a1 len1 cap1] w fun e w' => e = .returned (.bool true) ∧ Below w.heap.size w w' := by
  have r0 : ∀ ts t w, (Builtin.min_ ts t #[.int .i64 (len0 : Int), .int .i64 (len1 : Int), .int .i64 20]).run Tryd.prog w = .ok (.int .i64 0) w := fun ts t w => by
    have e : (0 : Int) = (if (20 : Int) < (if (len1 : Int) < len0 then (len1 : Int) else len0) then 20 else (if (len1 : Int) < len0 then (len1 : Int) else len0)) := by omega
    conv => rhs; rw [e]
    rw [run_min_int3]
  clear hn
  go_enter Tryd.func6, Tryd.ntmps6
  go_wp2_with fail
  refine (sane_any _ hT).mono ?_
  rintro e w1 ⟨rfl, hB1⟩
  go_wp2_with fail
  go_loopw [7, 8] (fun sv v wr => v = .int .i64 0 ∧ sv = .string ⟨#[]⟩ ∧ Below w.heap.size w wr) (fun _ _ _ => 0)
  case atStart => exact ⟨rfl, rfl, hB1⟩
  case round =>
    obtain ⟨rfl, rfl, B⟩ := hrel
    go_wp2_with fail
    go_loopw [13, 14] (fun av v wr => v = .int .i64 0 ∧ av = .int .i64 0 ∧ Below w.heap.size w wr) (fun _ _ _ => 0)
    case atStart => exact ⟨rfl, rfl, B⟩
    case round =>
      rename_i wq
      obtain ⟨rfl, rfl, BQ⟩ := hrel
      go_wp2_with fail
      refine (Int_none ⟨#[]⟩ 0 _ (by decide) (by decide) (by decide)).mono ?_
      rintro e w4 ⟨rfl, rfl⟩
      go_wp2
      go_ret
      exact ⟨rfl, BQ⟩

theorem add_at (b off i : Nat) : Addr.add ⟨b, off, none⟩ i = ⟨b, off + i, none⟩ := by
  unfold Addr.add
  split
  · rename_i e; rw [e]; rfl
  · rfl
theorem Sequence_any (a0 a1 : Option Addr) (len0 cap0 len1 cap1 : Nat) (w : World) (hl0 : len0 ≤ maxLen) (hl1 : len1 ≤ maxLen)
    (h0 : (a0 = none ∧ len0 = 0) ∨ ∃ (x : Addr) (zs : List Int), a0 = some x ∧ len0 ≤ zs.length ∧ (∀ i, i < zs.length → w.cell? (x.add i) = some (.int .i64 (zs.getD i 0))) ∧ ∀ n ∈ zs, (Lit.int .i64 n).wf = true)
    (h1 : (a1 = none ∧ len1 = 0) ∨ ∃ (x : Addr) (ss : List ByteArray), a1 = some x ∧ len1 ≤ ss.length ∧ (∀ i, i < ss.length → w.cell? (x.add i) = some (.string (ss.getD i ByteArray.empty))) ∧ ∀ s ∈ ss, ByteArray.size s ≤ maxLen) (hT : Tab w) :
    Calls Tryd.prog 6 #[.slice a0 len0 cap0, .slice a1 len1 cap1] w fun e w' => e = .returned (.bool true) ∧ Below w.heap.size w w' := by
  by_cases hn : min (min len0 len1) 20 = 0
  · exact Sequence_zero a0 a1 len0 cap0 len1 cap1 w hn hT
  · rcases h0 with ⟨rfl, e⟩ | ⟨⟨b0, o0, p0⟩, zs, rfl, hz1, hz2, hz3⟩
    · omega
    rcases h1 with ⟨rfl, e⟩ | ⟨⟨b1, o1, p1⟩, ss, rfl, hs1, hs2, hs3⟩
    · omega
    have c0 := hz2 0 (by omega)
    have c1 := hs2 0 (by omega)
    have sp0 : p0 = none := by simpa [Addr.add] using World.cell?_spot c0
    have sp1 : p1 = none := by simpa [Addr.add] using World.cell?_spot c1
    subst sp0 sp1
    rw [add_at] at c0 c1
    refine Sequence_walk b0 o0 len0 cap0 b1 o1 len1 cap1 zs ss w _ rfl hl0 hl1 (World.block_lt_of_cell? w _ c0) (World.block_lt_of_cell? w _ c1) (fun i hi => ?_) (fun i hi => ?_) (fun i hi => ?_) (fun i hi => ?_) hT
    · rw [← add_at]; exact hz2 i (by omega)
    · have hi' : i < zs.length := by omega
      have : zs.getD i 0 ∈ zs := by simp [List.getD, hi']
      exact bounds_i64 (hz3 _ this)
    · rw [← add_at]; exact hs2 i (by omega)
    · have hi' : i < ss.length := by omega
      have : ss.getD i ByteArray.empty ∈ ss := by simp [List.getD, hi']
      exact hs3 _ this
end Go.Proofs.YtimfhnnabocliaaDoor
