/- The reference's reader: its state as a pair, and reading an integer. -/
import Derived.Test.YtlaldnlgapeckaaGreatZW
import Derived.Test.YtlaldnlgapeckaaGreatYN
import Derived.Test.YtlaldnlgapeckaaGreatYQt
import Derived.Deep.CutRange
set_option linter.unusedSimpArgs false
set_option maxRecDepth 100000
set_option maxHeartbeats 4000000
namespace Go.Proofs.YtlaldnlgapeckaaGreat
open Go.RowKit
def RdC (W : World) (b : Nat) (s : ByteArray) (q : Int × Bool) : Prop := W.heap[b]? = some (.cells #[.string s, .int .i64 q.1, .bool q.2] 113 (0, 0))
theorem RdC.lt {W : World} {b : Nat} {s : ByteArray} {q : Int × Bool} (h : RdC W b s q) : b < W.heap.size := (Array.getElem?_eq_some_iff.1 h).1
theorem RdC.below {W W' : World} {b : Nat} {s : ByteArray} {q : Int × Bool} (h : RdC W b s q) (B : Below W.heap.size W W') : RdC W' b s q := (B.block b h.lt).trans h
theorem RdC.cells {W : World} {b : Nat} {s : ByteArray} {q : Int × Bool} (h : RdC W b s q) : W.cell? ⟨b, 0, none⟩ = some (.string s) ∧ W.cell? ⟨b, 1, none⟩ = some (.int .i64 q.1) ∧ W.cell? ⟨b, 2, none⟩ = some (.bool q.2) := by
 refine ⟨?_, ?_, ?_⟩ <;> (rw [cell_of_row W b _ _ _ _ h]; rfl)
theorem RdC.setA {W : World} {b : Nat} {s : ByteArray} {q : Int × Bool} (h : RdC W b s q) (a' : Int) : RdC (W.setCell ⟨b, 1, none⟩ (.int .i64 a')) b s (a', q.2) ∧ KR b W (W.setCell ⟨b, 1, none⟩ (.int .i64 a')) :=
 ⟨by unfold RdC at h ⊢; rw [heap_setCell_same W b 1 _ 113 _ h]; rfl, (Below.refl b W).setCell (p := ⟨b, 1, none⟩) (Nat.le_refl _) _, fun k e _ => heap_setCell_other W ⟨b, 1, none⟩ k _ e⟩
theorem RdC.setF {W : World} {b : Nat} {s : ByteArray} {q : Int × Bool} (h : RdC W b s q) (f : Bool) : RdC (W.setCell ⟨b, 2, none⟩ (.bool f)) b s (q.1, f) ∧ KR b W (W.setCell ⟨b, 2, none⟩ (.bool f)) :=
 ⟨by unfold RdC at h ⊢; rw [heap_setCell_same W b 2 _ 113 _ h]; rfl, (Below.refl b W).setCell (p := ⟨b, 2, none⟩) (Nat.le_refl _) _, fun k e _ => heap_setCell_other W ⟨b, 2, none⟩ k _ e⟩
/-- reading an integer, as the reference does: nothing is read any more once one could not be read -/
def stI (L : List UInt8) (q : Int × Bool) : Int × (Int × Bool) :=
 match (if q.2 = true then rdI L q.1 else none) with
 | none => (0, (q.1, false))
 | some p => (p.1, ((p.2 : Int), true))
theorem stI_bad {L : List UInt8} {a : Int} {f : Bool} (h : f = false ∨ rdI L a = none) : stI L (a, f) = (0, (a, false)) := by
 unfold stI
 have e0 : (if f = true then rdI L a else none) = none := by rcases h with rfl | h <;> simp_all
 simp only [e0]
theorem stI_ok {L : List UInt8} {a : Int} {p : Int × Nat} (h : rdI L a = some p) : stI L (a, true) = (p.1, ((p.2 : Int), true)) := by
 unfold stI
 simp only [h, if_true]
def IPost (b : Nat) (s : ByteArray) (r : Int × (Int × Bool)) (w : World) (e : Ending) (w' : World) : Prop := e = .returned (.int .i64 r.1) ∧ RdC w' b s r.2 ∧ KR b w w'
theorem RInt_all (s : ByteArray) (a : Int) (hs : s.size ≤ 1000000) (h1 : inI a) : ∃ n m r : Int, (rdI s.data.toList a = none → r ≠ 0) ∧ (∀ p, rdI s.data.toList a = some p → n = p.1 ∧ m = (p.2 : Int) ∧ r = 0) ∧
   ∀ W, Calls Tryz.prog 97 #[.string s, .int .i64 a] W fun e W' => e = .returned (.tuple #[.int .i64 n, .int .i64 m, .int .i64 r]) ∧ Below W.heap.size W W' := by
 have hl : s.data.toList.length = s.size := Array.length_toList
 unfold inI at h1
 by_cases hc : a < 0 ∨ (s.size : Int) < a
 · have e1 : rdI s.data.toList a = none := by unfold rdI; rw [hl, if_pos hc]
   refine ⟨0, 0, 2, fun _ => by decide, fun p h => (by rw [e1] at h; cases h), fun W => (RInt_arg s a W (by unfold maxLen; omega) hc h1.1 h1.2).mono ?_⟩
   rintro e w' ⟨rfl, rfl⟩
   exact ⟨rfl, Below.refl _ _⟩
 · obtain ⟨k, rfl⟩ : ∃ k : Nat, a = k := ⟨a.toNat, by omega⟩
   have e1 : rdI s.data.toList (k : Int) = getL s.data.toList k := by unfold rdI; rw [hl, if_neg hc]; simp
   cases hg : getL s.data.toList k with
   | none => exact ⟨0, 0, 10, fun _ => by decide, fun p h => (by rw [e1, hg] at h; cases h), fun W => RInt_none s k W (by omega) (by omega) hg⟩
   | some p =>
     obtain ⟨n, m⟩ := p
     refine ⟨n, m, 0, fun h => (by rw [e1, hg] at h; cases h), fun p h => ?_, fun W => RInt_ok s k n m W (by omega) (by omega) hg⟩
     rw [e1, hg] at h
     injection h with h
     subst h
     exact ⟨rfl, rfl, rfl⟩
theorem rint_any (b : Nat) (s : ByteArray) (q : Int × Bool) (w : World) (h : RdC w b s q) (hs : s.size ≤ 1000000) (h1 : inI q.1) :
   Calls Tryz.prog 71 #[.pointer (some ⟨b, 0, none⟩)] w (IPost b s (stI s.data.toList q) w) := by
 have hb := h.lt
 obtain ⟨a, f⟩ := q
 obtain ⟨n, m, r, g1, g2, hc⟩ := RInt_all s a hs h1
 have hcell := Hd (fun (W : World) (B : Below w.heap.size w W) => (show W.cell? ⟨b, 0, none⟩ = some (.string s) ∧ W.cell? ⟨b, 1, none⟩ = some (.int .i64 a) ∧ W.cell? ⟨b, 2, none⟩ = some (.bool f) from (h.below B).cells))
 have k1 := Hd (fun (W : World) (B : Below w.heap.size w W) => (hc W).mono fun e W' hh => (⟨hh.1, B.trans (hh.2.mono B.size)⟩ : e = .returned (.tuple #[.int .i64 n, .int .i64 m, .int .i64 r]) ∧ Below w.heap.size w W'))
 have hbad : Hid (∀ W, (f = false ∨ r ≠ 0) → Below w.heap.size w W → IPost b s (stI s.data.toList (a, f)) w (.returned (.int .i64 0)) (W.setCell ⟨b, 2, none⟩ (.bool false))) := fun W hr B => by
   have e0 : f = false ∨ rdI s.data.toList a = none := by
     rcases hr with hr | hr
     · exact .inl hr
     · cases hx : rdI s.data.toList a with
       | none => exact .inr rfl
       | some p => exact absurd (g2 p hx).2.2 hr
   rw [stI_bad e0]
   exact ⟨rfl, ((h.below B).setF _).1, (KR.of B (by omega)).trans ((h.below B).setF _).2⟩
 have hgood : Hid (∀ W, f = true → r = 0 → Below w.heap.size w W → IPost b s (stI s.data.toList (a, f)) w (.returned (.int .i64 n)) (W.setCell ⟨b, 1, none⟩ (.int .i64 m))) := fun W hf hr B => by
   subst hf
   cases hx : rdI s.data.toList a with
   | none => exact absurd hr (g1 hx)
   | some p =>
     obtain ⟨rfl, rfl, _⟩ := g2 p hx
     rw [stI_ok hx]
     exact ⟨rfl, ((h.below B).setA _).1, (KR.of B (by omega)).trans ((h.below B).setA _).2⟩
 have hfree := Hd (fun (W : World) (B : Below w.heap.size w W) => (⟨frozen_of_row W b 1 _ _ (h.below B), frozen_of_row W b 2 _ _ (h.below B)⟩ : _ ∧ _))
 clear h h1 hs hc g1 g2
 have hcase : (f = false ∨ (f = true ∧ r = 0) ∨ (f = true ∧ r ≠ 0)) := by cases f <;> simp <;> omega
 generalize stI s.data.toList (a, f) = R at *
 rcases hcase with rfl | ⟨rfl, rfl⟩ | ⟨rfl, h0⟩
 · go_enter Tryz.func71, Tryz.ntmps71
   go_upto_region 1 with (fail)
   refine q_region (fun W => Below w.heap.size w W) (by kernel_rfl) (by kernel_rfl) ((Below.refl _ w).drew) ?_
   iterate 8 (refine q_take (v := ?_) (by rfl) ?_ ?_; rotate_left; (first | ((intro w h; clear h; go_simp) <;> with_reducible rfl) | ((intro w h; obtain ⟨c0, c1, c2⟩ := hcell.out w h; go_simp) <;> with_reducible rfl)); try simp only [Act.put, List.setIfInBounds_toArray, List.set_cons_zero, List.set_cons_succ])
   refine q_call (v := .tuple #[.int .i64 n, .int .i64 m, .int .i64 r]) Tryz.f97 (by rfl) rfl Tryz.func97 (by kernel_rfl) (by kernel_rfl) #[.string s, .int .i64 a] (by simp [Act.eval]) (fun w hSw => k1.out w hSw) ?_
   repeat (refine q_take (v := ?_) (by rfl) ?_ ?_; rotate_left; (first | ((intro w h; clear h; go_simp) <;> with_reducible rfl)); try simp only [Act.put, List.setIfInBounds_toArray, List.set_cons_zero, List.set_cons_succ])
   refine q_nil ?_
   intro wq hq
   obtain ⟨c0, c1, c2⟩ := hcell.out _ hq
   obtain ⟨fr1, fr2⟩ := hfree.out _ hq
   have hf := Hd (hbad.out wq (.inl rfl) hq)
   clear hq
   go_wp2_with fail
   go_ret
   exact hf.out
 · go_enter Tryz.func71, Tryz.ntmps71
   go_upto_region 1 with (fail)
   refine q_region (fun W => Below w.heap.size w W) (by kernel_rfl) (by kernel_rfl) ((Below.refl _ w).drew) ?_
   iterate 8 (refine q_take (v := ?_) (by rfl) ?_ ?_; rotate_left; (first | ((intro w h; clear h; go_simp) <;> with_reducible rfl) | ((intro w h; obtain ⟨c0, c1, c2⟩ := hcell.out w h; go_simp) <;> with_reducible rfl)); try simp only [Act.put, List.setIfInBounds_toArray, List.set_cons_zero, List.set_cons_succ])
   refine q_call (v := .tuple #[.int .i64 n, .int .i64 m, .int .i64 0]) Tryz.f97 (by rfl) rfl Tryz.func97 (by kernel_rfl) (by kernel_rfl) #[.string s, .int .i64 a] (by simp [Act.eval]) (fun w hSw => k1.out w hSw) ?_
   repeat (refine q_take (v := ?_) (by rfl) ?_ ?_; rotate_left; (first | ((intro w h; clear h; go_simp) <;> with_reducible rfl)); try simp only [Act.put, List.setIfInBounds_toArray, List.set_cons_zero, List.set_cons_succ])
   refine q_nil ?_
   intro wq hq
   obtain ⟨c0, c1, c2⟩ := hcell.out _ hq
   obtain ⟨fr1, fr2⟩ := hfree.out _ hq
   have hf := Hd (hgood.out wq rfl rfl hq)
   clear hq
   go_wp2_with fail
   go_ret
   exact hf.out
 · have h0' : (r == 0) = false := by simpa using h0
   go_enter Tryz.func71, Tryz.ntmps71
   go_upto_region 1 with (fail)
   refine q_region (fun W => Below w.heap.size w W) (by kernel_rfl) (by kernel_rfl) ((Below.refl _ w).drew) ?_
   iterate 8 (refine q_take (v := ?_) (by rfl) ?_ ?_; rotate_left; (first | ((intro w h; clear h; go_simp) <;> with_reducible rfl) | ((intro w h; obtain ⟨c0, c1, c2⟩ := hcell.out w h; go_simp) <;> with_reducible rfl)); try simp only [Act.put, List.setIfInBounds_toArray, List.set_cons_zero, List.set_cons_succ])
   refine q_call (v := .tuple #[.int .i64 n, .int .i64 m, .int .i64 r]) Tryz.f97 (by rfl) rfl Tryz.func97 (by kernel_rfl) (by kernel_rfl) #[.string s, .int .i64 a] (by simp [Act.eval]) (fun w hSw => k1.out w hSw) ?_
   repeat (refine q_take (v := ?_) (by rfl) ?_ ?_; rotate_left; (first | ((intro w h; clear h; go_simp) <;> with_reducible rfl)); try simp only [Act.put, List.setIfInBounds_toArray, List.set_cons_zero, List.set_cons_succ])
   refine q_nil ?_
   intro wq hq
   obtain ⟨c0, c1, c2⟩ := hcell.out _ hq
   obtain ⟨fr1, fr2⟩ := hfree.out _ hq
   have hf := Hd (hbad.out wq (.inr h0) hq)
   clear hq h0
   go_wp2_with fail
   go_ret
   exact hf.out
end Go.Proofs.YtlaldnlgapeckaaGreat
