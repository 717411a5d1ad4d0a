/- The reference's reader: reading an edge. -/
import Derived.Test.YtlaldnlgapeckaaGreatZA
set_option linter.unusedSimpArgs false
set_option maxRecDepth 100000
set_option maxHeartbeats 4000000
namespace Go.Proofs.YtlaldnlgapeckaaGreat
open Go.RowKit
theorem stI_in {L : List UInt8} {q : Int × Bool} (hL : L.length ≤ 1000000) (h : inI q.1) : inI (stI L q).2.1 ∧ inI (stI L q).1 := by
 obtain ⟨a, f⟩ := q
 by_cases hf : f = false ∨ rdI L a = none
 · rw [stI_bad hf]; exact ⟨h, by unfold inI; omega⟩
 · cases f with
   | false => simp at hf
   | true =>
     cases hx : rdI L a with
     | none => simp [hx] at hf
     | some p =>
       rw [stI_ok hx]
       have h1 := rdI_ok (n := p.1) (m := p.2) hx
       unfold inP at h1
       unfold inI
       simp only
       omega
def stE4 (p : Int × (Int × Bool)) : Int × Bool := if p.1 = 0 ∨ p.1 = 1 then p.2 else (p.2.1, false)
def stE (L : List UInt8) (q : Int × Bool) : Ed × (Int × Bool) :=
 let p1 := stI L q; let p2 := stI L p1.2; let p3 := stI L p2.2; let p4 := stI L p3.2; let p5 := stI L (stE4 p4); let p6 := stI L p5.2
 (⟨p1.1, p2.1, p3.1, p4.1 == 1, p5.1, p6.1⟩, p6.2)
def edRow (a b c : Int) (d : Bool) (e f : Int) : Array Value := #[.int .i64 a, .int .i64 b, .int .i64 c, .bool d, .int .i64 e, .int .i64 f]
theorem size31 (a b c : Int) (d : Bool) (e f : Int) : (Tryz.prog.info? 31).map (·.size) = some (edRow a b c d e f).size := by kernel_rfl
theorem edRow_all (a b c : Int) (d : Bool) (e f : Int) : (edRow a b c d e f).all (·.oneCell') = true := by simp [edRow, Value.oneCell']
structure ESt (w W : World) (b g : Nat) (s : ByteArray) (q : Int × Bool) (cs : Array Value) : Prop where
 rd : RdC W b s q
 box : W.heap[g]? = some (.cells cs 31 (0, 0))
 res : W.heap[w.heap.size]? = some (.cells (edRow 0 0 0 false 0 0) 31 (0, 0))
 kr : KR b w W
theorem ESt.call {w W W' : World} {b g : Nat} {s : ByteArray} {q q' : Int × Bool} {cs : Array Value} (h : ESt w W b g s q cs) (hr : RdC W' b s q') (k : KR b W W') (h1 : b ≠ g) (h2 : b < w.heap.size) : ESt w W' b g s q' cs :=
 ⟨hr, (k.keep g (Ne.symm h1) (Array.getElem?_eq_some_iff.1 h.box).1).trans h.box, (k.keep _ (by omega) (Array.getElem?_eq_some_iff.1 h.res).1).trans h.res, h.kr.trans k⟩
theorem ESt.setF {w W : World} {b g : Nat} {s : ByteArray} {q : Int × Bool} {cs : Array Value} (h : ESt w W b g s q cs) (f : Bool) (h1 : b ≠ g) (h2 : b < w.heap.size) : ESt w (W.setCell ⟨b, 2, none⟩ (.bool f)) b g s (q.1, f) cs :=
 h.call (h.rd.setF f).1 (h.rd.setF f).2 h1 h2
theorem ESt.setE {w W : World} {b g : Nat} {s : ByteArray} {q : Int × Bool} {cs : Array Value} (h : ESt w W b g s q cs) (j : Nat) (v : Value) (h1 : b ≠ g) (h2 : w.heap.size < g) (h3 : b < w.heap.size) : ESt w (W.setCell ⟨g, j, none⟩ v) b g s q (cs.setIfInBounds j v) :=
 ⟨(heap_setCell_other W ⟨g, j, none⟩ b v h1).trans h.rd, heap_setCell_same W g j cs 31 v h.box, (heap_setCell_other W ⟨g, j, none⟩ _ v (by show _ ≠ g; omega)).trans h.res,
  ⟨h.kr.below.setCell (p := ⟨g, j, none⟩) (by show b ≤ g; omega) _, fun k hk hl => (heap_setCell_other W ⟨g, j, none⟩ k _ (by show k ≠ g; omega)).trans (h.kr.keep k hk hl)⟩⟩
theorem box6 {W : World} {g : Nat} {a b c : Int} {d : Bool} {e f : Int} (h : W.heap[g]? = some (.cells (edRow a b c d e f) 31 (0, 0))) :
   W.cell? ⟨g, 3, none⟩ = some (.bool d) ∧ W.cell? ⟨g, 4, none⟩ = some (.int .i64 e) ∧ W.cell? ⟨g, 5, none⟩ = some (.int .i64 f) ∧ W.frozen? ⟨g, 3, none⟩ = false ∧ W.frozen? ⟨g, 4, none⟩ = false ∧ W.frozen? ⟨g, 5, none⟩ = false := by
 refine ⟨?_, ?_, ?_, frozen_of_row W g 3 _ _ h, frozen_of_row W g 4 _ _ h, frozen_of_row W g 5 _ _ h⟩ <;> (rw [cell_of_row W g _ _ _ _ h]; rfl)
def EPost (b : Nat) (s : ByteArray) (r : Ed × (Int × Bool)) (w : World) (e : Ending) (w' : World) : Prop := e = .returned (.agg (edCells r.1)) ∧ RdC w' b s r.2 ∧ KR b w w'
theorem redgeR_any (b : Nat) (s : ByteArray) (q : Int × Bool) (w : World) (h : RdC w b s q) (hs : s.size ≤ 1000000) (h1 : inI q.1) :
   Calls Tryz.prog 72 #[.pointer (some ⟨b, 0, none⟩)] w (EPost b s (stE s.data.toList q) w) := by
 have hb := h.lt
 have hl : s.data.toList.length ≤ 1000000 := by rw [Array.length_toList]; exact hs
 obtain ⟨R, hR⟩ : ∃ R, Hid (R = stE s.data.toList q) := ⟨_, rfl⟩
 rw [← hR.out]
 obtain ⟨w0, hw0⟩ : ∃ w0, Hid (w0 = w.alloc (.cells #[.int .i64 0, .int .i64 0, .int .i64 0, .bool false, .int .i64 0, .int .i64 0] 31)) := ⟨_, rfl⟩
 have hB0 : Below w.heap.size w w0 := by rw [hw0.out]; exact (Below.refl _ w).alloc (Nat.le_refl _) _
 have hz0 : Hid (w0.heap.size = w.heap.size + 1) := by show _ = _; rw [hw0.out]; simp
 have hres0 := Hd (show w0.heap[w.heap.size]? = some (.cells (edRow 0 0 0 false 0 0) 31 (0, 0)) by rw [hw0.out]; exact heap_alloc_new w _)
 have hr0 := Hd (h.below hB0)
 have hk0 := Hd (KR.of hB0 (Nat.le_of_lt hb))
 have k1 := Hd (fun W q (hr : RdC W b s q) (hi : inI q.1) => rint_any b s q W hr hs hi)
 have hi := Hd (fun q (h : inI q.1) => stI_in (q := q) hl h)
 have hb := Hd hb
 clear hs hl h hB0
 obtain ⟨p1, hp1⟩ : ∃ p, Hid (p = stI s.data.toList q) := ⟨_, rfl⟩
 have i1 := Hd (hp1.out ▸ hi.out q h1)
 obtain ⟨p2, hp2⟩ : ∃ p, Hid (p = stI s.data.toList p1.2) := ⟨_, rfl⟩
 have i2 := Hd (hp2.out ▸ hi.out _ i1.out.1)
 obtain ⟨p3, hp3⟩ : ∃ p, Hid (p = stI s.data.toList p2.2) := ⟨_, rfl⟩
 have i3 := Hd (hp3.out ▸ hi.out _ i2.out.1)
 obtain ⟨p4, hp4⟩ : ∃ p, Hid (p = stI s.data.toList p3.2) := ⟨_, rfl⟩
 have i4 := Hd (hp4.out ▸ hi.out _ i3.out.1)
 have i4' : Hid (inI (stE4 p4).1) := by
   show inI _
   unfold stE4; split
   · exact i4.out.1
   · exact i4.out.1
 obtain ⟨p5, hp5⟩ : ∃ p, Hid (p = stI s.data.toList (stE4 p4)) := ⟨_, rfl⟩
 have i5 := Hd (hp5.out ▸ hi.out _ i4'.out)
 obtain ⟨p6, hp6⟩ : ∃ p, Hid (p = stI s.data.toList p5.2) := ⟨_, rfl⟩
 have hRR : Hid (R = (⟨p1.1, p2.1, p3.1, p4.1 == 1, p5.1, p6.1⟩, p6.2)) := by
   show _ = _
   rw [hR.out, hp6.out, hp5.out, hp4.out, hp3.out, hp2.out, hp1.out]; rfl
 have h1 := Hd h1
 have c1 := Hd (fun W (hr : RdC W b s q) => hp1.out ▸ k1.out W q hr h1.out)
 have c2 := Hd (fun W (hr : RdC W b s p1.2) => hp2.out ▸ k1.out W _ hr i1.out.1)
 have c3 := Hd (fun W (hr : RdC W b s p2.2) => hp3.out ▸ k1.out W _ hr i2.out.1)
 have c4 := Hd (fun W (hr : RdC W b s p3.2) => hp4.out ▸ k1.out W _ hr i3.out.1)
 have c5 := Hd (fun W (hr : RdC W b s (stE4 p4)) => hp5.out ▸ k1.out W _ hr i4'.out)
 have c6 := Hd (fun W (hr : RdC W b s p5.2) => hp6.out ▸ k1.out W _ hr i5.out.1)
 have hend : Hid (∀ W g, ESt w W b g s p6.2 (edRow p1.1 p2.1 p3.1 (p4.1 == 1) p5.1 p6.1) → EPost b s R w (.returned (.agg (edRow p1.1 p2.1 p3.1 (p4.1 == 1) p5.1 p6.1))) (W.setRow w.heap.size (edRow p1.1 p2.1 p3.1 (p4.1 == 1) p5.1 p6.1))) := fun W g hE => by
   have hb' := hb.out
   rw [hRR.out]
   exact ⟨rfl, (setRow_other _ _ _ _ (by omega)).trans hE.rd, KR.row hE.kr (KR.refl _ _) hb' (Nat.le_refl _) _⟩
 clear k1 hi hp1 hp2 hp3 hp4 hp5 hp6 i1 i2 i3 i4 i4' i5 h1 hR hRR
 go_enter Tryz.func72, Tryz.ntmps72
 go_wp2_with fail
 rw [← hw0.out]
 refine (c1.out _ hr0.out).mono ?_
 rintro e w1 ⟨rfl, r1, k1⟩
 have k1 := Hd k1
 have r1 := Hd r1
 go_wp2_with fail
 refine (c2.out _ r1.out).mono ?_
 rintro e w2 ⟨rfl, r2, k2⟩
 have k2 := Hd (k1.out.trans k2)
 have r2 := Hd r2
 go_wp2_with fail
 refine (c3.out _ r2.out).mono ?_
 rintro e w3 ⟨rfl, r3, k3⟩
 have k3 := Hd (k2.out.trans k3)
 obtain ⟨w4, hw4⟩ : ∃ W, Hid (W = w3.alloc (.cells #[.int .i64 p1.1, .int .i64 p2.1, .int .i64 p3.1, .bool false, .int .i64 0, .int .i64 0] 31)) := ⟨_, rfl⟩
 have hz3 : Hid (w.heap.size < w3.heap.size) := by
  show _ < _
  have := k3.out.below.size
  have := hz0.out
  omega
 have hS : Hid (ESt w w4 b w3.heap.size s p3.2 (edRow p1.1 p2.1 p3.1 false 0 0)) := by
  show ESt _ _ _ _ _ _ _
  have ha : Below w3.heap.size w3 w4 := by rw [hw4.out]; exact (Below.refl _ _).alloc (Nat.le_refl _) _
  refine ⟨r3.below ha, by rw [hw4.out]; exact heap_alloc_new w3 _, ?_, (hk0.out.trans k3.out).trans (KR.of ha (by have := hb.out; have := hz3.out; omega))⟩
  refine (ha.block _ hz3.out).trans ((k3.out.keep _ (by have := hb.out; omega) (by have := hz0.out; omega)).trans hres0.out)
 have hbg : Hid (b ≠ w3.heap.size) := by show _ ≠ _; have := hb.out; have := hz3.out; omega
 clear r3 k1 k2 r1 r2
 go_wp2_with fail
 rw [← hw4.out]
 refine (c4.out _ hS.out.rd).mono ?_
 rintro e w5 ⟨rfl, r5, k5⟩
 have hS := Hd (hS.out.call r5 k5 hbg.out hb.out)
 clear r5 k5
 generalize w3.heap.size = g at *
 have hcase : p4.1 = 0 ∨ p4.1 = 1 ∨ (p4.1 ≠ 0 ∧ p4.1 ≠ 1) := by omega
 rcases hcase with h0 | h0 | ⟨h0, h1⟩
 · have e0 : Hid (stE4 p4 = p4.2) := by show _ = _; unfold stE4; rw [if_pos (.inl h0)]
   have e1 : Hid ((p4.1 == 1) = false) := by show _ = _; rw [h0]; rfl
   rw [e0.out] at c5
   rw [e1.out] at hend
   have n0 : (p4.1 != 0) = false := by rw [h0]; rfl
   have n1 := e1.out
   obtain ⟨f3, f4, f5, z3, z4, z5⟩ := box6 hS.out.box
   clear h0
   go_wp2_with fail
   have hS := Hd (hS.out.setE 3 (.bool false) hbg.out hz3.out hb.out)
   clear f3 f4 f5 z3 z4 z5
   refine (c5.out _ hS.out.rd).mono ?_
   rintro e w6 ⟨rfl, r6, k6⟩
   have hS := Hd (hS.out.call r6 k6 hbg.out hb.out)
   clear r6 k6
   obtain ⟨f3, f4, f5, z3, z4, z5⟩ := box6 hS.out.box
   go_wp2_with fail
   have hS := Hd (hS.out.setE 4 (.int .i64 p5.1) hbg.out hz3.out hb.out)
   refine (c6.out _ hS.out.rd).mono ?_
   rintro e w7 ⟨rfl, r7, k7⟩
   have hS := Hd (hS.out.call r7 k7 hbg.out hb.out)
   clear r7 k7 f3 f4 f5 z3 z4 z5
   obtain ⟨f3, f4, f5, z3, z4, z5⟩ := box6 hS.out.box
   have hS := Hd (hS.out.setE 5 (.int .i64 p6.1) hbg.out hz3.out hb.out)
   have hF := Hd (hend.out _ _ hS.out)
   go_wp2_with first
     | (refine wpList_load_row rfl 31 (.tmp 3) rfl g rfl 31 (edRow p1.1 p2.1 p3.1 false p5.1 p6.1) (0, 0) _ hS.out.box Tryz.underlying31 rfl (size31 _ _ _ _ _ _) ?_)
     | (refine wpList_store_row rfl 31 (.tmp 2) (.tmp 32) rfl w.heap.size (edRow p1.1 p2.1 p3.1 false p5.1 p6.1) rfl rfl 31 _ hS.out.res (size31 _ _ _ _ _ _) rfl (edRow_all _ _ _ _ _ _) ?_)
   refine bodyPost_ret (results_cell_row (fn := Tryz.f72) rfl _ _ w.heap.size 31 (edRow p1.1 p2.1 p3.1 false p5.1 p6.1) (0, 0) _ rfl (setRow_heap _ _ _ _ _ _ hS.out.res) Tryz.underlying31 rfl (size31 _ _ _ _ _ _)) rfl ?_
   exact hF.out
 · have e0 : Hid (stE4 p4 = p4.2) := by show _ = _; unfold stE4; rw [if_pos (.inr h0)]
   have e1 : Hid ((p4.1 == 1) = true) := by show _ = _; rw [h0]; rfl
   rw [e0.out] at c5
   rw [e1.out] at hend
   have n0 : (p4.1 != 0) = true := by rw [h0]; rfl
   have n1 := e1.out
   have n2 : (p4.1 != 1) = false := by rw [h0]; rfl
   obtain ⟨f3, f4, f5, z3, z4, z5⟩ := box6 hS.out.box
   clear h0
   go_wp2_with fail
   have hS := Hd (hS.out.setE 3 (.bool true) hbg.out hz3.out hb.out)
   clear f3 f4 f5 z3 z4 z5
   refine (c5.out _ hS.out.rd).mono ?_
   rintro e w6 ⟨rfl, r6, k6⟩
   have hS := Hd (hS.out.call r6 k6 hbg.out hb.out)
   clear r6 k6
   obtain ⟨f3, f4, f5, z3, z4, z5⟩ := box6 hS.out.box
   go_wp2_with fail
   have hS := Hd (hS.out.setE 4 (.int .i64 p5.1) hbg.out hz3.out hb.out)
   refine (c6.out _ hS.out.rd).mono ?_
   rintro e w7 ⟨rfl, r7, k7⟩
   have hS := Hd (hS.out.call r7 k7 hbg.out hb.out)
   clear r7 k7 f3 f4 f5 z3 z4 z5
   obtain ⟨f3, f4, f5, z3, z4, z5⟩ := box6 hS.out.box
   have hS := Hd (hS.out.setE 5 (.int .i64 p6.1) hbg.out hz3.out hb.out)
   have hF := Hd (hend.out _ _ hS.out)
   go_wp2_with first
     | (refine wpList_load_row rfl 31 (.tmp 3) rfl g rfl 31 (edRow p1.1 p2.1 p3.1 true p5.1 p6.1) (0, 0) _ hS.out.box Tryz.underlying31 rfl (size31 _ _ _ _ _ _) ?_)
     | (refine wpList_store_row rfl 31 (.tmp 2) (.tmp 32) rfl w.heap.size (edRow p1.1 p2.1 p3.1 true p5.1 p6.1) rfl rfl 31 _ hS.out.res (size31 _ _ _ _ _ _) rfl (edRow_all _ _ _ _ _ _) ?_)
   refine bodyPost_ret (results_cell_row (fn := Tryz.f72) rfl _ _ w.heap.size 31 (edRow p1.1 p2.1 p3.1 true p5.1 p6.1) (0, 0) _ rfl (setRow_heap _ _ _ _ _ _ hS.out.res) Tryz.underlying31 rfl (size31 _ _ _ _ _ _)) rfl ?_
   exact hF.out
 · have e0 : Hid (stE4 p4 = (p4.2.1, false)) := by show _ = _; unfold stE4; rw [if_neg (by omega)]
   have e1 : Hid ((p4.1 == 1) = false) := by show _ = _; simpa using h1
   rw [e0.out] at c5
   rw [e1.out] at hend
   have n0 : (p4.1 != 0) = true := by simpa using h0
   have n1 := e1.out
   have n2 : (p4.1 != 1) = true := by simpa using h1
   have hS1 := Hd (hS.out.setF false hbg.out hb.out)
   obtain ⟨f3, f4, f5, z3, z4, z5⟩ := box6 hS1.out.box
   have fr := frozen_of_row _ b 2 _ _ hS.out.rd
   have c2 := hS.out.rd.cells.2.2
   clear h0 h1 hS
   go_wp2_with fail
   have hS := Hd (hS1.out.setE 3 (.bool false) hbg.out hz3.out hb.out)
   clear f3 f4 f5 z3 z4 z5 c2 fr
   refine (c5.out _ hS.out.rd).mono ?_
   rintro e w6 ⟨rfl, r6, k6⟩
   have hS := Hd (hS.out.call r6 k6 hbg.out hb.out)
   clear r6 k6
   obtain ⟨f3, f4, f5, z3, z4, z5⟩ := box6 hS.out.box
   go_wp2_with fail
   have hS := Hd (hS.out.setE 4 (.int .i64 p5.1) hbg.out hz3.out hb.out)
   refine (c6.out _ hS.out.rd).mono ?_
   rintro e w7 ⟨rfl, r7, k7⟩
   have hS := Hd (hS.out.call r7 k7 hbg.out hb.out)
   clear r7 k7 f3 f4 f5 z3 z4 z5
   obtain ⟨f3, f4, f5, z3, z4, z5⟩ := box6 hS.out.box
   have hS := Hd (hS.out.setE 5 (.int .i64 p6.1) hbg.out hz3.out hb.out)
   have hF := Hd (hend.out _ _ hS.out)
   go_wp2_with first
     | (refine wpList_load_row rfl 31 (.tmp 3) rfl g rfl 31 (edRow p1.1 p2.1 p3.1 false p5.1 p6.1) (0, 0) _ hS.out.box Tryz.underlying31 rfl (size31 _ _ _ _ _ _) ?_)
     | (refine wpList_store_row rfl 31 (.tmp 2) (.tmp 32) rfl w.heap.size (edRow p1.1 p2.1 p3.1 false p5.1 p6.1) rfl rfl 31 _ hS.out.res (size31 _ _ _ _ _ _) rfl (edRow_all _ _ _ _ _ _) ?_)
   refine bodyPost_ret (results_cell_row (fn := Tryz.f72) rfl _ _ w.heap.size 31 (edRow p1.1 p2.1 p3.1 false p5.1 p6.1) (0, 0) _ rfl (setRow_heap _ _ _ _ _ _ hS.out.res) Tryz.underlying31 rfl (size31 _ _ _ _ _ _)) rfl ?_
   exact hF.out
end Go.Proofs.YtlaldnlgapeckaaGreat
