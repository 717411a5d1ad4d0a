/- The law's few and cut. -/
import Derived.Test.YtlaldnlgapeckaaGreatZG
set_option linter.unusedSimpArgs false
set_option maxRecDepth 100000
set_option maxHeartbeats 4000000
namespace Go.Proofs.YtlaldnlgapeckaaGreat
open Go.RowKit
theorem mmin_run (x m : Nat) (ts : Array TypeId) (t : TypeId) (w : World) (c : Int) (hc : c = m) : (Builtin.min_ ts t #[.int .i64 (x : Int), .int .i64 c]).run Tryz.prog w = .ok (.int .i64 ((min x m : Nat) : Int)) w := by
 rw [run_min_int2]
 subst hc
 congr 2
 split <;> omega
theorem VL.upto {W : World} {a : Option Addr} {c : Nat} {l : List Vx} (h : VL W (.slice a l.length c) l) (m : Nat) : VL W (.slice a (min l.length m) c) (l.take m) ∧ l.length ≤ c := by
 rcases h with ⟨rfl, _⟩ | ⟨h0, b, o, c', e, h2, h3, h4⟩
 · exact ⟨.inl ⟨by simp, a, c, by simp⟩, Nat.zero_le _⟩
 · injection e with e1 _ e3
   subst e1 e3
   refine ⟨?_, h2⟩
   by_cases hm : m = 0
   · subst hm; exact .inl ⟨by simp, some ⟨b, o, none⟩, c, by simp⟩
   · refine .inr ⟨?_, b, o, c, by rw [List.length_take, Nat.min_comm], by rw [List.length_take]; omega, h3, fun j x hx => ?_⟩
     · intro e; have h5 := congrArg List.length e; rw [List.length_take, List.length_nil] at h5; have h6 : l.length ≠ 0 := fun q => h0 (List.length_eq_zero_iff.1 q); omega
     · have hj : j < m := by have := (List.getElem?_eq_some_iff.1 hx).1; rw [List.length_take] at this; omega
       rw [List.getElem?_take_of_lt hj] at hx
       exact h4 j x hx
theorem EL.upto {W : World} {a : Option Addr} {c : Nat} {l : List Ed} (h : EL W (.slice a l.length c) l) (m : Nat) : EL W (.slice a (min l.length m) c) (l.take m) ∧ l.length ≤ c := by
 rcases h with ⟨rfl, _⟩ | ⟨h0, b, o, c', e, h2, h3, h4⟩
 · exact ⟨.inl ⟨by simp, a, c, by simp⟩, Nat.zero_le _⟩
 · injection e with e1 _ e3
   subst e1 e3
   refine ⟨?_, h2⟩
   by_cases hm : m = 0
   · subst hm; exact .inl ⟨by simp, some ⟨b, o, none⟩, c, by simp⟩
   · refine .inr ⟨?_, b, o, c, by rw [List.length_take, Nat.min_comm], by rw [List.length_take]; omega, h3, fun j x hx => ?_⟩
     · intro e; have h5 := congrArg List.length e; rw [List.length_take, List.length_nil] at h5; have h6 : l.length ≠ 0 := fun q => h0 (List.length_eq_zero_iff.1 q); omega
     · have hj : j < m := by have := (List.getElem?_eq_some_iff.1 hx).1; rw [List.length_take] at this; omega
       rw [List.getElem?_take_of_lt hj] at hx
       exact h4 j x hx
theorem DL.upto {W : World} {a : Option Addr} {c : Nat} {l : List Int} (h : DL W (.slice a l.length c) l) (m : Nat) : DL W (.slice a (min l.length m) c) (l.take m) ∧ l.length ≤ c := by
 rcases h with ⟨rfl, _⟩ | ⟨h0, b, o, c', e, h2, h3, h4⟩
 · exact ⟨.inl ⟨by simp, a, c, by simp⟩, Nat.zero_le _⟩
 · injection e with e1 _ e3
   subst e1 e3
   refine ⟨?_, h2⟩
   by_cases hm : m = 0
   · subst hm; exact .inl ⟨by simp, some ⟨b, o, none⟩, c, by simp⟩
   · refine .inr ⟨?_, b, o, c, by rw [List.length_take, Nat.min_comm], by rw [List.length_take]; omega, h3, fun j x hx => ?_⟩
     · intro e; have h5 := congrArg List.length e; rw [List.length_take, List.length_nil] at h5; have h6 : l.length ≠ 0 := fun q => h0 (List.length_eq_zero_iff.1 q); omega
     · have hj : j < m := by have := (List.getElem?_eq_some_iff.1 hx).1; rw [List.length_take] at this; omega
       rw [List.getElem?_take_of_lt hj] at hx
       exact h4 j x hx
def fewG (g : Gr) : Gr := ⟨g.vs.take 8, g.es.take 10, g.ds.take 4⟩
def cutC (c : Ch) : Ch := { c with ends := c.ends.take 82, deps := c.deps.take 5 }
theorem few_x (a1 b1 c1 : Option Addr) (n1 a2 n2 b2 n3 c2 : Nat) (w : World) (e1 : n1 ≤ a2) (e2 : n2 ≤ b2) (e3 : n3 ≤ c2) (hs : n1 ≤ 9223372036854775807 ∧ n2 ≤ 9223372036854775807 ∧ n3 ≤ 9223372036854775807) :
  Calls Tryz.prog 12 #[.agg #[.slice a1 n1 a2, .slice b1 n2 b2, .slice c1 n3 c2]] w fun e w' => e = .returned (.agg #[.slice a1 (min n1 8) a2, .slice b1 (min n2 10) b2, .slice c1 (min n3 4) c2]) ∧ Below w.heap.size w w' := by
 obtain ⟨w1, hw1⟩ : ∃ w1, w1 = (w.alloc (.cells #[.slice a1 n1 a2, .slice b1 n2 b2, .slice c1 n3 c2] 26)).alloc (.cells #[.slice none 0 0, .slice none 0 0, .slice none 0 0] 26) := ⟨_, rfl⟩
 have hB := Hd (show Below w.heap.size w w1 by rw [hw1]; exact ((Below.refl _ w).alloc (Nat.le_refl _) _).alloc (by simp) _)
 have hbx := Hd (show w1.heap[w.heap.size]? = some (.cells #[.slice a1 n1 a2, .slice b1 n2 b2, .slice c1 n3 c2] 26 (0, 0)) by rw [hw1]; exact al_keep (heap_alloc_new w _))
 have hrs := Hd (show w1.heap[w.heap.size + 1]? = some (.cells #[.slice none 0 0, .slice none 0 0, .slice none 0 0] 26 (0, 0)) by
  rw [hw1]
  have := heap_alloc_new (w.alloc (.cells #[.slice a1 n1 a2, .slice b1 n2 b2, .slice c1 n3 c2] 26)) (.cells #[.slice none 0 0, .slice none 0 0, .slice none 0 0] 26)
  simpa using this)
 have hBf := Hd (show Below w.heap.size w (w1.drew.setRow (w.heap.size + 1) #[.slice a1 (min n1 8) a2, .slice b1 (min n2 10) b2, .slice c1 (min n3 4) c2]) from below_setRow' hB.out.drew (by omega) _)
 replace hw1 := Hd hw1
 obtain ⟨s1, s2, s3⟩ := hs
 have m1 : ∀ ts t w, (Builtin.min_ ts t #[.int .i64 (n1 : Int), .int .i64 8]).run Tryz.prog w = .ok (.int .i64 ((min n1 8 : Nat) : Int)) w := fun ts t w => mmin_run n1 8 ts t w 8 rfl
 have m2 : ∀ ts t w, (Builtin.min_ ts t #[.int .i64 (n2 : Int), .int .i64 10]).run Tryz.prog w = .ok (.int .i64 ((min n2 10 : Nat) : Int)) w := fun ts t w => mmin_run n2 10 ts t w 10 rfl
 have m3 : ∀ ts t w, (Builtin.min_ ts t #[.int .i64 (n3 : Int), .int .i64 4]).run Tryz.prog w = .ok (.int .i64 ((min n3 4 : Nat) : Int)) w := fun ts t w => mmin_run n3 4 ts t w 4 rfl
 have p1 : min n1 8 ≤ a2 := by omega
 have p2 : min n2 10 ≤ b2 := by omega
 have p3 : min n3 4 ≤ c2 := by omega
 generalize min n1 8 = k1 at *
 generalize min n2 10 = k2 at *
 generalize min n3 4 = k3 at *
 go_enter Tryz.func12, Tryz.ntmps12
 go_upto_region 1 with (fail)
 rw [← hw1.out]
 refine wp_region_F (fun W => Below w1.heap.size w1 W) 22 (by kernel_rfl) (Below.refl _ w1).drew (fun hHeld => ?_)
 have hcell := Hd (fun W (BB : Below w1.heap.size w1 W) => (box3c ((BB.block _ (by have := hB.out.size; have := (Array.getElem?_eq_some_iff.1 hbx.out).1; omega)).trans hbx.out)).1)
 refine tkP 0 rfl ?_
 refine tkP 1 rfl ?_ (by (intro w h; obtain ⟨u0, u1, u2⟩ := hcell.out w h; clear h; go_simp) <;> with_reducible rfl)
 refine tkP 2 rfl ?_
 refine tkP 3 rfl ?_ (by (intro w h; obtain ⟨u0, u1, u2⟩ := hcell.out w h; clear h; go_simp) <;> with_reducible rfl)
 refine tkP 4 rfl ?_
 refine tkP 5 rfl ?_
 refine tkP 6 rfl ?_
 refine tkP 7 rfl ?_
 refine tkP 8 rfl ?_ (by (intro w h; obtain ⟨u0, u1, u2⟩ := hcell.out w h; clear h; go_simp) <;> with_reducible rfl)
 refine tkP 9 rfl ?_
 refine tkP 10 rfl ?_ (by (intro w h; obtain ⟨u0, u1, u2⟩ := hcell.out w h; clear h; go_simp) <;> with_reducible rfl)
 refine tkP 11 rfl ?_
 refine tkP 12 rfl ?_
 refine tkP 13 rfl ?_
 refine tkP 14 rfl ?_
 refine tkP 15 rfl ?_ (by (intro w h; obtain ⟨u0, u1, u2⟩ := hcell.out w h; clear h; go_simp) <;> with_reducible rfl)
 refine tkP 16 rfl ?_
 refine tkP 17 rfl ?_ (by (intro w h; obtain ⟨u0, u1, u2⟩ := hcell.out w h; clear h; go_simp) <;> with_reducible rfl)
 refine tkP 18 rfl ?_
 refine tkP 19 rfl ?_
 refine tkP 20 rfl ?_
 refine tkP 21 rfl ?_
 refine rdy [22] ?_
 refine AllReadyF.last (o := ⟨none, .store 26 (.tmp 2) (.tmp 24), _, _, _, none⟩) rfl (fun K hK => ?_) AllReadyF.nil
 refine wp_store_row 26 (.tmp 2) (.tmp 24) rfl (w.heap.size + 1) #[.slice a1 k1 a2, .slice b1 k2 b2, .slice c1 k3 c2] rfl rfl 26 _ hrs.out (size26b _ _ _) rfl (by simp [Value.oneCell']) ?_
 refine hK.out _ _ ?_
 clear hK K
 try simp only [Act.put, zT, z0, zS]
 refine wpAnyF_done (by kernel_rfl) ?_ _
 go_wp2_with fail
 refine bodyPost_ret (results_cell_row (fn := Tryz.f12) rfl _ _ (w.heap.size + 1) 26 #[.slice a1 k1 a2, .slice b1 k2 b2, .slice c1 k3 c2] (0, 0) _ rfl (setRow_heap _ _ _ _ _ _ hrs.out) Tryz.underlying26 rfl (size26b _ _ _)) rfl ?_
 exact ⟨rfl, hBf.out⟩
theorem cut_x (c : Ch) (a1 b1 : Option Addr) (n1 a2 n2 b2 : Nat) (w : World) (e1 : n1 ≤ a2) (e2 : n2 ≤ b2) (hs : n1 ≤ 9223372036854775807 ∧ n2 ≤ 9223372036854775807) :
  Calls Tryz.prog 13 #[.agg (chCells c (.slice a1 n1 a2) (.slice b1 n2 b2))] w fun e w' => e = .returned (.agg (chCells c (.slice a1 (min n1 82) a2) (.slice b1 (min n2 5) b2))) ∧ Below w.heap.size w w' := by
 obtain ⟨w1, hw1⟩ : ∃ w1, w1 = (w.alloc (.cells (chCells c (.slice a1 n1 a2) (.slice b1 n2 b2)) 33)).alloc (.cells zCells 33) := ⟨_, rfl⟩
 have hB := Hd (show Below w.heap.size w w1 by rw [hw1]; exact ((Below.refl _ w).alloc (Nat.le_refl _) _).alloc (by simp) _)
 have hbx := Hd (show w1.heap[w.heap.size]? = some (.cells (chCells c (.slice a1 n1 a2) (.slice b1 n2 b2)) 33 (0, 0)) by rw [hw1]; exact al_keep (heap_alloc_new w _))
 have hrs := Hd (show w1.heap[w.heap.size + 1]? = some (.cells zCells 33 (0, 0)) by
  rw [hw1]
  have := heap_alloc_new (w.alloc (.cells (chCells c (.slice a1 n1 a2) (.slice b1 n2 b2)) 33)) (.cells zCells 33)
  simpa using this)
 obtain ⟨w2, hw2⟩ : ∃ W, W = w1.setCell ⟨w.heap.size, 11, none⟩ (.slice a1 (min n1 82) a2) := ⟨_, rfl⟩
 obtain ⟨w3, hw3⟩ : ∃ W, W = w2.setCell ⟨w.heap.size, 12, none⟩ (.slice b1 (min n2 5) b2) := ⟨_, rfl⟩
 have hb2 := Hd (show w2.heap[w.heap.size]? = some (.cells (chCells c (.slice a1 (min n1 82) a2) (.slice b1 n2 b2)) 33 (0, 0)) by rw [hw2]; exact heap_setCell_same w1 w.heap.size 11 _ 33 _ hbx.out)
 have hb3 := Hd (show w3.heap[w.heap.size]? = some (.cells (chCells c (.slice a1 (min n1 82) a2) (.slice b1 (min n2 5) b2)) 33 (0, 0)) by rw [hw3]; exact heap_setCell_same w2 w.heap.size 12 _ 33 _ hb2.out)
 have hr3 := Hd (show w3.heap[w.heap.size + 1]? = some (.cells zCells 33 (0, 0)) by rw [hw3, hw2]; exact (heap_setCell_other _ _ _ _ (by simp)).trans ((heap_setCell_other _ _ _ _ (by simp)).trans hrs.out))
 have hB3 := Hd (show Below w.heap.size w w3 by rw [hw3, hw2]; exact (hB.out.setCell (p := ⟨w.heap.size, 11, none⟩) (Nat.le_refl _) _).setCell (p := ⟨w.heap.size, 12, none⟩) (Nat.le_refl _) _)
 have hBf := Hd (show Below w.heap.size w (w3.setRow (w.heap.size + 1) (chCells c (.slice a1 (min n1 82) a2) (.slice b1 (min n2 5) b2))) from below_setRow' hB3.out (by omega) _)
 simp only [chCells, zCells, zC, zV, zE, nilS] at hw1
 replace hw1 := Hd hw1
 replace hw2 := Hd hw2
 replace hw3 := Hd hw3
 obtain ⟨s1, s2⟩ := hs
 have m1 : ∀ ts t w, (Builtin.min_ ts t #[.int .i64 (n1 : Int), .int .i64 82]).run Tryz.prog w = .ok (.int .i64 ((min n1 82 : Nat) : Int)) w := fun ts t w => mmin_run n1 82 ts t w 82 rfl
 have m2 : ∀ ts t w, (Builtin.min_ ts t #[.int .i64 (n2 : Int), .int .i64 5]).run Tryz.prog w = .ok (.int .i64 ((min n2 5 : Nat) : Int)) w := fun ts t w => mmin_run n2 5 ts t w 5 rfl
 have p1 : min n1 82 ≤ a2 := by omega
 have p2 : min n2 5 ≤ b2 := by omega
 generalize min n1 82 = k1 at *
 generalize min n2 5 = k2 at *
 unfold chCells
 go_enter Tryz.func13, Tryz.ntmps13
 go_upto_region 1 with (fail)
 rw [← hw1.out]
 obtain ⟨u0, u1, u2, u3, u4, u5, u6, u7, u8, u9, u10, u11, u12⟩ := ch_cells hbx.out
 have f11 := frozen_of_row _ w.heap.size 11 _ _ hbx.out
 go_upto_region 2 with (fail)
 rw [← hw2.out]
 clear u0 u1 u2 u3 u4 u5 u6 u7 u8 u9 u10 u11 u12 f11
 obtain ⟨u0, u1, u2, u3, u4, u5, u6, u7, u8, u9, u10, u11, u12⟩ := ch_cells hb2.out
 have f12 := frozen_of_row _ w.heap.size 12 _ _ hb2.out
 go_upto_region 3 with (fail)
 rw [← hw3.out]
 clear u0 u1 u2 u3 u4 u5 u6 u7 u8 u9 u10 u11 u12 f12
 go_wp2_with first
  | (refine wpList_load_row rfl 33 (.tmp 1) rfl w.heap.size rfl 33 (chCells c (.slice a1 k1 a2) (.slice b1 k2 b2)) (0, 0) _ hb3.out Tryz.underlying33 rfl (info33 _ _ _) ?_)
  | (refine wpList_store_row rfl 33 (.tmp 2) (.tmp 19) rfl (w.heap.size + 1) (chCells c (.slice a1 k1 a2) (.slice b1 k2 b2)) rfl rfl 33 _ hr3.out (info33 _ _ _) rfl (ch_all _ _ _ _ _ _ _) ?_)
 refine bodyPost_ret (results_cell_row (fn := Tryz.f13) rfl _ _ (w.heap.size + 1) 33 (chCells c (.slice a1 k1 a2) (.slice b1 k2 b2)) (0, 0) _ rfl (setRow_heap _ _ _ _ _ _ hr3.out) Tryz.underlying33 rfl (info33 _ _ _)) rfl ?_
 exact ⟨rfl, hBf.out⟩
end Go.Proofs.YtlaldnlgapeckaaGreat
