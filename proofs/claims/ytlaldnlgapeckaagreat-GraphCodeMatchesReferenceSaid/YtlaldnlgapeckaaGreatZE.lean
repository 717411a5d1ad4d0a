/- The reference's DecodeChange. -/
import Derived.Test.YtlaldnlgapeckaaGreatZD
import Derived.Test.YtlaldnlgapeckaaGreatYHi
set_option linter.unusedSimpArgs false
set_option maxRecDepth 100000
set_option maxHeartbeats 4000000
namespace Go.Proofs.YtlaldnlgapeckaaGreat
open Go.RowKit
/-- the reader, the change that is being read, and the result's block -/
structure CSR (w W : World) (b g : Nat) (s : ByteArray) (q : Int × Bool) (c : Ch) (x y : Value) : Prop where
 rd : RdC W b s q
 box : W.heap[g]? = some (.cells (chCells c x y) 33 (0, 0))
 res : W.heap[w.heap.size]? = some (.cells zCells 33 (0, 0))
 ox : OwnI W (g + 1) x c.ends
 oy : OwnI W (g + 1) y c.deps
 bel : Below w.heap.size w W
theorem CSR.call {w W W' : World} {b g : Nat} {s : ByteArray} {q q' : Int × Bool} {c : Ch} {x y : Value} (h : CSR w W b g s q c x y) (hr : RdC W' b s q') (k : KR b W W') (h1 : b = w.heap.size + 1) (h2 : b < g) : CSR w W' b g s q' c x y :=
 ⟨hr, (k.keep g (by omega) (Array.getElem?_eq_some_iff.1 h.box).1).trans h.box, (k.keep _ (by omega) (Array.getElem?_eq_some_iff.1 h.res).1).trans h.res, own_keepR h.ox k (by omega), own_keepR h.oy k (by omega), h.bel.trans (k.below.mono (by omega))⟩
theorem CSR.set {w W : World} {b g : Nat} {s : ByteArray} {q : Int × Bool} {c c' : Ch} {x y x' y' : Value} (h : CSR w W b g s q c x y) (j : Nat) (v : Value) (h1 : b = w.heap.size + 1) (h2 : b < g) (he : (chCells c x y).setIfInBounds j v = chCells c' x' y') (hx : OwnI W (g + 1) x' c'.ends) (hy : OwnI W (g + 1) y' c'.deps) : CSR w (W.setCell ⟨g, j, none⟩ v) b g s q c' x' y' := by
 have ho : ∀ k, k ≠ g → (W.setCell ⟨g, j, none⟩ v).heap[k]? = W.heap[k]? := fun k hk => heap_setCell_other W ⟨g, j, none⟩ k v hk
 exact ⟨(ho _ (by omega)).trans h.rd, by rw [← he]; exact heap_setCell_same W g j _ 33 v h.box, (ho _ (by omega)).trans h.res, own_other hx (by omega) ho, own_other hy (by omega) ho, h.bel.setCell (p := ⟨g, j, none⟩) (by show _ ≤ g; omega) _⟩
theorem CSR.drew {w W : World} {b g : Nat} {s : ByteArray} {q : Int × Bool} {c : Ch} {x y : Value} (h : CSR w W b g s q c x y) : CSR w W.drew b g s q c x y := ⟨h.rd, h.box, h.res, h.ox, h.oy, h.bel.drew⟩
theorem CSR.fr {w W : World} {b g : Nat} {s : ByteArray} {q : Int × Bool} {c : Ch} {x y : Value} (h : CSR w W b g s q c x y) (j : Nat) : W.frozen? ⟨g, j, none⟩ = false := frozen_of_row W g j _ _ h.box
theorem CSR.fin {w W : World} {b g : Nat} {s : ByteArray} {q : Int × Bool} {c : Ch} {x y : Value} (h : CSR w W b g s q c x y) (h1 : b = w.heap.size + 1) (h2 : b < g) (cs : Array Value) {B : Nat} (hB : B = w.heap.size) : OwnI (W.setRow B cs) w.heap.size x c.ends ∧ OwnI (W.setRow B cs) w.heap.size y c.deps ∧ Below w.heap.size w (W.setRow B cs) := by
 subst hB
 exact ⟨own_le (own_other h.ox (by omega) fun j hj => setRow_other _ _ _ _ hj) (by omega), own_le (own_other h.oy (by omega) fun j hj => setRow_other _ _ _ _ hj) (by omega), below_setRow' h.bel (Nat.le_refl _) _⟩
theorem stE_in {L : List UInt8} {q : Int × Bool} (hL : L.length ≤ 1000000) (h : inI q.1) : inI (stE L q).2.1 := by
 have h1 := (stI_in hL h).1
 have h2 := (stI_in hL h1).1
 have h3 := (stI_in hL h2).1
 have h4 := (stI_in hL h3).1
 have h4' : inI (stE4 (stI L (stI L (stI L (stI L q).2).2).2)).1 := by unfold stE4; split; exact h4; exact h4
 exact (stI_in hL (stI_in hL h4').1).1
theorem stM_in {L : List UInt8} {q : Int × Bool} (hL : L.length ≤ 1000000) (most : Int) (h : inI q.1) : inI (stM (stI L) L most q).2.1 := by
 have key : ∀ (N : Nat) (q : Int × Bool), inI q.1 → inI (stL (stI L) N q).2.1 := by
  intro N
  induction N with
  | zero => intro q h; exact h
  | succ k ih =>
    intro q h
    unfold stL
    split
    · exact ih _ (stI_in hL h).1
    · exact h
 refine key _ _ ?_
 have h1 := (stI_in hL h).1
 unfold stN
 split
 · exact h1
 · exact h1
theorem DecodeChangeR_any (s : ByteArray) (a : Int) (w : World) (hs : s.size ≤ 1000000) (h1 : inI a) :
   Calls Tryz.prog 37 #[.string s, .int .i64 a] w (DCPost s a w) := by
 have hl : s.data.toList.length ≤ 1000000 := by rw [Array.length_toList]; exact hs
 obtain ⟨B, hB⟩ : ∃ B, Hid (B = w.heap.size) := ⟨_, rfl⟩
 obtain ⟨w1, hw1⟩ : ∃ w1, w1 = (w.alloc (.cells zCells 33)).alloc (.cells #[.string s, .int .i64 a, .bool true] 113) := ⟨_, rfl⟩
 have z1 : Hid (w1.heap.size = B + 2) := by show _ = _; rw [hw1, hB.out]; simp
 have g33 := Hd (show w1.heap[B]? = some (.cells zCells 33 (0, 0)) by rw [hw1, hB.out]; exact al_keep (heap_alloc_new w _))
 have hrd := Hd (show RdC w1 (B + 1) s (a, true) by
  unfold RdC
  rw [hw1, hB.out]
  have := heap_alloc_new (w.alloc (.cells zCells 33)) (.cells #[.string s, .int .i64 a, .bool true] 113)
  simpa using this)
 have hB1 := Hd (show Below w.heap.size w w1 by rw [hw1]; exact ((Below.refl _ w).alloc (Nat.le_refl _) _).alloc (by simp) _)
 simp only [zCells, chCells, zC, zV, zE, nilS] at hw1
 have hw1 := Hd hw1
 have kI := Hd (fun W q (hr : RdC W (B + 1) s q) (hi : inI q.1) => rint_any (B + 1) s q W hr hs hi)
 have kE := Hd (fun W q (hr : RdC W (B + 1) s q) (hi : inI q.1) => redgeR_any (B + 1) s q W hr hs hi)
 have kM := Hd (fun W q m (hr : RdC W (B + 1) s q) (hi : inI q.1) (hm : m ≤ 1000) => rmanyR_any (B + 1) s q m W hr hs hi hm)
 have hi := Hd (fun q (h : inI q.1) => stI_in (q := q) hl h)
 have hiE := Hd (fun q (h : inI q.1) => stE_in (q := q) hl h)
 have hiM := Hd (fun q m (h : inI q.1) => stM_in (q := q) hl m h)
 obtain ⟨q0, hq0⟩ : ∃ q, Hid (q = (a, true)) := ⟨_, rfl⟩
 have i0 : Hid (inI q0.1) := by show inI _; rw [hq0.out]; exact h1
 rw [← hq0.out] at hrd
 obtain ⟨p1, hp1⟩ : ∃ p, Hid (p = stI s.data.toList q0) := ⟨_, rfl⟩
 have i1 := Hd (hp1.out ▸ (hi.out q0 i0.out).1)
 have c1 := Hd (fun W (hr : RdC W (B + 1) s q0) => hp1.out ▸ kI.out W q0 hr i0.out)
 obtain ⟨p2, hp2⟩ : ∃ p, Hid (p = stI s.data.toList p1.2) := ⟨_, rfl⟩
 have i2 := Hd (hp2.out ▸ (hi.out p1.2 i1.out).1)
 have c2 := Hd (fun W (hr : RdC W (B + 1) s p1.2) => hp2.out ▸ kI.out W p1.2 hr i1.out)
 obtain ⟨p3, hp3⟩ : ∃ p, Hid (p = stI s.data.toList p2.2) := ⟨_, rfl⟩
 have i3 := Hd (hp3.out ▸ (hi.out p2.2 i2.out).1)
 have c3 := Hd (fun W (hr : RdC W (B + 1) s p2.2) => hp3.out ▸ kI.out W p2.2 hr i2.out)
 obtain ⟨p4, hp4⟩ : ∃ p, Hid (p = stE s.data.toList p3.2) := ⟨_, rfl⟩
 have i4 := Hd (hp4.out ▸ hiE.out p3.2 i3.out)
 have c4 := Hd (fun W (hr : RdC W (B + 1) s p3.2) => hp4.out ▸ kE.out W p3.2 hr i3.out)
 obtain ⟨p5, hp5⟩ : ∃ p, Hid (p = stI s.data.toList p4.2) := ⟨_, rfl⟩
 have i5 := Hd (hp5.out ▸ (hi.out p4.2 i4.out).1)
 have c5 := Hd (fun W (hr : RdC W (B + 1) s p4.2) => hp5.out ▸ kI.out W p4.2 hr i4.out)
 obtain ⟨p6, hp6⟩ : ∃ p, Hid (p = stI s.data.toList p5.2) := ⟨_, rfl⟩
 have i6 := Hd (hp6.out ▸ (hi.out p5.2 i5.out).1)
 have c6 := Hd (fun W (hr : RdC W (B + 1) s p5.2) => hp6.out ▸ kI.out W p5.2 hr i5.out)
 obtain ⟨p7, hp7⟩ : ∃ p, Hid (p = stM (stI s.data.toList) s.data.toList 80 p6.2) := ⟨_, rfl⟩
 have i7 := Hd (hp7.out ▸ hiM.out p6.2 80 i6.out)
 have c7 := Hd (fun W (hr : RdC W (B + 1) s p6.2) => hp7.out ▸ kM.out W p6.2 80 hr i6.out (by omega))
 obtain ⟨p8, hp8⟩ : ∃ p, Hid (p = stM (stI s.data.toList) s.data.toList 3 p7.2) := ⟨_, rfl⟩
 have i8 := Hd (hp8.out ▸ hiM.out p7.2 3 i7.out)
 have c8 := Hd (fun W (hr : RdC W (B + 1) s p7.2) => hp8.out ▸ kM.out W p7.2 3 hr i7.out (by omega))
 obtain ⟨C, hC⟩ : ∃ C : Ch, Hid (C = ⟨p1.1, ⟨p2.1, p3.1⟩, p4.1, p5.1, p6.1, p7.1, p8.1⟩) := ⟨_, rfl⟩
 have hst : stC s.data.toList (a, true) = (C, p8.2) := by rw [← hq0.out, hC.out, hp8.out, hp7.out, hp6.out, hp5.out, hp4.out, hp3.out, hp2.out, hp1.out]; rfl
 have hag := agr_c s.data.toList
 have hbad : Hid (∀ W, p8.2.2 = false → Below w.heap.size w W → DCPost s a w (.returned (.tuple #[.agg zCells, .int .i64 0, .int .i64 30])) W) := fun W hf Bl => by
  unfold DCPost
  cases hr : rCh s.data.toList a with
  | none => exact ⟨rfl, Bl⟩
  | some p =>
    have := hag.some_ a p.1 p.2 hr
    rw [hst] at this
    injection this with _ this
    rw [this] at hf; cases hf
 have hgood : Hid (∀ W x y, p8.2.2 = true → OwnI W w.heap.size x C.ends → OwnI W w.heap.size y C.deps → Below w.heap.size w W → DCPost s a w (.returned (.tuple #[.agg (chCells C x y), .int .i64 p8.2.1, .int .i64 0])) W) := fun W x y hf ox oy Bl => by
  unfold DCPost
  cases hr : rCh s.data.toList a with
  | none =>
    have := hag.none_ a hr
    rw [hst] at this
    simp only at this
    rw [this] at hf; cases hf
  | some p =>
    have := hag.some_ a p.1 p.2 hr
    rw [hst] at this
    injection this with e1 e2
    obtain ⟨c', m⟩ := p
    simp only at e1 e2 ⊢
    subst e1
    rw [e2]
    exact ⟨x, y, rfl, ox, oy, Bl⟩
 clear kI kE kM hi hiE hiM hp1 hp2 hp3 hp4 hp5 hp6 hp7 hp8 i0 i1 i2 i3 i4 i5 i6 i7 i8 hst hag hs hl h1 hq0
 go_enter Tryz.func37, Tryz.ntmps37
 go_wp2_with fail
 rw [← hw1.out, ← hB.out]
 refine (c1.out _ hrd.out).mono ?_
 rintro e w2 ⟨rfl, r2, k2⟩
 obtain ⟨w3, hw3⟩ : ∃ W, W = w2.alloc (.cells (chCells ⟨p1.1, ⟨0, 0⟩, ⟨0, 0, 0, false, 0, 0⟩, 0, 0, [], []⟩ (.slice none 0 0) (.slice none 0 0)) 33) := ⟨_, rfl⟩
 have hbg : Hid (B + 1 < w2.heap.size) := by show _ < _; have := k2.below.size; have := z1.out; omega
 have hb1 : Hid (B + 1 = w.heap.size + 1) := by show _ = _; rw [hB.out]
 have hS : Hid (CSR w w3 (B + 1) w2.heap.size s p1.2 ⟨p1.1, ⟨0, 0⟩, ⟨0, 0, 0, false, 0, 0⟩, 0, 0, [], []⟩ (.slice none 0 0) (.slice none 0 0)) := by
  show CSR _ _ _ _ _ _ _ _ _
  have ha : Below w2.heap.size w2 w3 := by rw [hw3]; exact (Below.refl _ _).alloc (Nat.le_refl _) _
  have := z1.out
  have := hbg.out
  refine ⟨r2.below ha, by rw [hw3]; exact heap_alloc_new w2 _, ?_, World.ownsRow_nil _ _ _ _, World.ownsRow_nil _ _ _ _, (hB1.out.trans (k2.below.mono (by rw [← hB.out]; omega))).trans (ha.mono (by rw [← hB.out]; omega))⟩
  rw [← hB.out]
  exact (ha.block _ (by omega)).trans ((k2.keep _ (by omega) (by omega)).trans g33.out)
 simp only [chCells] at hw3
 have hw3 := Hd hw3
 clear r2 k2 g33 hrd
 go_wp2_with fail
 rw [← hw3.out]
 generalize w2.heap.size = g at *
 refine (c2.out _ hS.out.rd).mono ?_
 rintro e w4 ⟨rfl, r2, kk2⟩
 have hS := Hd (hS.out.call r2 kk2 hb1.out hbg.out)
 clear r2 kk2
 have f1 := hS.out.fr 1
 obtain ⟨u0, u1, u2, u3, u4, u5, u6, u7, u8, u9, u10, u11, u12⟩ := ch_cells hS.out.box
 clear u0 u2 u3 u4 u5 u6 u7 u8 u9 u10 u11 u12
 have hS := Hd (hS.out.set 1 (.int .i64 p2.1) (c' := ⟨p1.1, ⟨p2.1, 0⟩, ⟨0, 0, 0, false, 0, 0⟩, 0, 0, [], []⟩) hb1.out hbg.out rfl hS.out.ox hS.out.oy)
 go_wp2_with fail
 clear f1 u1
 refine (c3.out _ hS.out.rd).mono ?_
 rintro e w5 ⟨rfl, r3, kk3⟩
 have hS := Hd (hS.out.call r3 kk3 hb1.out hbg.out)
 clear r3 kk3
 have f2 := hS.out.fr 2
 obtain ⟨u0, u1, u2, u3, u4, u5, u6, u7, u8, u9, u10, u11, u12⟩ := ch_cells hS.out.box
 clear u0 u1 u3 u4 u5 u6 u7 u8 u9 u10 u11 u12
 have hS := Hd (hS.out.set 2 (.int .i64 p3.1) (c' := ⟨p1.1, ⟨p2.1, p3.1⟩, ⟨0, 0, 0, false, 0, 0⟩, 0, 0, [], []⟩) hb1.out hbg.out rfl hS.out.ox hS.out.oy)
 go_wp2_with fail
 clear f2 u2
 refine (c4.out _ hS.out.rd).mono ?_
 rintro e w6 ⟨rfl, r4, kk4⟩
 have hS := Hd (hS.out.call r4 kk4 hb1.out hbg.out)
 clear r4 kk4
 have f3 := hS.out.fr 3
 have f4 := hS.out.fr 4
 have f5 := hS.out.fr 5
 have f6 := hS.out.fr 6
 have f7 := hS.out.fr 7
 have f8 := hS.out.fr 8
 obtain ⟨u0, u1, u2, u3, u4, u5, u6, u7, u8, u9, u10, u11, u12⟩ := ch_cells hS.out.box
 clear u0 u1 u2 u9 u10 u11 u12
 unfold edCells
 have hS := Hd (hS.out.set 3 (.int .i64 p4.1.id) (c' := ⟨p1.1, ⟨p2.1, p3.1⟩, ⟨p4.1.id, 0, 0, false, 0, 0⟩, 0, 0, [], []⟩) hb1.out hbg.out rfl hS.out.ox hS.out.oy)
 have hS := Hd (hS.out.set 4 (.int .i64 p4.1.src) (c' := ⟨p1.1, ⟨p2.1, p3.1⟩, ⟨p4.1.id, p4.1.src, 0, false, 0, 0⟩, 0, 0, [], []⟩) hb1.out hbg.out rfl hS.out.ox hS.out.oy)
 have hS := Hd (hS.out.set 5 (.int .i64 p4.1.dst) (c' := ⟨p1.1, ⟨p2.1, p3.1⟩, ⟨p4.1.id, p4.1.src, p4.1.dst, false, 0, 0⟩, 0, 0, [], []⟩) hb1.out hbg.out rfl hS.out.ox hS.out.oy)
 have hS := Hd (hS.out.set 6 (.bool p4.1.dir) (c' := ⟨p1.1, ⟨p2.1, p3.1⟩, ⟨p4.1.id, p4.1.src, p4.1.dst, p4.1.dir, 0, 0⟩, 0, 0, [], []⟩) hb1.out hbg.out rfl hS.out.ox hS.out.oy)
 have hS := Hd (hS.out.set 7 (.int .i64 p4.1.wt) (c' := ⟨p1.1, ⟨p2.1, p3.1⟩, ⟨p4.1.id, p4.1.src, p4.1.dst, p4.1.dir, p4.1.wt, 0⟩, 0, 0, [], []⟩) hb1.out hbg.out rfl hS.out.ox hS.out.oy)
 have hS := Hd (hS.out.set 8 (.int .i64 p4.1.cap) (c' := ⟨p1.1, ⟨p2.1, p3.1⟩, ⟨p4.1.id, p4.1.src, p4.1.dst, p4.1.dir, p4.1.wt, p4.1.cap⟩, 0, 0, [], []⟩) hb1.out hbg.out rfl hS.out.ox hS.out.oy)
 go_wp2_with fail
 clear f3 u3 f4 u4 f5 u5 f6 u6 f7 u7 f8 u8
 refine (c5.out _ hS.out.rd).mono ?_
 rintro e w7 ⟨rfl, r5, kk5⟩
 have hS := Hd (hS.out.call r5 kk5 hb1.out hbg.out)
 clear r5 kk5
 have f9 := hS.out.fr 9
 obtain ⟨u0, u1, u2, u3, u4, u5, u6, u7, u8, u9, u10, u11, u12⟩ := ch_cells hS.out.box
 clear u0 u1 u2 u3 u4 u5 u6 u7 u8 u10 u11 u12
 have hS := Hd (hS.out.set 9 (.int .i64 p5.1) (c' := ⟨p1.1, ⟨p2.1, p3.1⟩, p4.1, p5.1, 0, [], []⟩) hb1.out hbg.out rfl hS.out.ox hS.out.oy)
 go_wp2_with fail
 clear f9 u9
 refine (c6.out _ hS.out.rd).mono ?_
 rintro e w8 ⟨rfl, r6, kk6⟩
 have hS := Hd (hS.out.call r6 kk6 hb1.out hbg.out)
 clear r6 kk6
 have f10 := hS.out.fr 10
 obtain ⟨u0, u1, u2, u3, u4, u5, u6, u7, u8, u9, u10, u11, u12⟩ := ch_cells hS.out.box
 clear u0 u1 u2 u3 u4 u5 u6 u7 u8 u9 u11 u12
 have hS := Hd (hS.out.set 10 (.int .i64 p6.1) (c' := ⟨p1.1, ⟨p2.1, p3.1⟩, p4.1, p5.1, p6.1, [], []⟩) hb1.out hbg.out rfl hS.out.ox hS.out.oy)
 go_wp2_with fail
 clear f10 u10
 refine (c7.out _ hS.out.rd).mono ?_
 rintro e w9 ⟨v7, rfl, o7, r7, kk7⟩
 obtain ⟨xa7, xc7, rfl⟩ := o7.DL.shape
 have hgw : g < w9.heap.size := Nat.lt_of_lt_of_le (Array.getElem?_eq_some_iff.1 hS.out.box).1 kk7.below.size
 have o7 := Hd (own_low o7 (Nat.succ_le_of_lt (Array.getElem?_eq_some_iff.1 hS.out.box).1))
 have hS := Hd (hS.out.call r7 kk7 hb1.out hbg.out)
 clear r7 kk7
 have f11 := hS.out.fr 11
 obtain ⟨u0, u1, u2, u3, u4, u5, u6, u7, u8, u9, u10, u11, u12⟩ := ch_cells hS.out.box
 clear u0 u1 u2 u3 u4 u5 u6 u7 u8 u9 u10 u12
 have hS := Hd (hS.out.set 11 (.slice xa7 p7.1.length xc7) (c' := ⟨p1.1, ⟨p2.1, p3.1⟩, p4.1, p5.1, p6.1, p7.1, []⟩) hb1.out hbg.out rfl o7.out hS.out.oy)
 go_wp2_with fail
 clear f11 u11 hgw
 refine (c8.out _ hS.out.rd).mono ?_
 rintro e w10 ⟨v8, rfl, o8, r8, kk8⟩
 obtain ⟨xa8, xc8, rfl⟩ := o8.DL.shape
 have hgw : g < w10.heap.size := Nat.lt_of_lt_of_le (Array.getElem?_eq_some_iff.1 hS.out.box).1 kk8.below.size
 have o8 := Hd (own_low o8 (Nat.succ_le_of_lt (Array.getElem?_eq_some_iff.1 hS.out.box).1))
 have hS := Hd (hS.out.call r8 kk8 hb1.out hbg.out)
 clear r8 kk8
 have f12 := hS.out.fr 12
 obtain ⟨u0, u1, u2, u3, u4, u5, u6, u7, u8, u9, u10, u11, u12⟩ := ch_cells hS.out.box
 clear u0 u1 u2 u3 u4 u5 u6 u7 u8 u9 u10 u11
 have hS := Hd (hS.out.set 12 (.slice xa8 p8.1.length xc8) (c' := ⟨p1.1, ⟨p2.1, p3.1⟩, p4.1, p5.1, p6.1, p7.1, p8.1⟩) hb1.out hbg.out rfl hS.out.ox o8.out)
 rw [← hC.out] at hS
 have hE7 : Hid (C.ends.length = p7.1.length) := by show _ = _; rw [hC.out]
 have hE8 : Hid (C.deps.length = p8.1.length) := by show _ = _; rw [hC.out]
 rw [← hE7.out, ← hE8.out] at hS ⊢
 have hres := hS.out.res
 rw [← hB.out] at hres
 have hres := Hd hres
 have rc := hS.out.rd.cells.2.2
 have hle : Hid (w.heap.size ≤ B) := by show _ ≤ _; rw [hB.out]; exact Nat.le_refl _
 cases hf : p8.2.2 with
 | false =>
  rw [hf] at rc
  have hF := Hd (hbad.out _ hf (below_setRow' hS.out.bel hle.out zCells))
  clear hf hS hgood hbad
  go_wp2_with (refine wpList_store_row rfl 33 (.tmp 4) (.tmp 44) rfl B zCells rfl rfl 33 _ hres.out (info33 _ _ _) rfl z_all ?_)
  refine bodyPost_ret (results_cell_tmp2_row (fn := Tryz.f37) rfl _ _ B 33 zCells (0, 0) _ _ _ rfl rfl rfl (setRow_heap _ _ _ _ _ _ hres.out) Tryz.underlying33 rfl (info33 _ _ _)) rfl ?_
  exact hF.out
 | true =>
  rw [hf] at rc
  have hSd := Hd hS.out.drew
  have hq3 := hSd.out.fin hb1.out hbg.out (chCells C (.slice xa7 C.ends.length xc7) (.slice xa8 C.deps.length xc8)) hB.out
  have hF := Hd (hgood.out _ _ _ hf hq3.1 hq3.2.1 hq3.2.2)
  have hresd : Hid (_ = some (Obj.cells zCells 33 (0, 0))) := Hd (show _ from hres.out)
  have hne : Hid (g ≠ B ∧ B + 1 ≠ B) := by show _ ∧ _; have := hbg.out; omega
  have hS0 : Hid (_ ∧ _) := Hd (And.intro hSd.out.rd hSd.out.box)
  clear hf hgood hbad hq3 hres
  go_upto_region 12 with (fail)
  refine wp_region_F (fun W => RdC W (B + 1) s p8.2 ∧ W.heap[g]? = some (.cells (chCells C (.slice xa7 C.ends.length xc7) (.slice xa8 C.deps.length xc8)) 33 (0, 0))) 999 (by kernel_rfl) hS0.out (fun hHeld => ?_)
  clear hS hSd
  refine tkP 0 rfl ?_ (by (intro w h; obtain ⟨u0, u1, u2, u3, u4, u5, u6, u7, u8, u9, u10, u11, u12⟩ := ch_cells h.2; clear h; go_simp) <;> with_reducible rfl)
  refine tkP 1 rfl ?_
  refine tkP 2 rfl ?_
  refine tkP 3 rfl ?_
  refine tkP 4 rfl ?_ (by (intro w h; have u := h.1.cells.2.1; clear h; go_simp) <;> with_reducible rfl)
  refine rdy [5] ?_
  refine arC rfl (fun K hK => ?_) AllReadyF.nil
  refine wp_store_row 33 (.tmp 4) (.tmp 45) rfl B (chCells C (.slice xa7 C.ends.length xc7) (.slice xa8 C.deps.length xc8)) rfl rfl 33 _ hresd.out (info33 _ _ _) rfl (ch_all _ _ _ _ _ _ _) ?_
  refine hK.out _ _ ⟨(setRow_other _ _ _ _ hne.out.2).trans hHeld.1, (setRow_other _ _ _ _ hne.out.1).trans hHeld.2⟩ (fun hHeld => ?_)
  clear hK K
  try simp only [Act.put, zT, z0, zS]
  refine tkP 6 rfl ?_
  refine tkP 7 rfl ?_
  refine wpAnyF_done (by kernel_rfl) ?_ _
  go_wp2_with fail
  refine bodyPost_ret (results_cell_tmp2_row (fn := Tryz.f37) rfl _ _ B 33 (chCells C (.slice xa7 C.ends.length xc7) (.slice xa8 C.deps.length xc8)) (0, 0) _ _ _ rfl rfl rfl (setRow_heap _ _ _ _ _ _ hresd.out) Tryz.underlying33 rfl (info33 _ _ _)) rfl ?_
  exact hF.out
end Go.Proofs.YtlaldnlgapeckaaGreat
