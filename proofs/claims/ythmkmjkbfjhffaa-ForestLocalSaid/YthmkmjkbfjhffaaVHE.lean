/- Contracts and facts. -/
import Derived.Deep.LoopGhost
import Derived.Handy
import Derived.WalkMore
import Derived.BigRegion
import Derived.Laws.EntriesVeiled
import Derived.Test.YthmkmjkbfjhffaaVHD
set_option linter.unusedSimpArgs false
set_option maxRecDepth 100000
set_option maxHeartbeats 4000000
namespace Go.Proofs.Ythmkmjkbfjhffaa
open Go.RowKit
theorem want_made (W : World) : NL ((((((W.alloc (.cells #[.int .i64 0, .int .i64 0, .int .i64 (-1)] 3)).alloc (.cells #[.int .i64 1, .int .i64 0, .int .i64 (-1)] 3)).alloc (.cells #[.int .i64 1, .int .i64 1, .int .i64 (0)] 3)).alloc (.cells #[.int .i64 1, .int .i64 1, .int .i64 (4)] 3)).alloc (.cells #[.int .i64 5, .int .i64 0, .int .i64 (-1)] 3)).alloc (.cells #[.int .i64 0, .slice (some ⟨W.heap.size, 0, none⟩) 3 3, .int .i64 1, .slice (some ⟨W.heap.size + 1, 0, none⟩) 3 3, .int .i64 2, .slice (some ⟨W.heap.size + 1 + 1, 0, none⟩) 3 3, .int .i64 3, .slice (some ⟨W.heap.size + 1 + 1 + 1, 0, none⟩) 3 3, .int .i64 5, .slice (some ⟨W.heap.size + 1 + 1 + 1 + 1, 0, none⟩) 3 3] 54)) (.slice (some ⟨W.heap.size + 1 + 1 + 1 + 1 + 1, 0, none⟩) 5 5) wantL ∧ Below W.heap.size W ((((((W.alloc (.cells #[.int .i64 0, .int .i64 0, .int .i64 (-1)] 3)).alloc (.cells #[.int .i64 1, .int .i64 0, .int .i64 (-1)] 3)).alloc (.cells #[.int .i64 1, .int .i64 1, .int .i64 (0)] 3)).alloc (.cells #[.int .i64 1, .int .i64 1, .int .i64 (4)] 3)).alloc (.cells #[.int .i64 5, .int .i64 0, .int .i64 (-1)] 3)).alloc (.cells #[.int .i64 0, .slice (some ⟨W.heap.size, 0, none⟩) 3 3, .int .i64 1, .slice (some ⟨W.heap.size + 1, 0, none⟩) 3 3, .int .i64 2, .slice (some ⟨W.heap.size + 1 + 1, 0, none⟩) 3 3, .int .i64 3, .slice (some ⟨W.heap.size + 1 + 1 + 1, 0, none⟩) 3 3, .int .i64 5, .slice (some ⟨W.heap.size + 1 + 1 + 1 + 1, 0, none⟩) 3 3] 54)) := by
  obtain ⟨W1, h1⟩ : ∃ x, x = W.alloc (.cells #[.int .i64 0, .int .i64 0, .int .i64 (-1)] 3) := ⟨_, rfl⟩
  rw [← h1]
  have n1 := heap_alloc_new W (.cells #[.int .i64 0, .int .i64 0, .int .i64 (-1)] 3)
  have z1 : W1.heap.size = W.heap.size + 1 := by rw [h1]; simp
  have B1 : Below W.heap.size W W1 := by rw [h1]; exact (Below.refl _ _).alloc (Nat.le_refl _) _
  rw [← h1] at n1
  obtain ⟨W2, h2⟩ : ∃ x, x = W1.alloc (.cells #[.int .i64 1, .int .i64 0, .int .i64 (-1)] 3) := ⟨_, rfl⟩
  rw [← h2]
  have n2 := heap_alloc_new W1 (.cells #[.int .i64 1, .int .i64 0, .int .i64 (-1)] 3)
  have z2 : W2.heap.size = W1.heap.size + 1 := by rw [h2]; simp
  have B2 : Below W1.heap.size W1 W2 := by rw [h2]; exact (Below.refl _ _).alloc (Nat.le_refl _) _
  rw [← h2] at n2
  obtain ⟨W3, h3⟩ : ∃ x, x = W2.alloc (.cells #[.int .i64 1, .int .i64 1, .int .i64 (0)] 3) := ⟨_, rfl⟩
  rw [← h3]
  have n3 := heap_alloc_new W2 (.cells #[.int .i64 1, .int .i64 1, .int .i64 (0)] 3)
  have z3 : W3.heap.size = W2.heap.size + 1 := by rw [h3]; simp
  have B3 : Below W2.heap.size W2 W3 := by rw [h3]; exact (Below.refl _ _).alloc (Nat.le_refl _) _
  rw [← h3] at n3
  obtain ⟨W4, h4⟩ : ∃ x, x = W3.alloc (.cells #[.int .i64 1, .int .i64 1, .int .i64 (4)] 3) := ⟨_, rfl⟩
  rw [← h4]
  have n4 := heap_alloc_new W3 (.cells #[.int .i64 1, .int .i64 1, .int .i64 (4)] 3)
  have z4 : W4.heap.size = W3.heap.size + 1 := by rw [h4]; simp
  have B4 : Below W3.heap.size W3 W4 := by rw [h4]; exact (Below.refl _ _).alloc (Nat.le_refl _) _
  rw [← h4] at n4
  obtain ⟨W5, h5⟩ : ∃ x, x = W4.alloc (.cells #[.int .i64 5, .int .i64 0, .int .i64 (-1)] 3) := ⟨_, rfl⟩
  rw [← h5]
  have n5 := heap_alloc_new W4 (.cells #[.int .i64 5, .int .i64 0, .int .i64 (-1)] 3)
  have z5 : W5.heap.size = W4.heap.size + 1 := by rw [h5]; simp
  have B5 : Below W4.heap.size W4 W5 := by rw [h5]; exact (Below.refl _ _).alloc (Nat.le_refl _) _
  rw [← h5] at n5
  obtain ⟨W6, h6⟩ : ∃ x, x = W5.alloc (.cells #[.int .i64 0, .slice (some ⟨W.heap.size, 0, none⟩) 3 3, .int .i64 1, .slice (some ⟨W.heap.size + 1, 0, none⟩) 3 3, .int .i64 2, .slice (some ⟨W.heap.size + 1 + 1, 0, none⟩) 3 3, .int .i64 3, .slice (some ⟨W.heap.size + 1 + 1 + 1, 0, none⟩) 3 3, .int .i64 5, .slice (some ⟨W.heap.size + 1 + 1 + 1 + 1, 0, none⟩) 3 3] 54) := ⟨_, rfl⟩
  rw [← h6]
  have n6 := heap_alloc_new W5 (.cells #[.int .i64 0, .slice (some ⟨W.heap.size, 0, none⟩) 3 3, .int .i64 1, .slice (some ⟨W.heap.size + 1, 0, none⟩) 3 3, .int .i64 2, .slice (some ⟨W.heap.size + 1 + 1, 0, none⟩) 3 3, .int .i64 3, .slice (some ⟨W.heap.size + 1 + 1 + 1, 0, none⟩) 3 3, .int .i64 5, .slice (some ⟨W.heap.size + 1 + 1 + 1 + 1, 0, none⟩) 3 3] 54)
  have B6 : Below W5.heap.size W5 W6 := by rw [h6]; exact (Below.refl _ _).alloc (Nat.le_refl _) _
  rw [← h6] at n6
  have e1 : W1.heap.size = W.heap.size + 1 := by omega
  have e2 : W2.heap.size = W.heap.size + 1 + 1 := by omega
  have e3 : W3.heap.size = W.heap.size + 1 + 1 + 1 := by omega
  have e4 : W4.heap.size = W.heap.size + 1 + 1 + 1 + 1 := by omega
  have e5 : W5.heap.size = W.heap.size + 1 + 1 + 1 + 1 + 1 := by omega
  have D5 := B5.trans (B6.mono B5.size)
  have D4 := B4.trans (D5.mono B4.size)
  have D3 := B3.trans (D4.mono B3.size)
  have D2 := B2.trans (D3.mono B2.size)
  have m1 := (D2.block _ (show W.heap.size < W1.heap.size by omega)).trans n1
  have m2 := (D3.block _ (show W1.heap.size < W2.heap.size by omega)).trans n2
  have m3 := (D4.block _ (show W2.heap.size < W3.heap.size by omega)).trans n3
  have m4 := (D5.block _ (show W3.heap.size < W4.heap.size by omega)).trans n4
  have m5 := (B6.block _ (show W4.heap.size < W5.heap.size by omega)).trans n5
  rw [e1] at m2
  rw [e2] at m3
  rw [e3] at m4
  rw [e4] at m5
  rw [e5] at n6
  refine ⟨.inr ⟨by unfold wantL; simp, _, 0, 5, rfl, by unfold wantL; simp, (Array.getElem?_eq_some_iff.1 n6).1, fun j x hj => ?_⟩, B1.trans (D2.mono B1.size)⟩
  unfold wantL at hj
  rcases j with _ | _ | _ | _ | _ | j
  · simp at hj; subst hj; exact ⟨by rw [cell_of_row _ _ _ _ _ _ n6]; rfl, _, by rw [cell_of_row _ _ _ _ _ _ n6]; rfl, made3 m1⟩
  · simp at hj; subst hj; exact ⟨by rw [cell_of_row _ _ _ _ _ _ n6]; rfl, _, by rw [cell_of_row _ _ _ _ _ _ n6]; rfl, made3 m2⟩
  · simp at hj; subst hj; exact ⟨by rw [cell_of_row _ _ _ _ _ _ n6]; rfl, _, by rw [cell_of_row _ _ _ _ _ _ n6]; rfl, made3 m3⟩
  · simp at hj; subst hj; exact ⟨by rw [cell_of_row _ _ _ _ _ _ n6]; rfl, _, by rw [cell_of_row _ _ _ _ _ _ n6]; rfl, made3 m4⟩
  · simp at hj; subst hj; exact ⟨by rw [cell_of_row _ _ _ _ _ _ n6]; rfl, _, by rw [cell_of_row _ _ _ _ _ _ n6]; rfl, made3 m5⟩
  · simp at hj
set_option maxRecDepth 1000000 in
set_option maxHeartbeats 16000000 in
theorem sane_any (w : World) : Calls Try.prog 7 #[] w fun e w' => e = .returned (.bool true) ∧ Below w.heap.size w w' := by
  go_enter Try.func7, Try.ntmps7
  go_wp2_with fail
  refine (example_any w).mono ?_
  rintro e w1 ⟨r, rfl, hgv, b1w⟩
  obtain ⟨a1, a2, b1, b2, c1, c2, rfl, hv1, hv2, hv3⟩ := gv_shape hgv
  obtain ⟨N1, hN1⟩ : ∃ N, Hid (N = exG.vs.length) := ⟨_, rfl⟩
  obtain ⟨N2, hN2⟩ : ∃ N, Hid (N = exG.es.length) := ⟨_, rfl⟩
  obtain ⟨N3, hN3⟩ : ∃ N, Hid (N = exG.ds.length) := ⟨_, rfl⟩
  rw [← hN1.out, ← hN2.out, ← hN3.out] at hgv ⊢
  obtain ⟨w2, hw2⟩ : ∃ x, x = w1.alloc (.cells #[.slice a1 N1 a2, .slice b1 N2 b2, .slice c1 N3 c2] 28) := ⟨_, rfl⟩
  have b2w : Below w1.heap.size w1 w2 := by rw [hw2]; exact (Below.refl _ w1).alloc (Nat.le_refl _) _
  have gb : w2.heap[w1.heap.size]? = some (.cells #[.slice a1 N1 a2, .slice b1 N2 b2, .slice c1 N3 c2] 28 (0, 0)) := by rw [hw2]; exact heap_alloc_new w1 _
  have hs2 : w2.heap.size = w1.heap.size + 1 := by rw [hw2]; simp
  have hBB : Hid (Below w.heap.size w w2) := b1w.trans (b2w.mono b1w.size)
  have fG := Lib.hid (fun W (q : Below w2.heap.size w2 W) => (hgv.below b2w).below q)
  have fb := Lib.hid (fun W (q : Below w2.heap.size w2 W) => box3g ((q.block _ (show w1.heap.size < w2.heap.size by omega)).trans gb))
  replace hw2 := Lib.hid hw2
  clear hgv hv1 hv2 hv3 b1w b2w gb hs2 hN1 hN2 hN3
  have kg := Lib.hid (Below.refl w2.heap.size w2)
  obtain ⟨g0, g1, g2⟩ := fb.out w2 kg.out
  go_upto_region 2 with (fail)
  rw [← hw2.out]
  generalize hbb : w1.heap.size = bg at *
  clear hbb
  go_wp2_with fail
  refine (lab_ex _ w2 (fG.out w2 kg.out)).mono ?_
  rintro e w3 ⟨l, rfl, hl, q⟩
  replace kg := Lib.hid (kg.out.trans (q.mono kg.out.size))
  have fL := Lib.hid (fun W (q : Below w3.heap.size w3 W) => hl.NL.below q)
  clear q hl
  clear g0 g1 g2
  have kl := Lib.hid (Below.refl w3.heap.size w3)
  go_upto_region 4 with (fail)
  obtain ⟨w4, hw4, hwl, q⟩ : ∃ x, x = ((((((w3.alloc (.cells #[.int .i64 0, .int .i64 0, .int .i64 (-1)] 3)).alloc (.cells #[.int .i64 1, .int .i64 0, .int .i64 (-1)] 3)).alloc (.cells #[.int .i64 1, .int .i64 1, .int .i64 (0)] 3)).alloc (.cells #[.int .i64 1, .int .i64 1, .int .i64 (4)] 3)).alloc (.cells #[.int .i64 5, .int .i64 0, .int .i64 (-1)] 3)).alloc (.cells #[.int .i64 0, .slice (some ⟨w3.heap.size, 0, none⟩) 3 3, .int .i64 1, .slice (some ⟨w3.heap.size + 1, 0, none⟩) 3 3, .int .i64 2, .slice (some ⟨w3.heap.size + 1 + 1, 0, none⟩) 3 3, .int .i64 3, .slice (some ⟨w3.heap.size + 1 + 1 + 1, 0, none⟩) 3 3, .int .i64 5, .slice (some ⟨w3.heap.size + 1 + 1 + 1 + 1, 0, none⟩) 3 3] 54)) ∧ NL x (.slice (some ⟨w3.heap.size + 1 + 1 + 1 + 1 + 1, 0, none⟩) 5 5) wantL ∧ Below w3.heap.size w3 x := ⟨_, rfl, want_made w3⟩
  rw [← hw4]
  generalize hbw : w3.heap.size + 1 + 1 + 1 + 1 + 1 = bw at *
  replace hw4 := Lib.hid hw4
  have fW := Lib.hid (fun W (q : Below w4.heap.size w4 W) => hwl.below q)
  replace kg := Lib.hid (kg.out.trans (q.mono kg.out.size))
  replace kl := Lib.hid (kl.out.trans (q.mono kl.out.size))
  clear q hwl hbw
  have kw := Lib.hid (Below.refl w4.heap.size w4)
  obtain ⟨g0, g1, g2⟩ := fb.out w4 kg.out
  go_wp2_with fail
  refine (conn_ex _ w4 (fG.out w4 kg.out)).mono ?_
  rintro e w5 ⟨rfl, q⟩
  replace kg := Lib.hid (kg.out.trans (q.mono kg.out.size))
  replace kl := Lib.hid (kl.out.trans (q.mono kl.out.size))
  replace kw := Lib.hid (kw.out.trans (q.mono kw.out.size))
  clear q
  clear g0 g1 g2
  obtain ⟨g0, g1, g2⟩ := fb.out w5 kg.out
  go_wp2_with fail
  refine (not_ex _ w5 (fG.out w5 kg.out)).mono ?_
  rintro e w6 ⟨rfl, q⟩
  replace kg := Lib.hid (kg.out.trans (q.mono kg.out.size))
  replace kl := Lib.hid (kl.out.trans (q.mono kl.out.size))
  replace kw := Lib.hid (kw.out.trans (q.mono kw.out.size))
  clear q
  clear g0 g1 g2
  obtain ⟨g0, g1, g2⟩ := fb.out w6 kg.out
  go_wp2_with fail
  refine (path_ex _ w6 (fG.out w6 kg.out)).mono ?_
  rintro e w7 ⟨p1, p2, rfl, hp, q⟩
  replace kg := Lib.hid (kg.out.trans (q.mono kg.out.size))
  replace kl := Lib.hid (kl.out.trans (q.mono kl.out.size))
  replace kw := Lib.hid (kw.out.trans (q.mono kw.out.size))
  have fP := Lib.hid (fun W (q : Below w7.heap.size w7 W) => hp.below q)
  clear hp
  clear q
  clear g0 g1 g2
  have kp := Lib.hid (Below.refl w7.heap.size w7)
  obtain ⟨g0, g1, g2⟩ := fb.out w7 kg.out
  go_wp2_with fail
  refine (none_ex _ w7 (fG.out w7 kg.out)).mono ?_
  rintro e w8 ⟨n1, n2, rfl, q⟩
  replace kg := Lib.hid (kg.out.trans (q.mono kg.out.size))
  replace kl := Lib.hid (kl.out.trans (q.mono kl.out.size))
  replace kw := Lib.hid (kw.out.trans (q.mono kw.out.size))
  replace kp := Lib.hid (kp.out.trans (q.mono kp.out.size))
  clear q
  clear g0 g1 g2
  obtain ⟨g0, g1, g2⟩ := fb.out w8 kg.out
  go_wp2_with fail
  refine (side_ex _ w8 (fG.out w8 kg.out)).mono ?_
  rintro e w9 ⟨s1, s2, rfl, hp, q⟩
  replace kg := Lib.hid (kg.out.trans (q.mono kg.out.size))
  replace kl := Lib.hid (kl.out.trans (q.mono kl.out.size))
  replace kw := Lib.hid (kw.out.trans (q.mono kw.out.size))
  replace kp := Lib.hid (kp.out.trans (q.mono kp.out.size))
  have fS := Lib.hid (fun W (q : Below w9.heap.size w9 W) => hp.below q)
  clear hp
  clear q
  clear g0 g1 g2
  have ks := Lib.hid (Below.refl w9.heap.size w9)
  obtain ⟨g0, g1, g2⟩ := fb.out w9 kg.out
  go_wp2_with fail
  refine (bad_ex _ w9 (fG.out w9 kg.out)).mono ?_
  rintro e w10 ⟨m1, m2, rfl, q⟩
  replace kg := Lib.hid (kg.out.trans (q.mono kg.out.size))
  replace kl := Lib.hid (kl.out.trans (q.mono kl.out.size))
  replace kw := Lib.hid (kw.out.trans (q.mono kw.out.size))
  replace kp := Lib.hid (kp.out.trans (q.mono kp.out.size))
  replace ks := Lib.hid (ks.out.trans (q.mono ks.out.size))
  clear q
  clear g0 g1 g2
  obtain ⟨w11, hw11⟩ : ∃ x, x = w10.alloc (.cells #[.int .i64 1] 3) := ⟨_, rfl⟩
  have q : Below w10.heap.size w10 w11 := by rw [hw11]; exact (Below.refl _ w10).alloc (Nat.le_refl _) _
  have hb10 : w11.heap[w10.heap.size]? = some (.cells #[.int .i64 1] 3 (0, 0)) := by rw [hw11]; exact heap_alloc_new w10 _
  replace hw11 := Lib.hid hw11
  replace kg := Lib.hid (kg.out.trans (q.mono kg.out.size))
  replace kl := Lib.hid (kl.out.trans (q.mono kl.out.size))
  replace kw := Lib.hid (kw.out.trans (q.mono kw.out.size))
  replace kp := Lib.hid (kp.out.trans (q.mono kp.out.size))
  replace ks := Lib.hid (ks.out.trans (q.mono ks.out.size))
  clear q
  obtain ⟨g0, g1, g2⟩ := fb.out w11 kg.out
  go_wp2_with fail
  rw [← hw11.out]
  refine (lab0_ex w11 _ hb10).mono ?_
  rintro e w12 ⟨l0, rfl, q⟩
  replace kg := Lib.hid (kg.out.trans (q.mono kg.out.size))
  replace kl := Lib.hid (kl.out.trans (q.mono kl.out.size))
  replace kw := Lib.hid (kw.out.trans (q.mono kw.out.size))
  replace kp := Lib.hid (kp.out.trans (q.mono kp.out.size))
  replace ks := Lib.hid (ks.out.trans (q.mono ks.out.size))
  clear q hb10
  clear g0 g1 g2
  obtain ⟨g0, g1, g2⟩ := fb.out w12 kg.out
  go_wp2_with fail
  refine (view_ex _ _ w12 wantL 3 3 (fG.out w12 kg.out) (fW.out w12 kw.out) want_len.1 want_len.2 ex_at.1).mono ?_
  rintro e w13 ⟨sd, d1, d2, d3, e1, e2, e3, l1, l2, l3, rfl, hE, hL, q⟩
  replace kg := Lib.hid (kg.out.trans (q.mono kg.out.size))
  replace kl := Lib.hid (kl.out.trans (q.mono kl.out.size))
  replace kw := Lib.hid (kw.out.trans (q.mono kw.out.size))
  replace kp := Lib.hid (kp.out.trans (q.mono kp.out.size))
  replace ks := Lib.hid (ks.out.trans (q.mono ks.out.size))
  clear q
  clear g0 g1 g2
  obtain ⟨w14, hw14⟩ : ∃ x, x = w13.alloc (.cells #[.int .i64 3, .int .i64 sd, .slice d1 d2 d3, .slice e1 e2 e3, .slice l1 l2 l3] 51) := ⟨_, rfl⟩
  have q : Below w13.heap.size w13 w14 := by rw [hw14]; exact (Below.refl _ w13).alloc (Nat.le_refl _) _
  have hvb : w14.heap[w13.heap.size]? = some (.cells #[.int .i64 3, .int .i64 sd, .slice d1 d2 d3, .slice e1 e2 e3, .slice l1 l2 l3] 51 (0, 0)) := by rw [hw14]; exact heap_alloc_new w13 _
  replace hw14 := Lib.hid hw14
  replace kg := Lib.hid (kg.out.trans (q.mono kg.out.size))
  replace kl := Lib.hid (kl.out.trans (q.mono kl.out.size))
  replace kw := Lib.hid (kw.out.trans (q.mono kw.out.size))
  replace kp := Lib.hid (kp.out.trans (q.mono kp.out.size))
  replace ks := Lib.hid (ks.out.trans (q.mono ks.out.size))
  clear q
  have hvq : Below w13.heap.size w13 w14 := by rw [hw14.out]; exact (Below.refl _ _).alloc (Nat.le_refl _) _
  have hvs : w14.heap.size = w13.heap.size + 1 := by rw [hw14.out]; simp
  have fV := Lib.hid (fun W (q : Below w14.heap.size w14 W) => (show (W.cell? ⟨w13.heap.size, 0, none⟩ = some (.int .i64 3) ∧ W.cell? ⟨w13.heap.size, 1, none⟩ = some (.int .i64 sd) ∧ W.cell? ⟨w13.heap.size, 2, none⟩ = some (.slice d1 d2 d3) ∧ W.cell? ⟨w13.heap.size, 3, none⟩ = some (.slice e1 e2 e3) ∧ W.cell? ⟨w13.heap.size, 4, none⟩ = some (.slice l1 l2 l3)) ∧ EL W (.slice e1 e2 e3) (atF exG.es 3) ∧ NL W (.slice l1 l2 l3) (wantL.filter (keepV 3 (atF exG.es 3))) from ⟨box5 ((q.block _ (by omega)).trans hvb), (hE.EL.below hvq).below q, (hL.NL.below hvq).below q⟩))
  clear hvb hvq hvs hE hL
  have kv := Lib.hid (Below.refl w14.heap.size w14)
  go_upto_region 14 with (fail)
  rw [← hw14.out]
  generalize hbv : w13.heap.size = bv at *
  clear hbv
  have fg2 := Lib.hid (fun W (q : Below w14.heap.size w14 W) => fb.out W (kg.out.trans (q.mono kg.out.size)))
  have fG2 := Lib.hid (fun W (q : Below w14.heap.size w14 W) => fG.out W (kg.out.trans (q.mono kg.out.size)))
  have fW2 := Lib.hid (fun W (q : Below w14.heap.size w14 W) => fW.out W (kw.out.trans (q.mono kw.out.size)))
  refine Rel.c_region (fun _ => false) w14 [some (.agg #[.slice a1 N1 a2, .slice b1 N2 b2, .slice c1 N3 c2]), some (.slice (some ⟨bw, 0, none⟩) 5 5), some (.agg #[.int .i64 3, .int .i64 1, .int .i64 1]), none, none, none, none, none]
    (fun i v W => match i with
      | 3 => ∃ q, v = .slice (some ⟨q, 0, none⟩) 1 1 ∧ W.heap[q]? = some (.cells #[.int .i64 3, .int .i64 1, .int .i64 1] 64 (0, 0))
      | 4 => NL W v (bentF wantL [(3, 1, 1)])
      | 5 => ∃ sd d1 d2 d3 e1 e2 e3 l1 l2 l3, v = .agg #[.int .i64 3, .int .i64 sd, .slice d1 d2 d3, .slice e1 e2 e3, .slice l1 l2 l3] ∧ OwnEd W w14.heap.size (.slice e1 e2 e3) (atF exG.es 3) ∧ OwnN W w14.heap.size (.slice l1 l2 l3) ((bentF wantL [(3, 1, 1)]).filter (keepV 3 (atF exG.es 3)))
      | 6 => ∃ p x0 x1 x2 x3 x4, v = .pointer (some ⟨p, 0, none⟩) ∧ W.heap[p]? = some (.cells #[x0, x1, x2, x3, x4] 51 (0, 0)) ∧ w14.heap.size ≤ p
      | _ => True)
    (fun _ vals W => ∃ p sd d1 d2 d3 e1 e2 e3 l1 l2 l3, vals 6 = .pointer (some ⟨p, 0, none⟩) ∧ W.heap[p]? = some (.cells #[.int .i64 3, .int .i64 sd, .slice d1 d2 d3, .slice e1 e2 e3, .slice l1 l2 l3] 51 (0, 0)) ∧ EL W (.slice e1 e2 e3) (atF exG.es 3) ∧ NL W (.slice l1 l2 l3) ((bentF wantL [(3, 1, 1)]).filter (keepV 3 (atF exG.es 3))) ∧ Below w14.heap.size w14 W) 7 (by kernel_rfl) (by kernel_rfl) (fun i hi => by cases hi)
    (fun j hj => by simp only [List.getD_eq_getElem?_getD]; rcases Nat.eq_or_lt_of_le hj with rfl | hj2; rfl; rw [List.getElem?_eq_none (by simp; omega)]; rfl) (by decide) (fun i v W W' h Bl => by
      split at h
      · obtain ⟨q, h1, h2⟩ := h; exact ⟨q, h1, (Bl.block _ (Array.getElem?_eq_some_iff.1 h2).1).trans h2⟩
      · exact h.below Bl
      · obtain ⟨s1, s2, s3, s4, s5, s6, s7, s8, s9, s10, h1, h2, h3⟩ := h; exact ⟨s1, s2, s3, s4, s5, s6, s7, s8, s9, s10, h1, own_below h2 Bl, h3.below Bl⟩
      · obtain ⟨p, x0, x1, x2, x3, x4, h1, h2, h3⟩ := h; exact ⟨p, x0, x1, x2, x3, x4, h1, (Bl.block _ (Array.getElem?_eq_some_iff.1 h2).1).trans h2, h3⟩
      · exact trivial) ((Below.refl _ w14).drew) (fun vals hO => ?_)
  refine Rel.c_pure rfl (.agg #[.slice a1 N1 a2, .slice b1 N2 b2, .slice c1 N3 c2]) rfl (by decide) (hO 0 _ rfl) (by rfl) (fun w hC hd => ?_) ?_
  · obtain ⟨y0, y1, y2⟩ := fg2.out w hC; clear hd hO; go_simp
  try simp only [Act.put, zT, z0, zS]
  refine Rel.c_pure rfl (.slice (some ⟨bw, 0, none⟩) 5 5) rfl (by decide) (hO 1 _ rfl) (by rfl) (fun w hC hd => ?_) ?_
  · clear hd hO; go_simp
  try simp only [Act.put, zT, z0, zS]
  refine Rel.c_pure rfl (.agg #[.int .i64 3, .int .i64 1, .int .i64 1]) rfl (by decide) (hO 2 _ rfl) (by rfl) (fun w hC hd => ?_) ?_
  · clear hd hO; go_simp
  try simp only [Act.put, zT, z0, zS]
  refine Rel.c_rel rfl rfl (by decide) (by rfl) (fun w hC hd => ?_) ?_
  · refine post_value (.slice (some ⟨w.heap.size, 0, none⟩) 1 1) (w.alloc (.cells #[.int .i64 3, .int .i64 1, .int .i64 1] 64)) ?_ ⟨(Below.refl _ w).alloc (Nat.le_refl _) _, _, rfl, heap_alloc_new w _⟩
    clear hd hO; go_simp
  try simp only [Act.put, zT, z0, zS]
  refine Rel.c_rel rfl rfl (by decide) (by rfl) (fun wz hC hd => ?_) ?_
  · obtain ⟨qq, h1, h2⟩ : ∃ q, vals 3 = .slice (some ⟨q, 0, none⟩) 1 1 ∧ wz.heap[q]? = some (.cells #[.int .i64 3, .int .i64 1, .int .i64 1] 64 (0, 0)) := hd 3 (by decide)
    refine post_call Try.f22 rfl Try.func22 (by kernel_rfl) (by kernel_rfl) #[.slice (some ⟨bw, 0, none⟩) 5 5, .slice (some ⟨qq, 0, none⟩) 1 1] (by rw [show vals (0 + 1 + 1 + 1) = _ from h1]; simp [Act.eval]) ((bent_ex _ qq wz (fW2.out wz hC) h2).mono ?_)
    rintro e w5 ⟨rr, rfl, k1, k2⟩
    exact ⟨_, rfl, k2, k1⟩
  try simp only [Act.put, zT, z0, zS]
  refine Rel.c_rel rfl rfl (by decide) (by rfl) (fun wz hC hd => ?_) ?_
  · have h1 : NL wz (vals 4) (bentF wantL [(3, 1, 1)]) := hd 4 (by decide)
    refine post_call Try.f19 rfl Try.func19 (by kernel_rfl) (by kernel_rfl) #[.agg #[.slice a1 N1 a2, .slice b1 N2 b2, .slice c1 N3 c2], vals 4, .int .i64 3] (by simp [Act.eval]) ((view_ex _ _ wz (bentF wantL [(3, 1, 1)]) 3 3 (fG2.out wz hC) h1 bent_len.1 bent_len.2 ex_at.1).mono ?_)
    rintro e w5 ⟨sd, d1, d2, d3, e1, e2, e3, l1, l2, l3, rfl, hE, ⟨vs, hL⟩, q⟩
    exact ⟨_, rfl, q, sd, d1, d2, d3, e1, e2, e3, l1, l2, l3, rfl, own_low hE hC.size, ⟨vs, hL.len, own_low hL.row hC.size, fun j x u a b => own_low (hL.lab j x u a b) hC.size, hL.ap⟩⟩
  try simp only [Act.put, zT, z0, zS]
  refine Rel.c_rel rfl rfl (by decide) (by rfl) (fun w hC hd => ?_) ?_
  · refine post_value (.pointer (some ⟨w.heap.size, 0, none⟩)) (w.alloc (.cells #[.int .i64 0, .int .i64 0, .slice none 0 0, .slice none 0 0, .slice none 0 0] 51)) ?_ ⟨(Below.refl _ w).alloc (Nat.le_refl _) _, _, _, _, _, _, _, rfl, heap_alloc_new w _, hC.size⟩
    clear hd hO; go_simp
  try simp only [Act.put, zT, z0, zS]
  refine Rel.c_tail0 rfl rfl (by rfl) (fun wz hC hd => ?_) ?_
  · obtain ⟨p, x0, x1, x2, x3, x4, h1, h2, h3⟩ : ∃ p x0 x1 x2 x3 x4, vals 6 = .pointer (some ⟨p, 0, none⟩) ∧ wz.heap[p]? = some (.cells #[x0, x1, x2, x3, x4] 51 (0, 0)) ∧ w14.heap.size ≤ p := hd 6 (by decide)
    obtain ⟨sd, d1, d2, d3, e1, e2, e3, l1, l2, l3, h7, hE, ⟨vs, hL⟩⟩ : ∃ sd d1 d2 d3 e1 e2 e3 l1 l2 l3, vals 5 = .agg #[.int .i64 3, .int .i64 sd, .slice d1 d2 d3, .slice e1 e2 e3, .slice l1 l2 l3] ∧ OwnEd wz w14.heap.size (.slice e1 e2 e3) (atF exG.es 3) ∧ OwnN wz w14.heap.size (.slice l1 l2 l3) ((bentF wantL [(3, 1, 1)]).filter (keepV 3 (atF exG.es 3))) := hd 5 (by decide)
    have gr := grown_setRow (cs := #[.int .i64 3, .int .i64 sd, .slice d1 d2 d3, .slice e1 e2 e3, .slice l1 l2 l3]) h2
    refine post_store_row 51 (.tmp 20) (.tmp 125) rfl p #[.int .i64 3, .int .i64 sd, .slice d1 d2 d3, .slice e1 e2 e3, .slice l1 l2 l3] h1 h7 51 _ h2 (info51 _ _ _ _ _) rfl (by simp [Value.oneCell']) ⟨p, sd, d1, d2, d3, e1, e2, e3, l1, l2, l3, by simpa [Rel.upd] using h1, setRow_heap _ _ _ _ _ _ h2, ?_, ?_, below_row hC h3 _⟩
    · exact OwnEd.EL (own_apartG hE gr (fun b hb e => by
        obtain ⟨_, cur, k1⟩ := own_row hE b hb
        cases e
        exact absurd (two_types k1 h2) (by decide)))
    · exact OwnN.NL ⟨vs, hL.apart gr (fun x hx cs => by
        cases hx
        exact ⟨fun e => absurd (two_types e h2) (by decide), fun e => absurd (two_types e h2) (by decide)⟩)⟩
  try simp only [Act.put, zT, z0, zS]
  refine Rel.c_end ?_
  intro w15 hF
  obtain ⟨bb, td, t1, t2, t3, t4, t5, t6, t7, t8, t9, h6, hb6, hE6, hN6, q⟩ := hF
  have e6 : vals (0 + 1 + 1 + 1 + 1 + 1 + 1) = .pointer (some ⟨bb, 0, none⟩) := h6
  rw [e6]
  clear e6 h6 hO fg2 fG2 fW2

  replace kg := Lib.hid (kg.out.trans (q.mono kg.out.size))
  replace kl := Lib.hid (kl.out.trans (q.mono kl.out.size))
  replace kw := Lib.hid (kw.out.trans (q.mono kw.out.size))
  replace kp := Lib.hid (kp.out.trans (q.mono kp.out.size))
  replace ks := Lib.hid (ks.out.trans (q.mono ks.out.size))
  replace kv := Lib.hid (kv.out.trans (q.mono kv.out.size))
  have fB := Lib.hid (fun W (q : Below w15.heap.size w15 W) => (show (W.cell? ⟨bb, 0, none⟩ = some (.int .i64 3) ∧ W.cell? ⟨bb, 1, none⟩ = some (.int .i64 td) ∧ W.cell? ⟨bb, 2, none⟩ = some (.slice t1 t2 t3) ∧ W.cell? ⟨bb, 3, none⟩ = some (.slice t4 t5 t6) ∧ W.cell? ⟨bb, 4, none⟩ = some (.slice t7 t8 t9)) ∧ EL W (.slice t4 t5 t6) (atF exG.es 3) ∧ NL W (.slice t7 t8 t9) ((bentF wantL [(3, 1, 1)]).filter (keepV 3 (atF exG.es 3))) from ⟨box5 ((q.block _ (Array.getElem?_eq_some_iff.1 hb6).1).trans hb6), hE6.below q, hN6.below q⟩))
  clear q hb6 hE6 hN6
  have kb := Lib.hid (Below.refl w15.heap.size w15)
  obtain ⟨g0, g1, g2⟩ := fb.out w15 kg.out
  obtain ⟨w16, hw16⟩ : ∃ x, x = w15.alloc (.cells #[.int .i64 6] 3) := ⟨_, rfl⟩
  have q : Below w15.heap.size w15 w16 := by rw [hw16]; exact (Below.refl _ w15).alloc (Nat.le_refl _) _
  have ha : w16.heap[w15.heap.size]? = some (.cells #[.int .i64 6] 3 (0, 0)) := by rw [hw16]; exact heap_alloc_new w15 _
  replace hw16 := Lib.hid hw16
  replace kg := Lib.hid (kg.out.trans (q.mono kg.out.size))
  replace kl := Lib.hid (kl.out.trans (q.mono kl.out.size))
  replace kw := Lib.hid (kw.out.trans (q.mono kw.out.size))
  replace kp := Lib.hid (kp.out.trans (q.mono kp.out.size))
  replace ks := Lib.hid (ks.out.trans (q.mono ks.out.size))
  replace kv := Lib.hid (kv.out.trans (q.mono kv.out.size))
  replace kb := Lib.hid (kb.out.trans (q.mono kb.out.size))
  clear q
  go_wp2_with fail
  rw [← hw16.out]
  refine (ckp_ex _ _ w16 [6] true (fG.out w16 kg.out) (made1 ha) (by simp) ex_ck1).mono ?_
  rintro e w17 ⟨rfl, q⟩
  replace kg := Lib.hid (kg.out.trans (q.mono kg.out.size))
  replace kl := Lib.hid (kl.out.trans (q.mono kl.out.size))
  replace kw := Lib.hid (kw.out.trans (q.mono kw.out.size))
  replace kp := Lib.hid (kp.out.trans (q.mono kp.out.size))
  replace ks := Lib.hid (ks.out.trans (q.mono ks.out.size))
  replace kv := Lib.hid (kv.out.trans (q.mono kv.out.size))
  replace kb := Lib.hid (kb.out.trans (q.mono kb.out.size))
  clear q ha
  clear g0 g1 g2
  obtain ⟨g0, g1, g2⟩ := fb.out w17 kg.out
  obtain ⟨w18, hw18⟩ : ∃ x, x = w17.alloc (.cells #[.int .i64 0] 3) := ⟨_, rfl⟩
  have q : Below w17.heap.size w17 w18 := by rw [hw18]; exact (Below.refl _ w17).alloc (Nat.le_refl _) _
  have ha : w18.heap[w17.heap.size]? = some (.cells #[.int .i64 0] 3 (0, 0)) := by rw [hw18]; exact heap_alloc_new w17 _
  replace hw18 := Lib.hid hw18
  replace kg := Lib.hid (kg.out.trans (q.mono kg.out.size))
  replace kl := Lib.hid (kl.out.trans (q.mono kl.out.size))
  replace kw := Lib.hid (kw.out.trans (q.mono kw.out.size))
  replace kp := Lib.hid (kp.out.trans (q.mono kp.out.size))
  replace ks := Lib.hid (ks.out.trans (q.mono ks.out.size))
  replace kv := Lib.hid (kv.out.trans (q.mono kv.out.size))
  replace kb := Lib.hid (kb.out.trans (q.mono kb.out.size))
  clear q
  go_wp2_with fail
  rw [← hw18.out]
  refine (ckp_ex _ _ w18 [0] false (fG.out w18 kg.out) (made1 ha) (by simp) ex_ck2).mono ?_
  rintro e w19 ⟨rfl, q⟩
  replace kg := Lib.hid (kg.out.trans (q.mono kg.out.size))
  replace kl := Lib.hid (kl.out.trans (q.mono kl.out.size))
  replace kw := Lib.hid (kw.out.trans (q.mono kw.out.size))
  replace kp := Lib.hid (kp.out.trans (q.mono kp.out.size))
  replace ks := Lib.hid (ks.out.trans (q.mono ks.out.size))
  replace kv := Lib.hid (kv.out.trans (q.mono kv.out.size))
  replace kb := Lib.hid (kb.out.trans (q.mono kb.out.size))
  clear q ha
  clear g0 g1 g2
  obtain ⟨g0, g1, g2⟩ := fb.out w19 kg.out
  obtain ⟨w20, hw20⟩ : ∃ x, x = w19.alloc (.cells #[.int .i64 0, .int .i64 1] 3) := ⟨_, rfl⟩
  have q : Below w19.heap.size w19 w20 := by rw [hw20]; exact (Below.refl _ w19).alloc (Nat.le_refl _) _
  have ha : w20.heap[w19.heap.size]? = some (.cells #[.int .i64 0, .int .i64 1] 3 (0, 0)) := by rw [hw20]; exact heap_alloc_new w19 _
  replace hw20 := Lib.hid hw20
  replace kg := Lib.hid (kg.out.trans (q.mono kg.out.size))
  replace kl := Lib.hid (kl.out.trans (q.mono kl.out.size))
  replace kw := Lib.hid (kw.out.trans (q.mono kw.out.size))
  replace kp := Lib.hid (kp.out.trans (q.mono kp.out.size))
  replace ks := Lib.hid (ks.out.trans (q.mono ks.out.size))
  replace kv := Lib.hid (kv.out.trans (q.mono kv.out.size))
  replace kb := Lib.hid (kb.out.trans (q.mono kb.out.size))
  clear q
  go_wp2_with fail
  rw [← hw20.out]
  refine (cks_ex _ _ w20 [0, 1] false (fG.out w20 kg.out) (made2 ha) (by simp) ex_ck3).mono ?_
  rintro e w21 ⟨rfl, q⟩
  replace kg := Lib.hid (kg.out.trans (q.mono kg.out.size))
  replace kl := Lib.hid (kl.out.trans (q.mono kl.out.size))
  replace kw := Lib.hid (kw.out.trans (q.mono kw.out.size))
  replace kp := Lib.hid (kp.out.trans (q.mono kp.out.size))
  replace ks := Lib.hid (ks.out.trans (q.mono ks.out.size))
  replace kv := Lib.hid (kv.out.trans (q.mono kv.out.size))
  replace kb := Lib.hid (kb.out.trans (q.mono kb.out.size))
  clear q ha
  clear g0 g1 g2
  obtain ⟨g0, g1, g2⟩ := fb.out w21 kg.out
  obtain ⟨w22, hw22⟩ : ∃ x, x = w21.alloc (.cells #[.int .i64 0] 3) := ⟨_, rfl⟩
  have q : Below w21.heap.size w21 w22 := by rw [hw22]; exact (Below.refl _ w21).alloc (Nat.le_refl _) _
  have ha : w22.heap[w21.heap.size]? = some (.cells #[.int .i64 0] 3 (0, 0)) := by rw [hw22]; exact heap_alloc_new w21 _
  replace hw22 := Lib.hid hw22
  replace kg := Lib.hid (kg.out.trans (q.mono kg.out.size))
  replace kl := Lib.hid (kl.out.trans (q.mono kl.out.size))
  replace kw := Lib.hid (kw.out.trans (q.mono kw.out.size))
  replace kp := Lib.hid (kp.out.trans (q.mono kp.out.size))
  replace ks := Lib.hid (ks.out.trans (q.mono ks.out.size))
  replace kv := Lib.hid (kv.out.trans (q.mono kv.out.size))
  replace kb := Lib.hid (kb.out.trans (q.mono kb.out.size))
  clear q
  go_wp2_with fail
  rw [← hw22.out]
  refine (cks_ex _ _ w22 [0] true (fG.out w22 kg.out) (made1 ha) (by simp) ex_ck4).mono ?_
  rintro e w23 ⟨rfl, q⟩
  replace kg := Lib.hid (kg.out.trans (q.mono kg.out.size))
  replace kl := Lib.hid (kl.out.trans (q.mono kl.out.size))
  replace kw := Lib.hid (kw.out.trans (q.mono kw.out.size))
  replace kp := Lib.hid (kp.out.trans (q.mono kp.out.size))
  replace ks := Lib.hid (ks.out.trans (q.mono ks.out.size))
  replace kv := Lib.hid (kv.out.trans (q.mono kv.out.size))
  replace kb := Lib.hid (kb.out.trans (q.mono kb.out.size))
  clear q ha
  clear g0 g1 g2
  obtain ⟨g0, g1, g2⟩ := fb.out w23 kg.out
  go_wp2_with fail
  refine (same_ex _ _ wantL w23 (fL.out w23 kl.out) (fW.out w23 kw.out) want_len.1 want_len.2).mono ?_
  rintro e w24 ⟨rfl, q⟩
  replace kg := Lib.hid (kg.out.trans (q.mono kg.out.size))
  replace kl := Lib.hid (kl.out.trans (q.mono kl.out.size))
  replace kw := Lib.hid (kw.out.trans (q.mono kw.out.size))
  replace kp := Lib.hid (kp.out.trans (q.mono kp.out.size))
  replace ks := Lib.hid (ks.out.trans (q.mono ks.out.size))
  replace kv := Lib.hid (kv.out.trans (q.mono kv.out.size))
  replace kb := Lib.hid (kb.out.trans (q.mono kb.out.size))
  clear q
  clear g0 g1 g2
  obtain ⟨g0, g1, g2⟩ := fb.out w24 kg.out
  obtain ⟨w25, hw25⟩ : ∃ x, x = w24.alloc (.cells #[.int .i64 0, .int .i64 4] 3) := ⟨_, rfl⟩
  have q : Below w24.heap.size w24 w25 := by rw [hw25]; exact (Below.refl _ w24).alloc (Nat.le_refl _) _
  have ha : w25.heap[w24.heap.size]? = some (.cells #[.int .i64 0, .int .i64 4] 3 (0, 0)) := by rw [hw25]; exact heap_alloc_new w24 _
  replace hw25 := Lib.hid hw25
  replace kg := Lib.hid (kg.out.trans (q.mono kg.out.size))
  replace kl := Lib.hid (kl.out.trans (q.mono kl.out.size))
  replace kw := Lib.hid (kw.out.trans (q.mono kw.out.size))
  replace kp := Lib.hid (kp.out.trans (q.mono kp.out.size))
  replace ks := Lib.hid (ks.out.trans (q.mono ks.out.size))
  replace kv := Lib.hid (kv.out.trans (q.mono kv.out.size))
  replace kb := Lib.hid (kb.out.trans (q.mono kb.out.size))
  clear q
  go_wp2_with fail
  rw [← hw25.out]
  refine (ints_ex _ _ [0, 4] w25 (fP.out w25 kp.out) (made2 ha) (by simp)).mono ?_
  rintro e w26 ⟨rfl, q⟩
  replace kg := Lib.hid (kg.out.trans (q.mono kg.out.size))
  replace kl := Lib.hid (kl.out.trans (q.mono kl.out.size))
  replace kw := Lib.hid (kw.out.trans (q.mono kw.out.size))
  replace kp := Lib.hid (kp.out.trans (q.mono kp.out.size))
  replace ks := Lib.hid (ks.out.trans (q.mono ks.out.size))
  replace kv := Lib.hid (kv.out.trans (q.mono kv.out.size))
  replace kb := Lib.hid (kb.out.trans (q.mono kb.out.size))
  clear q ha
  clear g0 g1 g2
  obtain ⟨g0, g1, g2⟩ := fb.out w26 kg.out
  obtain ⟨w27, hw27⟩ : ∃ x, x = w26.alloc (.cells #[.int .i64 1, .int .i64 2, .int .i64 3] 3) := ⟨_, rfl⟩
  have q : Below w26.heap.size w26 w27 := by rw [hw27]; exact (Below.refl _ w26).alloc (Nat.le_refl _) _
  have ha : w27.heap[w26.heap.size]? = some (.cells #[.int .i64 1, .int .i64 2, .int .i64 3] 3 (0, 0)) := by rw [hw27]; exact heap_alloc_new w26 _
  replace hw27 := Lib.hid hw27
  replace kg := Lib.hid (kg.out.trans (q.mono kg.out.size))
  replace kl := Lib.hid (kl.out.trans (q.mono kl.out.size))
  replace kw := Lib.hid (kw.out.trans (q.mono kw.out.size))
  replace kp := Lib.hid (kp.out.trans (q.mono kp.out.size))
  replace ks := Lib.hid (ks.out.trans (q.mono ks.out.size))
  replace kv := Lib.hid (kv.out.trans (q.mono kv.out.size))
  replace kb := Lib.hid (kb.out.trans (q.mono kb.out.size))
  clear q
  go_wp2_with fail
  rw [← hw27.out]
  refine (ints_ex _ _ [1, 2, 3] w27 (fS.out w27 ks.out) (made3 ha) (by simp)).mono ?_
  rintro e w28 ⟨rfl, q⟩
  replace kg := Lib.hid (kg.out.trans (q.mono kg.out.size))
  replace kl := Lib.hid (kl.out.trans (q.mono kl.out.size))
  replace kw := Lib.hid (kw.out.trans (q.mono kw.out.size))
  replace kp := Lib.hid (kp.out.trans (q.mono kp.out.size))
  replace ks := Lib.hid (ks.out.trans (q.mono ks.out.size))
  replace kv := Lib.hid (kv.out.trans (q.mono kv.out.size))
  replace kb := Lib.hid (kb.out.trans (q.mono kb.out.size))
  clear q ha
  clear g0 g1 g2
  obtain ⟨⟨v0, v1, v2, v3, v4⟩, vE, vN⟩ := fV.out w28 kv.out
  replace vE := Lib.hid vE
  replace vN := Lib.hid vN
  go_wp2_with fail
  refine (good_ex 3 _ _ _ _ _ _ w28 true vE.out vN.out ex_len.2.2.2 ex_len.1 ex_dep.1 ex_good).mono ?_
  rintro e w29 ⟨rfl, q⟩
  replace kg := Lib.hid (kg.out.trans (q.mono kg.out.size))
  replace kl := Lib.hid (kl.out.trans (q.mono kl.out.size))
  replace kw := Lib.hid (kw.out.trans (q.mono kw.out.size))
  replace kp := Lib.hid (kp.out.trans (q.mono kp.out.size))
  replace ks := Lib.hid (ks.out.trans (q.mono ks.out.size))
  replace kv := Lib.hid (kv.out.trans (q.mono kv.out.size))
  replace kb := Lib.hid (kb.out.trans (q.mono kb.out.size))
  clear q v0 v1 v2 v3 v4 vE vN
  obtain ⟨⟨v0, v1, v2, v3, v4⟩, vE, vN⟩ := fB.out w29 kb.out
  replace vE := Lib.hid vE
  replace vN := Lib.hid vN
  go_wp2_with fail
  refine (good_ex 3 _ _ _ _ _ _ w29 false vE.out vN.out ex_len.2.2.2 ex_len.2.1 ex_dep.2 ex_bent).mono ?_
  rintro e w30 ⟨rfl, q⟩
  replace kg := Lib.hid (kg.out.trans (q.mono kg.out.size))
  replace kl := Lib.hid (kl.out.trans (q.mono kl.out.size))
  replace kw := Lib.hid (kw.out.trans (q.mono kw.out.size))
  replace kp := Lib.hid (kp.out.trans (q.mono kp.out.size))
  replace ks := Lib.hid (ks.out.trans (q.mono ks.out.size))
  replace kv := Lib.hid (kv.out.trans (q.mono kv.out.size))
  replace kb := Lib.hid (kb.out.trans (q.mono kb.out.size))
  clear q v0 v1 v2 v3 v4 vE vN
  obtain ⟨⟨v0, v1, v2, v3, v4⟩, vE, vN⟩ := fV.out w30 kv.out
  replace vE := Lib.hid vE
  replace vN := Lib.hid vN
  go_wp2_with fail
  refine (count_ex 3 _ _ _ _ _ w30 0 vN.out ex_len.1 ex_c0).mono ?_
  rintro e w31 ⟨rfl, q⟩
  replace kg := Lib.hid (kg.out.trans (q.mono kg.out.size))
  replace kl := Lib.hid (kl.out.trans (q.mono kl.out.size))
  replace kw := Lib.hid (kw.out.trans (q.mono kw.out.size))
  replace kp := Lib.hid (kp.out.trans (q.mono kp.out.size))
  replace ks := Lib.hid (ks.out.trans (q.mono ks.out.size))
  replace kv := Lib.hid (kv.out.trans (q.mono kv.out.size))
  replace kb := Lib.hid (kb.out.trans (q.mono kb.out.size))
  clear q v0 v1 v2 v3 v4 vE vN
  obtain ⟨g0, g1, g2⟩ := fb.out w31 kg.out
  go_wp2_with fail
  refine (view_ex _ _ w31 wantL 1 1 (fG.out w31 kg.out) (fW.out w31 kw.out) want_len.1 want_len.2 ex_at.2).mono ?_
  rintro e w32 ⟨s0, y1, y2, y3, y4, y5, y6, y7, y8, y9, rfl, hE, hL, q⟩
  replace kg := Lib.hid (kg.out.trans (q.mono kg.out.size))
  replace kl := Lib.hid (kl.out.trans (q.mono kl.out.size))
  replace kw := Lib.hid (kw.out.trans (q.mono kw.out.size))
  replace kp := Lib.hid (kp.out.trans (q.mono kp.out.size))
  replace ks := Lib.hid (ks.out.trans (q.mono ks.out.size))
  replace kv := Lib.hid (kv.out.trans (q.mono kv.out.size))
  replace kb := Lib.hid (kb.out.trans (q.mono kb.out.size))
  clear g0 g1 g2
  clear q hE
  have hN9 := Lib.hid hL.NL
  clear hL
  go_wp2_with fail
  refine (count_ex 1 _ _ _ _ _ w32 1 hN9.out ex_len.2.2.1 ex_c1).mono ?_
  rintro e w33 ⟨rfl, q⟩
  replace kg := Lib.hid (kg.out.trans (q.mono kg.out.size))
  replace kl := Lib.hid (kl.out.trans (q.mono kl.out.size))
  replace kw := Lib.hid (kw.out.trans (q.mono kw.out.size))
  replace kp := Lib.hid (kp.out.trans (q.mono kp.out.size))
  replace ks := Lib.hid (ks.out.trans (q.mono ks.out.size))
  replace kv := Lib.hid (kv.out.trans (q.mono kv.out.size))
  replace kb := Lib.hid (kb.out.trans (q.mono kb.out.size))
  clear q hN9
  go_wp2_with fail
  go_ret
  exact ⟨rfl, hBB.out.trans (kg.out.mono hBB.out.size)⟩

end Go.Proofs.Ythmkmjkbfjhffaa
