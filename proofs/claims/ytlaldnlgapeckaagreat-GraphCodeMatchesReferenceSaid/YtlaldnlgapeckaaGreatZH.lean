/- The reference's EncodeChange. -/
import Derived.Test.YtlaldnlgapeckaaGreatZF
import Derived.Test.YtlaldnlgapeckaaGreatYMw
set_option linter.unusedSimpArgs false
set_option maxRecDepth 100000
set_option maxHeartbeats 4000000
namespace Go.Proofs.YtlaldnlgapeckaaGreat
open Go.RowKit
/-- append(x, y...) for a row of the call's own -/
theorem app_own (W : World) (B : Nat) (x y : Value) (l m : List Int) (hx : OwnI W B x l) (hy : DL W y m) (hl : l.length + m.length ≤ 1000000) (hB : B ≤ W.heap.size) :
  ∃ v' W', (Builtin.append_ #[24, 24] 24 #[x, y]).run Tryz.prog W = .ok v' W' ∧ OwnI W' B v' (l ++ m) ∧ W.heap.size ≤ W'.heap.size ∧ (∀ K w0, K ≤ B → Below K w0 W → Below K w0 W') := by
 obtain ⟨i0, hi, hz0, hz1, hz2⟩ := info_parts info3
 obtain ⟨a, c, rfl⟩ := hy.shape
 cases a with
 | none =>
  have hm : m = [] := by
   rcases hy with ⟨rfl, _⟩ | ⟨_, b', o', c', e, _⟩
   · rfl
   · injection e with e _ _; cases e
  subst hm
  refine ⟨x, W, ?_, by rw [List.append_nil]; exact hx, Nat.le_refl _, fun _ _ _ h => h⟩
  have hfn := run_firstCells_none (P := Tryz.prog) (w := W) i0.size 0 0 c
  rcases hx.2 with ⟨rfl, h0⟩ | ⟨g, cap, cur, rfl, _, _, hcap, _⟩
  · simp [Builtin.append_, run_underlying Tryz.underlying24, sizeOf, typeInfo, zeroValue, hi, hz0, Builtin.lenOf, Question.forced, hfn, storeCells]
  · have hcap' : ¬ cap < l.length := by omega
    simp [Builtin.append_, run_underlying Tryz.underlying24, sizeOf, typeInfo, zeroValue, hi, hz0, Builtin.lenOf, Question.forced, hfn, storeCells, hcap, hcap']
 | some ad =>
  have hc : ∀ j u, (cI m)[j]? = some u → W.cell? (ad.add j) = some u := by
   rcases hy with ⟨rfl, _⟩ | ⟨_, b', o', c', e, _, _, h4⟩
   · intro j u hj; simp [cI] at hj
   · injection e with e _ _
     injection e with e
     subst e
     exact lieD_cells h4
  obtain ⟨v', W', hr, ho, hg, _⟩ := run_append_own (P := Tryz.prog) W B 24 24 3 i0 _ 1 8 Tryz.underlying24 hi hz0 hz1 hz2 rfl (by omega) x l.length (cI l) hx ad m.length c (cI m) (cI_len m) hc (cI_one m) (by unfold maxLen; omega) (by omega) hB
  have hne := fun j hj => (own_row hx j hj).1
  refine ⟨v', W', hr, ?_, ((Below.refl 0 _).grown hg (Nat.zero_le _) (fun j hj => Nat.zero_le _)).size, fun K w0 hK hb => hb.grown hg (by omega) (fun j hj => by have := hne j hj; omega)⟩
  unfold OwnI
  rw [List.length_append]
  simpa [cI] using ho
theorem own_lit (W : World) (B : Nat) (l : List Int) (h : B ≤ W.heap.size) (hn : l.length ≤ 1000) : OwnI (W.alloc (.cells (cI l).toArray 3)) B (.slice (some ⟨W.heap.size, 0, none⟩) l.length l.length) l :=
 ⟨cI_len l, .inr ⟨W.heap.size, l.length, _, rfl, h, heap_alloc_new W _, Nat.le_refl _, by unfold maxLen; omega, by simp [cI], by rw [Nat.mul_one, List.take_of_length_le (by simp [cI])]⟩⟩
def chN1 (c : Ch) : List Int := [c.kind] ++ [c.v.id, c.v.side] ++ edN c.e
def chN2 (c : Ch) : List Int := chN1 c ++ [c.id, c.n, (c.ends.length : Int)] ++ c.ends
theorem chN_eq (c : Ch) : chN c = chN2 c ++ [(c.deps.length : Int)] ++ c.deps := by unfold chN chN2 chN1; simp
theorem EncodeChangeR_any (vc : Value) (c : Ch) (w : World) (hc : CV w vc c) (hr : ∀ n ∈ chN c, inI n) (hn : c.ends.length ≤ 400000 ∧ c.deps.length ≤ 400000) :
  Calls Tryz.prog 35 #[vc] w (EncCPost c w) := by
 obtain ⟨x, y, rfl, hx, hy⟩ := hc
 obtain ⟨xa, xc, rfl⟩ := hx.shape
 obtain ⟨ya, yc, rfl⟩ := hy.shape
 obtain ⟨hn1, hn2⟩ := hn
 obtain ⟨w1, hw1⟩ : ∃ w1, w1 = w.alloc (.cells (chCells c (.slice xa c.ends.length xc) (.slice ya c.deps.length yc)) 33) := ⟨_, rfl⟩
 have hB := Hd (show Below w.heap.size w w1 by rw [hw1]; exact (Below.refl _ w).alloc (Nat.le_refl _) _)
 have hz := Hd (show w1.heap.size = w.heap.size + 1 by rw [hw1]; simp)
 have hbx := Hd (show w1.heap[w.heap.size]? = some (.cells (chCells c (.slice xa c.ends.length xc) (.slice ya c.deps.length yc)) 33 (0, 0)) by rw [hw1]; exact heap_alloc_new w _)
 have hcell := Hd (fun W (BB : Below w1.heap.size w1 W) => ch_cells ((BB.block _ (by have := hz.out; omega)).trans hbx.out))
 have hX := Hd (fun W (BB : Below w1.heap.size w1 W) => (hx.below hB.out).below BB)
 have hY := Hd (fun W (BB : Below w1.heap.size w1 W) => (hy.below hB.out).below BB)
 have hpost : Hid (∀ W (S : List UInt8) (f : Bool), S = (if okP (chN c) = true then (chN c).flatMap putL else []) → f = okP (chN c) → Below w.heap.size w W → EncCPost c w (.returned (.tuple (if (f && decide (c.ends.length ≤ 80) && decide (c.deps.length ≤ 3)) = true then #[.string ⟨S.toArray⟩, .int .i64 0] else #[.string ⟨#[]⟩, .int .i64 30]))) W) := fun W S f hS hf Bl => by
  refine ⟨?_, Bl⟩
  rw [hS, hf]
  unfold encCOk
  cases okP (chN c) <;> cases decide (c.ends.length ≤ 80) <;> cases decide (c.deps.length ≤ 3) <;> rfl
 simp only [chCells] at hw1
 replace hw1 := Hd hw1
 have hr := Hd hr
 have hnc := Hd (show (chN c).length ≤ 1000000 by simp [chN, edN]; omega)
 clear hx hy hbx
 obtain ⟨N1, hN1⟩ : ∃ N, Hid (N = c.ends.length) := ⟨_, rfl⟩
 obtain ⟨N2, hN2⟩ : ∃ N, Hid (N = c.deps.length) := ⟨_, rfl⟩
 rw [← hN1.out] at hw1 hcell hX hn1 hpost ⊢
 rw [← hN2.out] at hw1 hcell hY hn2 hpost ⊢
 have hn1 := Hd hn1
 have hn2 := Hd hn2
 unfold chCells
 go_enter Tryz.func35, Tryz.ntmps35
 go_upto_region 1 with (fail)
 rw [← hw1.out]
 go_cut [4] from 5 to 19 (fun v wx => Hid (OwnI wx w1.heap.size v (chN1 c)) ∧ Hid (Below w1.heap.size w1 wx))
 case first =>
  refine wp_region_F (fun W => Below w1.heap.size w1 W) 999 (by kernel_rfl) (Below.refl _ w1).drew (fun hHeld => ?_)
  refine tkP 0 rfl ?_
  refine tkP 1 rfl ?_ (by (intro w h; obtain ⟨u0, u1, u2, u3, u4, u5, u6, u7, u8, u9, u10, u11, u12⟩ := hcell.out w h; clear h; go_simp) <;> with_reducible rfl)
  refine tkP 2 rfl ?_
  refine tkP 3 rfl ?_
  refine tkP 4 rfl ?_ (by (intro w h; obtain ⟨u0, u1, u2, u3, u4, u5, u6, u7, u8, u9, u10, u11, u12⟩ := hcell.out w h; clear h; go_simp) <;> with_reducible rfl)
  refine tkP 5 rfl ?_
  refine tkP 6 rfl ?_
  refine tkP 7 rfl ?_ (by (intro w h; obtain ⟨u0, u1, u2, u3, u4, u5, u6, u7, u8, u9, u10, u11, u12⟩ := hcell.out w h; clear h; go_simp) <;> with_reducible rfl)
  refine tkP 9 rfl ?_
  refine tkP 10 rfl ?_ (by (intro w h; obtain ⟨u0, u1, u2, u3, u4, u5, u6, u7, u8, u9, u10, u11, u12⟩ := hcell.out w h; clear h; go_simp) <;> with_reducible rfl)
  refine rdy [8, 11] ?_
  refine arC rfl (fun K hK => ?_) (arC rfl (fun K hK => ?_) AllReadyF.nil)
  · go_simp
    go_wp2_with fail
    have hL := own_lit w1.drew w1.heap.size [c.kind, c.v.id, c.v.side] (Nat.le_refl _) (by simp)
    have hLs := Hd (show (w1.drew.alloc (.cells (cI [c.kind, c.v.id, c.v.side]).toArray 3)).heap.size = w1.heap.size + 1 by simp)
    refine hK.out _ _ ((Below.refl _ w1).drew.alloc (Nat.le_refl _) _) (fun hHeld => ?_)
    clear hK K
    try simp only [Act.put, zT, z0, zS]
    refine rdy [11] ?_
    refine arC rfl (fun K hK => ?_) AllReadyF.nil
    go_simp
    refine (six_any c.e _).mono ?_
    rintro e w2 ⟨v6, rfl, o6, b6⟩
    have hL2 := own_below hL b6
    have hb2 : Below w1.heap.size w1 w2 := ((Below.refl _ w1).drew.alloc (Nat.le_refl _) _).trans (b6.mono (by simp))
    go_wp2_with fail
    refine hK.out _ _ hb2 (fun hHeld => ?_)
    clear hK K
    try simp only [Act.put, zT, z0, zS]
    refine rdy [12] ?_
    refine arC rfl (fun K hK => ?_) AllReadyF.nil
    obtain ⟨v', W', hra, hoa, hza, hBa⟩ := app_own w2 w1.heap.size (.slice (some ⟨w1.heap.size, 0, none⟩) 3 3) v6 [c.kind, c.v.id, c.v.side] (edN c.e) hL2 (OwnI.DL o6) (by simp [edN]) hb2.size
    have hb3 := hBa w1.heap.size w1 (Nat.le_refl _) hb2
    refine wp_append_run (.tmp 15) (.tmp 18) 24 rfl _ _ rfl rfl _ _ hra ?_
    refine hK.out _ _ hb3 (fun hHeld => ?_)
    clear hK K hra
    try simp only [Act.put, zT, z0, zS]
    refine tkP 13 rfl ?_
    refine wpAnyF_done (by kernel_rfl) ?_ _
    go_wp2_with fail
    go_meet
    case rel => exact ⟨hoa, hb3⟩
  · go_simp
    refine (six_any c.e w1.drew).mono ?_
    rintro e w2 ⟨v6, rfl, o6, b6⟩
    have hb1 : Below w1.heap.size w1 w2 := (Below.refl _ w1).drew.trans b6
    go_wp2_with fail
    refine hK.out _ _ hb1 (fun hHeld => ?_)
    clear hK K
    try simp only [Act.put, zT, z0, zS]
    refine rdy [8] ?_
    refine arC rfl (fun K hK => ?_) AllReadyF.nil
    go_simp
    go_wp2_with fail
    have hL := own_lit w2 w1.heap.size [c.kind, c.v.id, c.v.side] hb1.size (by simp)
    have hb2 : Below w1.heap.size w1 (w2.alloc (.cells (cI [c.kind, c.v.id, c.v.side]).toArray 3)) := hb1.alloc hb1.size _
    refine hK.out _ _ hb2 (fun hHeld => ?_)
    clear hK K
    try simp only [Act.put, zT, z0, zS]
    refine rdy [12] ?_
    refine arC rfl (fun K hK => ?_) AllReadyF.nil
    obtain ⟨v', W', hra, hoa, hza, hBa⟩ := app_own _ w1.heap.size (.slice (some ⟨w2.heap.size, 0, none⟩) 3 3) v6 [c.kind, c.v.id, c.v.side] (edN c.e) hL ((OwnI.DL o6).below ((Below.refl _ w2).alloc (Nat.le_refl _) _)) (by simp [edN]) hb2.size
    have hb3 := hBa w1.heap.size w1 (Nat.le_refl _) hb2
    refine wp_append_run (.tmp 15) (.tmp 18) 24 rfl _ _ rfl rfl _ _ hra ?_
    refine hK.out _ _ hb3 (fun hHeld => ?_)
    clear hK K hra
    try simp only [Act.put, zT, z0, zS]
    refine tkP 13 rfl ?_
    refine wpAnyF_done (by kernel_rfl) ?_ _
    go_wp2_with fail
    go_meet
    case rel => exact ⟨hoa, hb3⟩
 case rest =>
 obtain ⟨o1, b1⟩ := hcut
 obtain ⟨wx, rfl⟩ : ∃ w', w' = wc := ⟨_, rfl⟩
 have hid : Hid (∀ {v : Value} {W : World} {l : List Int}, OwnI W w1.heap.size v l → ∃ a k, v = .slice a l.length k) := fun h => (by obtain ⟨a, k, e⟩ := h.DL.shape; exact ⟨a, k, e⟩)
 go_upto_region 2 with (fail)
 go_cut [4] from 20 to 32 (fun v wx => Hid (OwnI wx w1.heap.size v (chN2 c)) ∧ Hid (Below w1.heap.size w1 wx))
 case first =>
  obtain ⟨va, vc, rfl⟩ := hid.out o1.out
  obtain ⟨M1, hM1⟩ : ∃ M, Hid (M = (chN1 c).length) := ⟨_, rfl⟩
  rw [← hM1.out] at o1 ⊢
  refine wp_region_F (fun W => Below w1.heap.size w1 W) 999 (by kernel_rfl) b1.out.drew (fun hHeld => ?_)
  refine tkP 0 rfl ?_
  refine tkP 1 rfl ?_
  refine tkP 2 rfl ?_ (by (intro w h; obtain ⟨u0, u1, u2, u3, u4, u5, u6, u7, u8, u9, u10, u11, u12⟩ := hcell.out w h; clear h; go_simp) <;> with_reducible rfl)
  refine tkP 3 rfl ?_
  refine tkP 4 rfl ?_ (by (intro w h; obtain ⟨u0, u1, u2, u3, u4, u5, u6, u7, u8, u9, u10, u11, u12⟩ := hcell.out w h; clear h; go_simp) <;> with_reducible rfl)
  refine tkP 5 rfl ?_
  refine tkP 6 rfl ?_ (by (intro w h; obtain ⟨u0, u1, u2, u3, u4, u5, u6, u7, u8, u9, u10, u11, u12⟩ := hcell.out w h; clear h; go_simp) <;> with_reducible rfl)
  refine tkP 7 rfl ?_
  refine tkP 10 rfl ?_
  refine tkP 11 rfl ?_ (by (intro w h; obtain ⟨u0, u1, u2, u3, u4, u5, u6, u7, u8, u9, u10, u11, u12⟩ := hcell.out w h; clear h; go_simp) <;> with_reducible rfl)
  refine rdy [8] ?_
  refine arC rfl (fun K hK => ?_) AllReadyF.nil
  go_simp
  go_wp2_with fail
  have hL := own_lit wx.drew w1.heap.size [c.id, c.n, (N1 : Int)] b1.out.drew.size (by simp)
  have hb2 : Below w1.heap.size w1 (wx.drew.alloc (.cells (cI [c.id, c.n, (N1 : Int)]).toArray 3)) := b1.out.drew.alloc b1.out.drew.size _
  refine hK.out _ _ hb2 (fun hHeld => ?_)
  clear hK K
  try simp only [Act.put, zT, z0, zS]
  refine rdy [9] ?_
  refine arC rfl (fun K hK => ?_) AllReadyF.nil
  have ox : OwnI (wx.drew.alloc (.cells (cI [c.id, c.n, (N1 : Int)]).toArray 3)) w1.heap.size (.slice va M1 vc) (chN1 c) := own_below o1.out ((Below.refl _ wx).drew.alloc (Nat.le_refl _) _)
  obtain ⟨v', W', hra, hoa, hza, hBa⟩ := app_own _ w1.heap.size (.slice va M1 vc) (.slice (some ⟨wx.heap.size, 0, none⟩) 3 3) (chN1 c) [c.id, c.n, (N1 : Int)] ox hL.DL (by simp [chN1, edN]) hb2.size
  have hb3 := hBa w1.heap.size w1 (Nat.le_refl _) hb2
  refine wp_append_run (.tmp 20) (.tmp 28) 24 rfl _ _ rfl rfl _ _ hra ?_
  refine hK.out _ _ hb3 (fun hHeld => ?_)
  clear hK K hra hL ox hb2
  try simp only [Act.put, zT, z0, zS]
  refine rdy [12] ?_
  refine arC rfl (fun K hK => ?_) AllReadyF.nil
  have hyd := hX.out _ hb3
  obtain ⟨v'', W'', hra2, hoa2, hza2, hBa2⟩ := app_own W' w1.heap.size v' (.slice xa N1 xc) (chN1 c ++ [c.id, c.n, (N1 : Int)]) c.ends hoa hyd (by have := hn1.out; have := hN1.out; simp [chN1, edN]; omega) hb3.size
  have hb4 := hBa2 w1.heap.size w1 (Nat.le_refl _) hb3
  refine wp_append_run (.tmp 29) (.tmp 31) 24 rfl _ _ rfl rfl _ _ hra2 ?_
  refine hK.out _ _ hb4 (fun hHeld => ?_)
  clear hK K hra2 hoa hyd
  try simp only [Act.put, zT, z0, zS]
  refine tkP 13 rfl ?_
  refine wpAnyF_done (by kernel_rfl) ?_ _
  go_wp2_with fail
  go_meet
  case rel => exact ⟨by show OwnI _ _ _ _; unfold chN2; rw [← hN1.out]; exact hoa2, hb4⟩
 case rest =>
 clear o1 b1
 obtain ⟨o1, b1⟩ := hcut
 obtain ⟨wx, rfl⟩ : ∃ w', w' = wc := ⟨_, rfl⟩
 go_upto_region 3 with (fail)
 go_cut [4] from 33 to 41 (fun v wx => Hid (OwnI wx w1.heap.size v (chN c)) ∧ Hid (Below w1.heap.size w1 wx))
 case first =>
  obtain ⟨va, vc, rfl⟩ := hid.out o1.out
  obtain ⟨M1, hM1⟩ : ∃ M, Hid (M = (chN2 c).length) := ⟨_, rfl⟩
  have hM2 : (chN2 c).length ≤ 400020 := by have := hn1.out; have := hN1.out; simp [chN2, chN1, edN]; omega
  rw [← hM1.out] at o1 ⊢
  have hM2 := Hd hM2
  refine wp_region_F (fun W => Below w1.heap.size w1 W) 999 (by kernel_rfl) b1.out.drew (fun hHeld => ?_)
  refine tkP 0 rfl ?_
  refine tkP 1 rfl ?_
  refine tkP 2 rfl ?_ (by (intro w h; obtain ⟨u0, u1, u2, u3, u4, u5, u6, u7, u8, u9, u10, u11, u12⟩ := hcell.out w h; clear h; go_simp) <;> with_reducible rfl)
  refine tkP 3 rfl ?_
  refine tkP 6 rfl ?_
  refine tkP 7 rfl ?_ (by (intro w h; obtain ⟨u0, u1, u2, u3, u4, u5, u6, u7, u8, u9, u10, u11, u12⟩ := hcell.out w h; clear h; go_simp) <;> with_reducible rfl)
  refine rdy [4] ?_
  refine arC rfl (fun K hK => ?_) AllReadyF.nil
  go_simp
  go_wp2_with fail
  have hL := own_lit wx.drew w1.heap.size [(N2 : Int)] b1.out.drew.size (by simp)
  have hb2 : Below w1.heap.size w1 (wx.drew.alloc (.cells (cI [(N2 : Int)]).toArray 3)) := b1.out.drew.alloc b1.out.drew.size _
  refine hK.out _ _ hb2 (fun hHeld => ?_)
  clear hK K
  try simp only [Act.put, zT, z0, zS]
  refine rdy [5] ?_
  refine arC rfl (fun K hK => ?_) AllReadyF.nil
  have ox : OwnI (wx.drew.alloc (.cells (cI [(N2 : Int)]).toArray 3)) w1.heap.size (.slice va M1 vc) (chN2 c) := own_below o1.out ((Below.refl _ wx).drew.alloc (Nat.le_refl _) _)
  obtain ⟨v', W', hra, hoa, hza, hBa⟩ := app_own _ w1.heap.size (.slice va M1 vc) (.slice (some ⟨wx.heap.size, 0, none⟩) 1 1) (chN2 c) [(N2 : Int)] ox hL.DL (by have := hM2.out; simp; omega) hb2.size
  have hb3 := hBa w1.heap.size w1 (Nat.le_refl _) hb2
  refine wp_append_run (.tmp 33) (.tmp 37) 24 rfl _ _ rfl rfl _ _ hra ?_
  refine hK.out _ _ hb3 (fun hHeld => ?_)
  clear hK K hra hL ox hb2
  try simp only [Act.put, zT, z0, zS]
  refine rdy [8] ?_
  refine arC rfl (fun K hK => ?_) AllReadyF.nil
  have hyd := hY.out _ hb3
  obtain ⟨v'', W'', hra2, hoa2, hza2, hBa2⟩ := app_own W' w1.heap.size v' (.slice ya N2 yc) (chN2 c ++ [(N2 : Int)]) c.deps hoa hyd (by have := hM2.out; have := hn2.out; have := hN2.out; simp; omega) hb3.size
  have hb4 := hBa2 w1.heap.size w1 (Nat.le_refl _) hb3
  refine wp_append_run (.tmp 38) (.tmp 40) 24 rfl _ _ rfl rfl _ _ hra2 ?_
  refine hK.out _ _ hb4 (fun hHeld => ?_)
  clear hK K hra2 hoa hyd
  try simp only [Act.put, zT, z0, zS]
  refine tkP 9 rfl ?_
  refine wpAnyF_done (by kernel_rfl) ?_ _
  go_wp2_with fail
  go_meet
  case rel => exact ⟨by show OwnI _ _ _ _; rw [chN_eq, ← hN2.out]; exact hoa2, hb4⟩
 case rest =>
 clear o1 b1
 obtain ⟨o1, b1⟩ := hcut
 obtain ⟨wx, rfl⟩ : ∃ w', w' = wc := ⟨_, rfl⟩
 have hnum := Hd (fun v (h : OwnI wx w1.heap.size v (chN c)) => numbersR_any v (chN c) wx h.DL hr.out hnc.out)
 obtain ⟨va, vc, rfl⟩ := hid.out o1.out
 have hnum := Hd (hnum.out _ o1.out)
 unfold NumsPost at hnum
 obtain ⟨ff, hff⟩ : ∃ f, Hid (f = okP (chN c)) := ⟨_, rfl⟩
 obtain ⟨SS, hSS⟩ : ∃ S, Hid (S = (if okP (chN c) = true then (chN c).flatMap putL else [])) := ⟨_, rfl⟩
 rw [← hSS.out, ← hff.out] at hnum
 have hp := Hd (fun W (BB : Below w.heap.size w W) => hpost.out W SS ff hSS.out hff.out BB)
 clear hpost hSS hff hX hY
 generalize (chN c).length = MM at *
 go_wp2_with fail
 refine hnum.out.mono ?_
 rintro e w2 ⟨rfl, b2⟩
 have hB2 := Hd (b1.out.trans (b2.mono b1.out.size))
 have hB3 := Hd (hp.out w2 (hB.out.trans (hB2.out.mono hB.out.size)))
 obtain ⟨u0, u1, u2, u3, u4, u5, u6, u7, u8, u9, u10, u11, u12⟩ := hcell.out w2 hB2.out
 clear b2 hnum hp u0 u1 u2 u3 u4 u5 u6 u7 u8 u9 u10
 cases ff with
 | false =>
  simp only [Bool.false_and, Bool.false_eq_true, if_false] at hB3
  go_wp2_with fail
  go_ret2
  exact hB3.out
 | true =>
  by_cases h1 : N1 ≤ 80
  · have i1 : ¬ (80 : Int) < (N1 : Int) := by omega
    by_cases h2 : N2 ≤ 3
    · have i2 : ¬ (3 : Int) < (N2 : Int) := by omega
      rw [decide_eq_true h1, decide_eq_true h2] at hB3
      simp only [Bool.and_self, if_true] at hB3
      clear h1 h2
      go_wp2_with fail
      go_ret2
      exact hB3.out
    · have i2 : (3 : Int) < (N2 : Int) := by omega
      rw [decide_eq_true h1, decide_eq_false h2] at hB3
      simp only [Bool.and_false, Bool.false_eq_true, if_false] at hB3
      clear h1 h2
      go_wp2_with fail
      go_ret2
      exact hB3.out
  · have i1 : (80 : Int) < (N1 : Int) := by omega
    rw [decide_eq_false h1] at hB3
    simp only [Bool.and_false, Bool.false_and, Bool.false_eq_true, if_false] at hB3
    clear h1
    go_wp2_with fail
    go_ret2
    exact hB3.out
end Go.Proofs.YtlaldnlgapeckaaGreat
