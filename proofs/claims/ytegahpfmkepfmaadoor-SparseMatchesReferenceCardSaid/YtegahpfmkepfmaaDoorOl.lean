/- SparseOrder: updates of different keys, in either order or at once. -/
import Derived.Test.YtegahpfmkepfmaaDoorSan
namespace Go.Proofs.YtegahpfmkepfmaaDoor
open Go.RowKit
theorem root_congr (m n : List Ent) (hm : Mp m) (hn : Mp n) (h : ∀ k : Int, lookE m k = lookE n k) : rootL m = rootL n := by
  unfold rootL partV
  congr 1
  funext k
  rw [vF_map m k hm, vF_map n k hn, h]
theorem upd_ok (l m : List Ent) (ks : List Int) (ch : List Ent) (hl : Mp l) (hm : Mp m) (hk : ascB (-1) ks = true) (hc : chgB ch = true) (ha : ∀ e ∈ ch, e.1 ∈ ks)
    (h : ∀ j : Int, lookE m j = if (∃ e ∈ ch, e.1 = j) then lookE ch j else lookE l j) :
    updB (rootL l) ks (valsL l ks) (pathL l ks) ch = true ∧ updS (rootL l) ks (valsL l ks) (pathL l ks) ch = rootL m := by
  have hB : updB (rootL l) ks (valsL l ks) (pathL l ks) ch = true := by
    unfold updB
    rw [proved_shown l ks hl hk, hc]
    simp only [Bool.and_true, Bool.true_and]
    unfold amongB
    rw [List.all_eq_true]
    intro e he
    rw [List.any_eq_true]
    exact ⟨e.1, ha e he, by simp [isI]⟩
  refine ⟨hB, ?_⟩
  unfold updS
  rw [if_pos hB]
  refine changed_stands l m ks ch hm hl hk hc (fun k _ => (h k).symm) (fun k hnk => ?_)
  rw [h k, if_neg]
  rintro ⟨e, he, hek⟩
  refine hnk ?_
  have := ha e he
  rw [hek] at this
  simp only [tN, List.mem_map]
  exact ⟨(k : Int), this, by simp⟩
theorem UpdC (l m : List Ent) (ks : List Int) (ch : List Ent) (vo vc : Value) (W : World) (hl : Mp l) (hm : Mp m) (hk : ascB (-1) ks = true) (hc : chgB ch = true) (ha : ∀ e ∈ ch, e.1 ∈ ks)
    (h : ∀ j : Int, lookE m j = if (∃ e ∈ ch, e.1 = j) then lookE ch j else lookE l j) (ho : OpV W vo ks (valsL l ks) (pathL l ks)) (hch : SE W vc ch) (hT : Tab W) :
    Calls Tryd.prog 27 #[.string ⟨(rootL l).toArray⟩, vo, vc] W fun e w' => e = .returned (.tuple #[.string ⟨(rootL m).toArray⟩, .bool true]) ∧ Below W.heap.size W w' := by
  obtain ⟨h1, h2⟩ := upd_ok l m ks ch hl hm hk hc ha h
  have hkl := ascB_len ks (-1) (by omega) (by omega) hk
  have hcl := (chgB_facts ch hc).1
  have hpl : (pathL l ks).length ≤ 64 := by unfold pathL; rw [List.length_map]; exact clF_size _ 6 1
  have hvl : (valsL l ks).length = ks.length := by simp [valsL, tN]
  have h3 := Update_any (rootL l) vo vc ks (valsL l ks) (pathL l ks) ch W rfl ho hch (by omega) (by omega) (by omega) (by omega) hT
  unfold UpdPost at h3
  rw [h1, h2] at h3
  exact h3
theorem ProveC (l : List Ent) (ks : List Int) (v vk : Value) (W : World) (hl : Mp l) (hk : ascB (-1) ks = true) (hv : SE W v l) (hvk : SI W vk ks) (hT : Tab W) : Calls Tryd.prog 18 #[v, vk] W (PP ks (valsL l ks) (pathL l ks) W) :=
  Prove_ok v vk l ks W rfl hv hvk ((mapB_iff l).2 hl) hk hT
theorem RootC (l : List Ent) (v : Value) (W : World) (hl : Mp l) (hv : SE W v l) (hT : Tab W) : Calls Tryd.prog 13 #[v] W (RootPost (rootL l) 0 W) := Root_ok v l W hv ((mapB_iff l).2 hl) hT
/-- rows of two -/
theorem twoI (W : World) (x y : Int) : SI (W.alloc (.cells #[.int .i64 x, .int .i64 y] 3)) (.slice (some ⟨W.heap.size, 0, none⟩) 2 2) [x, y] := by
  refine .inr ⟨by simp, W.heap.size, 0, 2, rfl, by simp, by simp, fun j z i u e1 e2 => ?_⟩
  rw [cell_of_row _ _ _ _ _ _ (heap_alloc_new W _)]
  match j, i, e1, e2 with
  | 0, 0, e1, e2 => simp at e1; subst e1; simpa [eI] using e2
  | 1, 0, e1, e2 => simp at e1; subst e1; simpa [eI] using e2
  | 0, i + 1, e1, e2 => simp [eI] at e2
  | 1, i + 1, e1, e2 => simp [eI] at e2
  | j + 2, i, e1, e2 => simp at e1
theorem twoE (W : World) (a b : Ent) : SE (W.alloc (.cells #[.int .i64 a.1, .string ⟨a.2.toArray⟩, .int .i64 b.1, .string ⟨b.2.toArray⟩] 46)) (.slice (some ⟨W.heap.size, 0, none⟩) 2 2) [a, b] := by
  refine .inr ⟨by simp, W.heap.size, 0, 2, rfl, by simp, by simp, fun j z i u e1 e2 => ?_⟩
  rw [cell_of_row _ _ _ _ _ _ (heap_alloc_new W _)]
  match j, i, e1, e2 with
  | 0, 0, e1, e2 => simp at e1; subst e1; simpa [eE] using e2
  | 0, 1, e1, e2 => simp at e1; subst e1; simpa [eE] using e2
  | 1, 0, e1, e2 => simp at e1; subst e1; simpa [eE] using e2
  | 1, 1, e1, e2 => simp at e1; subst e1; simpa [eE] using e2
  | 0, i + 2, e1, e2 => simp [eE] at e2
  | 1, i + 2, e1, e2 => simp [eE] at e2
  | j + 2, i, e1, e2 => simp at e1
def sq (i : Nat) : Str := match i with | 0 => [] | 1 => [113] | _ => [114, 115]
theorem sq_len (i : Nat) : (sq i).length ≤ 2 := by unfold sq; split <;> simp
theorem sq_at (k : Nat) (h : k < 3) : ([.string ⟨#[]⟩, .string ⟨#[113]⟩, .string ⟨#[114, 115]⟩] : List Value)[k]? = some (.string ⟨(sq k).toArray⟩) := by
  match k, h with
  | 0, _ => rfl
  | 1, _ => rfl
  | 2, _ => rfl
theorem chg1 (a : Int) (s : Str) (h0 : 0 ≤ a) (h1 : a < 64) (hs : s.length ≤ 2) : chgB [(a, s)] = true := by
  unfold chgB
  simp [ascB, tlE, tl]; omega
theorem chg2 (a b : Int) (s t : Str) (h0 : 0 ≤ a) (h1 : a < b) (h2 : b < 64) (hs : s.length ≤ 2) (ht : t.length ≤ 2) : chgB [(a, s), (b, t)] = true := by
  unfold chgB
  simp [ascB, tlE, tl]; omega
theorem asc1 (a : Int) (h0 : 0 ≤ a) (h1 : a < 64) : ascB (-1) [a] = true := by simp [ascB]; omega
theorem asc2 (a b : Int) (h0 : 0 ≤ a) (h1 : a < b) (h2 : b < 64) : ascB (-1) [a, b] = true := by simp [ascB]; omega
theorem look1 (l : List Ent) (a : Int) (s : Str) (hl : Mp l) (j : Int) : lookE (putE l a s) j = if (∃ e ∈ [((a, s) : Ent)], e.1 = j) then lookE [(a, s)] j else lookE l j := by
  rw [lookE_putE l a j s hl]
  by_cases h : j = a
  · subst h; rw [if_pos rfl, if_pos ⟨(j, s), by simp, rfl⟩]; simp [lookE]
  · rw [if_neg h, if_neg]
    rintro ⟨e, he, hj⟩
    simp at he; subst he; exact h hj.symm
theorem look2 (l : List Ent) (a b : Int) (s t : Str) (hl : Mp l) (h1 : Mp (putE l a s)) (hab : a ≠ b) (ch : List Ent) (hch : ch = [(a, s), (b, t)] ∨ ch = [(b, t), (a, s)]) (j : Int) :
    lookE (putE (putE l a s) b t) j = if (∃ e ∈ ch, e.1 = j) then lookE ch j else lookE l j := by
  rw [lookE_putE _ b j t h1, lookE_putE l a j s hl]
  by_cases hb : j = b
  · subst hb
    rw [if_pos rfl, if_pos (by rcases hch with rfl | rfl <;> exact ⟨(j, t), by simp, rfl⟩)]
    rcases hch with rfl | rfl <;> simp [lookE, hab]
  · rw [if_neg hb]
    by_cases ha : j = a
    · subst ha
      rw [if_pos rfl, if_pos (by rcases hch with rfl | rfl <;> exact ⟨(j, s), by simp, rfl⟩)]
      rcases hch with rfl | rfl
      · simp [lookE]
      · simp [lookE, Ne.symm hab]
    · rw [if_neg ha, if_neg]
      rintro ⟨e, he, hj⟩
      rcases hch with rfl | rfl <;> simp at he <;> rcases he with rfl | rfl
      · exact ha hj.symm
      · exact hb hj.symm
      · exact hb hj.symm
      · exact ha hj.symm
theorem two_box (w w1 : World) (cs ds : Array Value) (t1 t2 : TypeId) (h : w1 = (w.alloc (.cells cs t1)).alloc (.cells ds t2)) : Below w.heap.size w w1 ∧ (∀ W, Below w1.heap.size w1 W → ∀ i, W.cell? ⟨w.heap.size, i, none⟩ = cs[i]? ∧ W.cell? ⟨w.heap.size + 1, i, none⟩ = ds[i]?) := by
  obtain ⟨z, B, h1, h2⟩ := two_world w w1 _ _ _ _ h
  refine ⟨B, fun W BW i => ⟨?_, ?_⟩⟩
  · exact cell_of_row _ _ _ _ _ _ ((BW.block _ (by omega)).trans h1)
  · exact cell_of_row _ _ _ _ _ _ ((BW.block _ (by omega)).trans h2)

set_option maxRecDepth 100000 in
set_option maxHeartbeats 8000000 in
theorem Order_any (v : Value) (x : List (Int × Int)) (x0 x1 y0 y1 : Int) (w : World) (hv : ArgP w v x) (hx0 : I64 x0) (hx1 : I64 x1) (hy0 : I64 y0) (hy1 : I64 y1) (hT0 : Tab w) :
    Calls Tryd.prog 9 #[v, .agg #[.int .i64 x0, .int .i64 x1], .agg #[.int .i64 y0, .int .i64 y1]] w fun e w' => e = .returned (.bool true) ∧ Below w.heap.size w w' := by
  have hT := Lib.hid hT0
  have cSane := Lib.hid (show ∀ W, Below w.heap.size w W → _ from fun W B => sane_any W (hT0.below B))
  have cMade := Lib.hid (show ∀ W, Below w.heap.size w W → _ from fun W B => Made_any v x W ⟨hv.1.below B, hv.2⟩ rfl)
  have p1 := Lib.hid (fun W => Wr.pick_any x0 64 W hx0.1 hx0.2 (by omega) (by omega))
  have p2 := Lib.hid (fun W => Wr.pick_any x1 64 W hx1.1 hx1.2 (by omega) (by omega))
  have p3 := Lib.hid (fun W => Wr.pick_any y0 3 W hy0.1 hy0.2 (by omega) (by omega))
  have p4 := Lib.hid (fun W => Wr.pick_any y1 3 W hy1.1 hy1.2 (by omega) (by omega))
  have q1 := Wr.pk_lo x0 64 (by omega)
  have q2 := Wr.pk_lt x0 64 (by omega)
  have q3 := Wr.pk_lo x1 64 (by omega)
  have q4 := Wr.pk_lt x1 64 (by omega)
  have q5 := Wr.pk_lo y0 3 (by omega)
  have q6 := Wr.pk_lt y0 3 (by omega)
  have q7 := Wr.pk_lo y1 3 (by omega)
  have q8 := Wr.pk_lt y1 3 (by omega)
  obtain ⟨A, hA⟩ : ∃ A : Nat, Wr.pk x0 64 = (A : Int) := ⟨(Wr.pk x0 64).toNat, by omega⟩
  obtain ⟨B, hB⟩ : ∃ B : Nat, Wr.pk x1 64 = (B : Int) := ⟨(Wr.pk x1 64).toNat, by omega⟩
  obtain ⟨m1, hm1⟩ : ∃ m : Nat, Wr.pk y0 3 = (m : Int) := ⟨(Wr.pk y0 3).toNat, by omega⟩
  obtain ⟨m2, hm2⟩ : ∃ m : Nat, Wr.pk y1 3 = (m : Int) := ⟨(Wr.pk y1 3).toNat, by omega⟩
  rw [hA] at p1 q1 q2
  rw [hB] at p2 q3 q4
  rw [hm1] at p3 q5 q6
  rw [hm2] at p4 q7 q8
  have s1h := sq_at m1 (by omega)
  have s2h := sq_at m2 (by omega)
  have hsl := sq_len m1
  have htl := sq_len m2
  generalize sq m1 = s at *
  generalize sq m2 = t at *
  clear hA hB hm1 hm2 hv hx0 hx1 hy0 hy1 hT0
  go_enter Tryd.func9, Tryd.ntmps9
  go_upto_region 1 with (fail)
  obtain ⟨w0, hw0⟩ : ∃ W, W = (w.alloc (.cells #[.int .i64 x0, .int .i64 x1] 65)).alloc (.cells #[.int .i64 y0, .int .i64 y1] 65) := ⟨_, rfl⟩
  rw [← hw0]
  obtain ⟨bb, hcell⟩ := two_box w w0 _ _ _ _ hw0
  have cw0 := Lib.hid (show ∀ W, Below w0.heap.size w0 W → W.cell? ⟨w.heap.size, 0, none⟩ = some (.int .i64 x0) ∧ W.cell? ⟨w.heap.size, 1, none⟩ = some (.int .i64 x1) ∧ W.cell? ⟨w.heap.size + 1, 0, none⟩ = some (.int .i64 y0) ∧ W.cell? ⟨w.heap.size + 1, 1, none⟩ = some (.int .i64 y1) from fun W B => ⟨(hcell W B 0).1, (hcell W B 1).1, (hcell W B 0).2, (hcell W B 1).2⟩)
  clear hcell hw0
  have kw := Lib.hid bb
  clear bb
  have k0 := Lib.hid (Below.refl w0.heap.size w0)
  go_wp2_with fail
  with_reducible refine (cSane.out _ kw.out).mono ?_
  rintro e w1 ⟨rfl, b⟩
  replace kw := Lib.hid (kw.out.trans (b.mono kw.out.size))
  replace k0 := Lib.hid (k0.out.trans (b.mono k0.out.size))
  clear b
  go_wp2_with fail
  with_reducible refine (cMade.out _ kw.out).mono ?_
  rintro e w2 ⟨vl, L, rfl, ol, hmp, hll, b⟩
  replace kw := Lib.hid (kw.out.trans (b.mono kw.out.size))
  replace k0 := Lib.hid (k0.out.trans (b.mono k0.out.size))
  clear b
  obtain ⟨l1, l2, hlsh⟩ := (OwnG.SL eE_len ol).shape
  have fL := Lib.hid (fun W (B : Below w2.heap.size w2 W) => (OwnG.SL eE_len ol).below B)
  obtain ⟨nL, hnL⟩ : ∃ n, L.length = n := ⟨_, rfl⟩
  rw [hnL] at hlsh
  subst hlsh
  have hmp := Lib.hid hmp
  rename_i hmpo
  clear hmpo ol hnL hll
  have kL := Lib.hid (Below.refl w2.heap.size w2)
  obtain ⟨g0, g1, g2, g3⟩ := cw0.out w2 k0.out
  go_wp2_with fail
  with_reducible refine (p1.out _).mono ?_
  rintro e w' ⟨rfl, rfl⟩
  go_wp2_with fail
  with_reducible refine (p2.out _).mono ?_
  rintro e w' ⟨rfl, rfl⟩
  by_cases hAB : A = B
  · have t1 : ((A : Int) == (B : Int)) = true := by rw [hAB]; simp
    clear hAB
    go_wp2_with fail
    go_ret
    exact ⟨rfl, kw.out⟩
  have t1 : ((A : Int) == (B : Int)) = false := by rw [beq_eq_false_iff_ne]; omega
  clear g0 g1 g2 g3
  obtain ⟨g0, g1, g2, g3⟩ := cw0.out (w2.alloc (.cells #[.string ⟨#[]⟩, .string ⟨#[113]⟩, .string ⟨#[114, 115]⟩] 9)) (k0.out.alloc k0.out.size _)
  go_wp2_with fail
  with_reducible refine (p3.out _).mono ?_
  rintro e w' ⟨rfl, rfl⟩
  go_upto_region 9 with (fail)
  obtain ⟨w8, hw8⟩ : ∃ W, W = (w2.alloc (.cells #[.string ⟨#[]⟩, .string ⟨#[113]⟩, .string ⟨#[114, 115]⟩] 9)).alloc (.cells #[.int .i64 (A : Int), .string ⟨s.toArray⟩] 46) := ⟨_, rfl⟩
  rw [← hw8]
  obtain ⟨bb, hcell⟩ := two_box w2 w8 _ _ _ _ hw8
  have cw8 := Lib.hid (show ∀ W, Below w8.heap.size w8 W → W.cell? ⟨w2.heap.size + 1, 0, none⟩ = some (.int .i64 (A : Int)) ∧ W.cell? ⟨w2.heap.size + 1, 1, none⟩ = some (.string ⟨s.toArray⟩) from fun W B => ⟨(hcell W B 0).2, (hcell W B 1).2⟩)
  clear hcell hw8
  clear g0 g1 g2 g3
  replace kw := Lib.hid (kw.out.trans (bb.mono kw.out.size))
  replace k0 := Lib.hid (k0.out.trans (bb.mono k0.out.size))
  replace kL := Lib.hid (kL.out.trans (bb.mono kL.out.size))
  clear bb
  have k8 := Lib.hid (Below.refl w8.heap.size w8)
  obtain ⟨g0, g1, g2, g3⟩ := cw0.out (w8.alloc (.cells #[.string ⟨#[]⟩, .string ⟨#[113]⟩, .string ⟨#[114, 115]⟩] 9)) (k0.out.alloc k0.out.size _)
  go_wp2_with fail
  with_reducible refine (p4.out _).mono ?_
  rintro e w' ⟨rfl, rfl⟩
  go_upto_region 10 with (fail)
  obtain ⟨w9, hw9⟩ : ∃ W, W = (w8.alloc (.cells #[.string ⟨#[]⟩, .string ⟨#[113]⟩, .string ⟨#[114, 115]⟩] 9)).alloc (.cells #[.int .i64 (B : Int), .string ⟨t.toArray⟩] 46) := ⟨_, rfl⟩
  rw [← hw9]
  obtain ⟨bb, hcell⟩ := two_box w8 w9 _ _ _ _ hw9
  have cw9 := Lib.hid (show ∀ W, Below w9.heap.size w9 W → W.cell? ⟨w8.heap.size + 1, 0, none⟩ = some (.int .i64 (B : Int)) ∧ W.cell? ⟨w8.heap.size + 1, 1, none⟩ = some (.string ⟨t.toArray⟩) from fun W B => ⟨(hcell W B 0).2, (hcell W B 1).2⟩)
  clear hcell hw9
  clear g0 g1 g2 g3 p1 p2 p3 p4
  replace kw := Lib.hid (kw.out.trans (bb.mono kw.out.size))
  replace k0 := Lib.hid (k0.out.trans (bb.mono k0.out.size))
  replace kL := Lib.hid (kL.out.trans (bb.mono kL.out.size))
  replace k8 := Lib.hid (k8.out.trans (bb.mono k8.out.size))
  clear bb
  have k9 := Lib.hid (Below.refl w9.heap.size w9)
  obtain ⟨e0, e1⟩ := cw8.out w9 k8.out
  obtain ⟨e2, e3⟩ := cw9.out w9 k9.out
  go_upto_region 11 with (fail)
  have hboth := twoE w9 ((A : Int), s) ((B : Int), t)
  obtain ⟨wB, hwB⟩ : ∃ W, W = w9.alloc (.cells #[.int .i64 (A : Int), .string ⟨s.toArray⟩, .int .i64 (B : Int), .string ⟨t.toArray⟩] 46) := ⟨_, rfl⟩
  have bq : Below w9.heap.size w9 wB := by rw [hwB]; exact (Below.refl _ _).alloc (Nat.le_refl _) _
  have hboth : SE wB (.slice (some ⟨w9.heap.size, 0, none⟩) 2 2) [((A : Int), s), ((B : Int), t)] := by rw [hwB]; exact hboth
  rw [← hwB]
  clear hwB e0 e1 e2 e3
  replace kw := Lib.hid (kw.out.trans (bq.mono kw.out.size))
  replace k0 := Lib.hid (k0.out.trans (bq.mono k0.out.size))
  replace kL := Lib.hid (kL.out.trans (bq.mono kL.out.size))
  replace k8 := Lib.hid (k8.out.trans (bq.mono k8.out.size))
  replace k9 := Lib.hid (k9.out.trans (bq.mono k9.out.size))
  clear bq
  have cRt0 := Lib.hid (show ∀ W, Below w.heap.size w W → SE W (.slice l1 nL l2) L → Calls Tryd.prog 13 #[.slice l1 nL l2] W (RootPost (rootL L) 0 W) from fun W B' h => RootC L _ W hmp.out h (hT.out.below B'))
  have hmp1 := Lib.hid (putE_mp L A s hmp.out (by omega) (by omega) (by omega))
  have hmp2 := Lib.hid (putE_mp L B t hmp.out (by omega) (by omega) (by omega))
  have hmp12 := Lib.hid (putE_mp (putE L A s) B t hmp1.out (by omega) (by omega) (by omega))
  have hmp21 := Lib.hid (putE_mp (putE L B t) A s hmp2.out (by omega) (by omega) (by omega))
  obtain ⟨RL, hRL⟩ : ∃ R, Hid (R = rootL L) := ⟨_, rfl⟩
  obtain ⟨R1, hR1⟩ : ∃ R, Hid (R = rootL (putE L A s)) := ⟨_, rfl⟩
  obtain ⟨R2, hR2⟩ : ∃ R, Hid (R = rootL (putE L B t)) := ⟨_, rfl⟩
  obtain ⟨R12, hR12⟩ : ∃ R, Hid (R = rootL (putE (putE L A s) B t)) := ⟨_, rfl⟩
  have hR21 : Hid (R12 = rootL (putE (putE L B t) A s)) := by
    show _ = _
    rw [hR12.out]
    refine root_congr _ _ hmp12.out hmp21.out (fun k => ?_)
    rw [look2 L A B s t hmp.out hmp1.out (by omega) [((A : Int), s), ((B : Int), t)] (.inl rfl) k, look2 L B A t s hmp.out hmp2.out (by omega) [((A : Int), s), ((B : Int), t)] (.inr rfl) k]
  rw [← hRL.out] at cRt0
  have cRt := cRt0
  have hRR1 : (R12 == R12) = true := beq_self_eq_true _
  obtain ⟨M1, hM1⟩ : ∃ M, Hid (M = putE L A s) := ⟨_, rfl⟩
  obtain ⟨M2, hM2⟩ : ∃ M, Hid (M = putE L B t) := ⟨_, rfl⟩
  obtain ⟨V1, hV1⟩ : ∃ M, Hid (M = valsL M1 [(B : Int)]) := ⟨_, rfl⟩
  obtain ⟨P1, hP1⟩ : ∃ M, Hid (M = pathL M1 [(B : Int)]) := ⟨_, rfl⟩
  obtain ⟨V2, hV2⟩ : ∃ M, Hid (M = valsL M2 [(A : Int)]) := ⟨_, rfl⟩
  obtain ⟨P2, hP2⟩ : ∃ M, Hid (M = pathL M2 [(A : Int)]) := ⟨_, rfl⟩
  have hwpv : Hid (V1.length = 1) := by show _ = _; rw [hV1.out]; rfl
  have hwqv : Hid (V2.length = 1) := by show _ = _; rw [hV2.out]; rfl
  have cP1 := Lib.hid (show ∀ W, SE W (.slice l1 nL l2) L → Calls Tryd.prog 33 #[.slice l1 nL l2, .int .i64 (A : Int), .string ⟨s.toArray⟩] W (RowE M1 W) from fun W h => by rw [hM1.out]; exact Put_any _ L A s W h rfl (by have := Mp_len L hmp.out; omega))
  have cP2 := Lib.hid (show ∀ W, SE W (.slice l1 nL l2) L → Calls Tryd.prog 33 #[.slice l1 nL l2, .int .i64 (B : Int), .string ⟨t.toArray⟩] W (RowE M2 W) from fun W h => by rw [hM2.out]; exact Put_any _ L B t W h rfl (by have := Mp_len L hmp.out; omega))
  have cPr1 := Lib.hid (show ∀ v vk W, Below w.heap.size w W → SE W v M1 → SI W vk [(B : Int)] → Calls Tryd.prog 18 #[v, vk] W (PP [(B : Int)] V1 P1 W) from fun v vk W B' h1 h2 => by rw [hV1.out, hP1.out]; exact ProveC M1 _ v vk W (by rw [hM1.out]; exact hmp1.out) (asc1 _ (by omega) (by omega)) h1 h2 (hT.out.below B'))
  have cPr2 := Lib.hid (show ∀ v vk W, Below w.heap.size w W → SE W v M2 → SI W vk [(A : Int)] → Calls Tryd.prog 18 #[v, vk] W (PP [(A : Int)] V2 P2 W) from fun v vk W B' h1 h2 => by rw [hV2.out, hP2.out]; exact ProveC M2 _ v vk W (by rw [hM2.out]; exact hmp2.out) (asc1 _ (by omega) (by omega)) h1 h2 (hT.out.below B'))
  have c3 := Lib.hid (show ∀ vo vc W, Below w.heap.size w W → OpV W vo [(B : Int)] V1 P1 → SE W vc [((B : Int), t)] → Calls Tryd.prog 27 #[.string ⟨R1.toArray⟩, vo, vc] W fun e w' => e = .returned (.tuple #[.string ⟨R12.toArray⟩, .bool true]) ∧ Below W.heap.size W w' from fun vo vc W B' h1 h2 => by
    rw [hV1.out, hP1.out, hM1.out] at h1; rw [hR1.out, hR12.out]
    exact UpdC (putE L A s) (putE (putE L A s) B t) _ [((B : Int), t)] vo vc W hmp1.out hmp12.out (asc1 _ (by omega) (by omega)) (chg1 _ _ (by omega) (by omega) (by omega)) (by simp) (look1 _ B t hmp1.out) h1 h2 (hT.out.below B'))
  have c4 := Lib.hid (show ∀ vo vc W, Below w.heap.size w W → OpV W vo [(A : Int)] V2 P2 → SE W vc [((A : Int), s)] → Calls Tryd.prog 27 #[.string ⟨R2.toArray⟩, vo, vc] W fun e w' => e = .returned (.tuple #[.string ⟨R12.toArray⟩, .bool true]) ∧ Below W.heap.size W w' from fun vo vc W B' h1 h2 => by
    rw [hV2.out, hP2.out, hM2.out] at h1; rw [hR2.out, hR21.out]
    exact UpdC (putE L B t) (putE (putE L B t) A s) _ [((A : Int), s)] vo vc W hmp2.out hmp21.out (asc1 _ (by omega) (by omega)) (chg1 _ _ (by omega) (by omega) (by omega)) (by simp) (look1 _ A s hmp2.out) h1 h2 (hT.out.below B'))
  by_cases hlt : A < B
  · have t2 : ¬ (B : Int) < (A : Int) := by omega
    have fB := Lib.hid (fun W (B' : Below wB.heap.size wB W) => hboth.below B')
    have kB := Lib.hid (Below.refl wB.heap.size wB)
    clear hboth
    obtain ⟨VV, hVV⟩ : ∃ V, Hid (V = valsL L [(A : Int), (B : Int)]) := ⟨_, rfl⟩
    obtain ⟨PV, hPV⟩ : ∃ V, Hid (V = pathL L [(A : Int), (B : Int)]) := ⟨_, rfl⟩
    have hwov : Hid (VV.length = 2) := by show _ = _; rw [hVV.out]; rfl
    have hk2 := asc2 (A : Int) (B : Int) (by omega) (by omega) (by omega)
    have cPr := Lib.hid (show ∀ vk W, Below w.heap.size w W → SE W (.slice l1 nL l2) L → SI W vk [(A : Int), (B : Int)] → Calls Tryd.prog 18 #[.slice l1 nL l2, vk] W (PP [(A : Int), (B : Int)] VV PV W) from fun vk W B' h1 h2 => by rw [hVV.out, hPV.out]; exact ProveC L _ _ vk W hmp.out hk2 h1 h2 (hT.out.below B'))
    have cA := Lib.hid (show ∀ vo vc W, Below w.heap.size w W → OpV W vo [(A : Int), (B : Int)] VV PV → SE W vc [((A : Int), s), ((B : Int), t)] → Calls Tryd.prog 27 #[.string ⟨RL.toArray⟩, vo, vc] W fun e w' => e = .returned (.tuple #[.string ⟨R12.toArray⟩, .bool true]) ∧ Below W.heap.size W w' from fun vo vc W B' h1 h2 => by
      rw [hVV.out, hPV.out] at h1; rw [hRL.out, hR12.out]
      exact UpdC L (putE (putE L A s) B t) _ [((A : Int), s), ((B : Int), t)] vo vc W hmp.out hmp12.out hk2 (chg2 _ _ _ _ (by omega) (by omega) (by omega) (by omega) (by omega)) (by simp) (look2 L A B s t hmp.out hmp1.out (by omega) _ (by simp)) h1 h2 (hT.out.below B'))
    have c1 := Lib.hid (show ∀ vo vc W, Below w.heap.size w W → OpV W vo [(A : Int), (B : Int)] VV PV → SE W vc [((A : Int), s)] → Calls Tryd.prog 27 #[.string ⟨RL.toArray⟩, vo, vc] W fun e w' => e = .returned (.tuple #[.string ⟨R1.toArray⟩, .bool true]) ∧ Below W.heap.size W w' from fun vo vc W B' h1 h2 => by
      rw [hVV.out, hPV.out] at h1; rw [hRL.out, hR1.out]
      exact UpdC L (putE L A s) _ [((A : Int), s)] vo vc W hmp.out hmp1.out hk2 (chg1 _ _ (by omega) (by omega) (by omega)) (by simp) (look1 L A s hmp.out) h1 h2 (hT.out.below B'))
    have c2 := Lib.hid (show ∀ vo vc W, Below w.heap.size w W → OpV W vo [(A : Int), (B : Int)] VV PV → SE W vc [((B : Int), t)] → Calls Tryd.prog 27 #[.string ⟨RL.toArray⟩, vo, vc] W fun e w' => e = .returned (.tuple #[.string ⟨R2.toArray⟩, .bool true]) ∧ Below W.heap.size W w' from fun vo vc W B' h1 h2 => by
      rw [hVV.out, hPV.out] at h1; rw [hRL.out, hR2.out]
      exact UpdC L (putE L B t) _ [((B : Int), t)] vo vc W hmp.out hmp2.out hk2 (chg1 _ _ (by omega) (by omega) (by omega)) (by simp) (look1 L B t hmp.out) h1 h2 (hT.out.below B'))
    have hmin : ∀ ts ty W, (Builtin.min_ ts ty #[.int .i64 (A : Int), .int .i64 (B : Int)]).run Tryd.prog W = .ok (.int .i64 (A : Int)) W := fun ts ty W => by rw [run_min_int2]; congr 2; split <;> omega
    have hmax : ∀ ts ty W, (Builtin.max_ ts ty #[.int .i64 (A : Int), .int .i64 (B : Int)]).run Tryd.prog W = .ok (.int .i64 (B : Int)) W := fun ts ty W => by rw [run_max_int2]; congr 2; split <;> omega
    clear hk2
    go_wp2_with fail
    with_reducible refine (cRt.out _ kw.out (fL.out _ kL.out)).mono ?_
    rintro e w13 ⟨rfl, b⟩
    replace kw := Lib.hid (kw.out.trans (b.mono kw.out.size))
    replace k0 := Lib.hid (k0.out.trans (b.mono k0.out.size))
    replace kL := Lib.hid (kL.out.trans (b.mono kL.out.size))
    replace k8 := Lib.hid (k8.out.trans (b.mono k8.out.size))
    replace k9 := Lib.hid (k9.out.trans (b.mono k9.out.size))
    replace kB := Lib.hid (kB.out.trans (b.mono kB.out.size))
    clear b
    go_wp2_with fail
    have bq : Below w13.heap.size w13 (w13.alloc (.cells #[.int .i64 (A : Int), .int .i64 (B : Int)] 3)) := (Below.refl _ _).alloc (Nat.le_refl _) _
    replace kw := Lib.hid (kw.out.trans (bq.mono kw.out.size))
    replace k0 := Lib.hid (k0.out.trans (bq.mono k0.out.size))
    replace kL := Lib.hid (kL.out.trans (bq.mono kL.out.size))
    replace k8 := Lib.hid (k8.out.trans (bq.mono k8.out.size))
    replace k9 := Lib.hid (k9.out.trans (bq.mono k9.out.size))
    replace kB := Lib.hid (kB.out.trans (bq.mono kB.out.size))
    clear bq
    with_reducible refine (cPr.out _ _ kw.out (fL.out _ kL.out) (twoI w13 _ _)).mono ?_
    rintro e w14 ⟨vo, rfl, ho, b⟩
    replace kw := Lib.hid (kw.out.trans (b.mono kw.out.size))
    replace k0 := Lib.hid (k0.out.trans (b.mono k0.out.size))
    replace kL := Lib.hid (kL.out.trans (b.mono kL.out.size))
    replace k8 := Lib.hid (k8.out.trans (b.mono k8.out.size))
    replace k9 := Lib.hid (k9.out.trans (b.mono k9.out.size))
    replace kB := Lib.hid (kB.out.trans (b.mono kB.out.size))
    clear b
    obtain ⟨wop, hwop⟩ : ∃ n, Hid (PV.length = n) := ⟨_, rfl⟩
    obtain ⟨wo1, wo2, wo3, wo4, wo5, wo6, rfl⟩ := ho.form 2 2 wop rfl hwov.out hwop.out
    have hoh := Lib.hid ho
    clear ho
    go_upto_region 15 with (fail)
    obtain ⟨wo, hwo⟩ : ∃ W, W = w14.alloc (.cells #[.slice wo1 2 wo2, .slice wo3 2 wo4, .slice wo5 wop wo6] 37) := ⟨_, rfl⟩
    rw [← hwo]
    obtain ⟨bb, zz_, hcell⟩ := box_world w14 wo _ _ _ 37 hwo
    have owo := Lib.hid (fun W (B : Below wo.heap.size wo W) => (hoh.out.below bb).below B)
    have cwo := Lib.hid hcell
    clear hcell hwo zz_ hoh
    replace kw := Lib.hid (kw.out.trans (bb.mono kw.out.size))
    replace k0 := Lib.hid (k0.out.trans (bb.mono k0.out.size))
    replace kL := Lib.hid (kL.out.trans (bb.mono kL.out.size))
    replace k8 := Lib.hid (k8.out.trans (bb.mono k8.out.size))
    replace k9 := Lib.hid (k9.out.trans (bb.mono k9.out.size))
    replace kB := Lib.hid (kB.out.trans (bb.mono kB.out.size))
    clear bb
    have ko := Lib.hid (Below.refl wo.heap.size wo)
    obtain ⟨g0, g1, g2⟩ := cwo.out wo ko.out
    go_wp2_with fail
    with_reducible refine (cA.out _ _ _ kw.out (owo.out _ ko.out) (fB.out _ kB.out)).mono ?_
    rintro e w15 ⟨rfl, b⟩
    clear g0 g1 g2
    replace kw := Lib.hid (kw.out.trans (b.mono kw.out.size))
    replace k0 := Lib.hid (k0.out.trans (b.mono k0.out.size))
    replace kL := Lib.hid (kL.out.trans (b.mono kL.out.size))
    replace k8 := Lib.hid (k8.out.trans (b.mono k8.out.size))
    replace k9 := Lib.hid (k9.out.trans (b.mono k9.out.size))
    replace kB := Lib.hid (kB.out.trans (b.mono kB.out.size))
    replace ko := Lib.hid (ko.out.trans (b.mono ko.out.size))
    clear b
    obtain ⟨g0, g1, g2⟩ := cwo.out w15 ko.out
    obtain ⟨e0, e1⟩ := cw8.out w15 k8.out
    go_wp2_with fail
    have bq : Below w15.heap.size w15 (w15.alloc (.cells #[.int .i64 (A : Int), .string ⟨s.toArray⟩] 46)) := (Below.refl _ _).alloc (Nat.le_refl _) _
    replace kw := Lib.hid (kw.out.trans (bq.mono kw.out.size))
    replace k0 := Lib.hid (k0.out.trans (bq.mono k0.out.size))
    replace kL := Lib.hid (kL.out.trans (bq.mono kL.out.size))
    replace k8 := Lib.hid (k8.out.trans (bq.mono k8.out.size))
    replace k9 := Lib.hid (k9.out.trans (bq.mono k9.out.size))
    replace kB := Lib.hid (kB.out.trans (bq.mono kB.out.size))
    replace ko := Lib.hid (ko.out.trans (bq.mono ko.out.size))
    clear bq
    have hE1 := oneE w15 ((A : Int), s)
    with_reducible refine (c1.out _ _ _ kw.out (owo.out _ ko.out) hE1).mono ?_
    rintro e w16 ⟨rfl, b⟩
    clear g0 g1 g2 e0 e1 hE1
    replace kw := Lib.hid (kw.out.trans (b.mono kw.out.size))
    replace k0 := Lib.hid (k0.out.trans (b.mono k0.out.size))
    replace kL := Lib.hid (kL.out.trans (b.mono kL.out.size))
    replace k8 := Lib.hid (k8.out.trans (b.mono k8.out.size))
    replace k9 := Lib.hid (k9.out.trans (b.mono k9.out.size))
    replace kB := Lib.hid (kB.out.trans (b.mono kB.out.size))
    replace ko := Lib.hid (ko.out.trans (b.mono ko.out.size))
    clear b
    obtain ⟨g0, g1, g2⟩ := cwo.out w16 ko.out
    obtain ⟨e0, e1⟩ := cw9.out w16 k9.out
    go_wp2_with fail
    have bq : Below w16.heap.size w16 (w16.alloc (.cells #[.int .i64 (B : Int), .string ⟨t.toArray⟩] 46)) := (Below.refl _ _).alloc (Nat.le_refl _) _
    replace kw := Lib.hid (kw.out.trans (bq.mono kw.out.size))
    replace k0 := Lib.hid (k0.out.trans (bq.mono k0.out.size))
    replace kL := Lib.hid (kL.out.trans (bq.mono kL.out.size))
    replace k8 := Lib.hid (k8.out.trans (bq.mono k8.out.size))
    replace k9 := Lib.hid (k9.out.trans (bq.mono k9.out.size))
    replace kB := Lib.hid (kB.out.trans (bq.mono kB.out.size))
    replace ko := Lib.hid (ko.out.trans (bq.mono ko.out.size))
    clear bq
    have hE1 := oneE w16 ((B : Int), t)
    with_reducible refine (c2.out _ _ _ kw.out (owo.out _ ko.out) hE1).mono ?_
    rintro e w17 ⟨rfl, b⟩
    clear g0 g1 g2 e0 e1 hE1
    replace kw := Lib.hid (kw.out.trans (b.mono kw.out.size))
    replace k0 := Lib.hid (k0.out.trans (b.mono k0.out.size))
    replace kL := Lib.hid (kL.out.trans (b.mono kL.out.size))
    replace k8 := Lib.hid (k8.out.trans (b.mono k8.out.size))
    replace k9 := Lib.hid (k9.out.trans (b.mono k9.out.size))
    replace kB := Lib.hid (kB.out.trans (b.mono kB.out.size))
    replace ko := Lib.hid (ko.out.trans (b.mono ko.out.size))
    clear b
    obtain ⟨e0, e1⟩ := cw8.out w17 k8.out
    go_wp2_with fail
    with_reducible refine (cP1.out _ (fL.out _ kL.out)).mono ?_
    rintro e w18 ⟨vm, rfl, om, b⟩
    clear e0 e1
    replace kw := Lib.hid (kw.out.trans (b.mono kw.out.size))
    replace k0 := Lib.hid (k0.out.trans (b.mono k0.out.size))
    replace kL := Lib.hid (kL.out.trans (b.mono kL.out.size))
    replace k8 := Lib.hid (k8.out.trans (b.mono k8.out.size))
    replace k9 := Lib.hid (k9.out.trans (b.mono k9.out.size))
    replace kB := Lib.hid (kB.out.trans (b.mono kB.out.size))
    replace ko := Lib.hid (ko.out.trans (b.mono ko.out.size))
    clear b
    have fM := Lib.hid (OwnG.SL eE_len om)
    clear om
    go_wp2_with fail
    have bq : Below w18.heap.size w18 (w18.alloc (.cells #[.int .i64 (B : Int)] 3)) := (Below.refl _ _).alloc (Nat.le_refl _) _
    have fM2 := Lib.hid (fM.out.below bq)
    clear fM
    replace kw := Lib.hid (kw.out.trans (bq.mono kw.out.size))
    replace k0 := Lib.hid (k0.out.trans (bq.mono k0.out.size))
    replace kL := Lib.hid (kL.out.trans (bq.mono kL.out.size))
    replace k8 := Lib.hid (k8.out.trans (bq.mono k8.out.size))
    replace k9 := Lib.hid (k9.out.trans (bq.mono k9.out.size))
    replace kB := Lib.hid (kB.out.trans (bq.mono kB.out.size))
    replace ko := Lib.hid (ko.out.trans (bq.mono ko.out.size))
    clear bq
    with_reducible refine (cPr1.out _ _ _ kw.out fM2.out (oneI w18 _)).mono ?_
    rintro e w19 ⟨vo, rfl, ho, b⟩
    clear fM2
    replace kw := Lib.hid (kw.out.trans (b.mono kw.out.size))
    replace k0 := Lib.hid (k0.out.trans (b.mono k0.out.size))
    replace kL := Lib.hid (kL.out.trans (b.mono kL.out.size))
    replace k8 := Lib.hid (k8.out.trans (b.mono k8.out.size))
    replace k9 := Lib.hid (k9.out.trans (b.mono k9.out.size))
    replace kB := Lib.hid (kB.out.trans (b.mono kB.out.size))
    replace ko := Lib.hid (ko.out.trans (b.mono ko.out.size))
    clear b
    obtain ⟨wpp, hwpp⟩ : ∃ n, Hid (P1.length = n) := ⟨_, rfl⟩
    obtain ⟨wp1, wp2, wp3, wp4, wp5, wp6, rfl⟩ := ho.form 1 1 wpp rfl hwpv.out hwpp.out
    have hoh := Lib.hid ho
    clear ho
    go_upto_region 19 with (fail)
    obtain ⟨wp, hwp⟩ : ∃ W, W = w19.alloc (.cells #[.slice wp1 1 wp2, .slice wp3 1 wp4, .slice wp5 wpp wp6] 37) := ⟨_, rfl⟩
    rw [← hwp]
    obtain ⟨bb, zz_, hcell⟩ := box_world w19 wp _ _ _ 37 hwp
    have owp := Lib.hid (fun W (B : Below wp.heap.size wp W) => (hoh.out.below bb).below B)
    have cwp := Lib.hid hcell
    clear hcell hwp zz_ hoh
    replace kw := Lib.hid (kw.out.trans (bb.mono kw.out.size))
    replace k0 := Lib.hid (k0.out.trans (bb.mono k0.out.size))
    replace kL := Lib.hid (kL.out.trans (bb.mono kL.out.size))
    replace k8 := Lib.hid (k8.out.trans (bb.mono k8.out.size))
    replace k9 := Lib.hid (k9.out.trans (bb.mono k9.out.size))
    replace kB := Lib.hid (kB.out.trans (bb.mono kB.out.size))
    replace ko := Lib.hid (ko.out.trans (bb.mono ko.out.size))
    clear bb
    have kp := Lib.hid (Below.refl wp.heap.size wp)
    obtain ⟨e0, e1⟩ := cw9.out wp k9.out
    go_wp2_with fail
    with_reducible refine (cP2.out _ (fL.out _ kL.out)).mono ?_
    rintro e w20 ⟨vm, rfl, om, b⟩
    clear e0 e1
    replace kw := Lib.hid (kw.out.trans (b.mono kw.out.size))
    replace k0 := Lib.hid (k0.out.trans (b.mono k0.out.size))
    replace kL := Lib.hid (kL.out.trans (b.mono kL.out.size))
    replace k8 := Lib.hid (k8.out.trans (b.mono k8.out.size))
    replace k9 := Lib.hid (k9.out.trans (b.mono k9.out.size))
    replace kB := Lib.hid (kB.out.trans (b.mono kB.out.size))
    replace ko := Lib.hid (ko.out.trans (b.mono ko.out.size))
    replace kp := Lib.hid (kp.out.trans (b.mono kp.out.size))
    clear b
    have fM := Lib.hid (OwnG.SL eE_len om)
    clear om
    go_wp2_with fail
    have bq : Below w20.heap.size w20 (w20.alloc (.cells #[.int .i64 (A : Int)] 3)) := (Below.refl _ _).alloc (Nat.le_refl _) _
    have fM2 := Lib.hid (fM.out.below bq)
    clear fM
    replace kw := Lib.hid (kw.out.trans (bq.mono kw.out.size))
    replace k0 := Lib.hid (k0.out.trans (bq.mono k0.out.size))
    replace kL := Lib.hid (kL.out.trans (bq.mono kL.out.size))
    replace k8 := Lib.hid (k8.out.trans (bq.mono k8.out.size))
    replace k9 := Lib.hid (k9.out.trans (bq.mono k9.out.size))
    replace kB := Lib.hid (kB.out.trans (bq.mono kB.out.size))
    replace ko := Lib.hid (ko.out.trans (bq.mono ko.out.size))
    replace kp := Lib.hid (kp.out.trans (bq.mono kp.out.size))
    clear bq
    with_reducible refine (cPr2.out _ _ _ kw.out fM2.out (oneI w20 _)).mono ?_
    rintro e w21 ⟨vo, rfl, ho, b⟩
    clear fM2
    replace kw := Lib.hid (kw.out.trans (b.mono kw.out.size))
    replace k0 := Lib.hid (k0.out.trans (b.mono k0.out.size))
    replace kL := Lib.hid (kL.out.trans (b.mono kL.out.size))
    replace k8 := Lib.hid (k8.out.trans (b.mono k8.out.size))
    replace k9 := Lib.hid (k9.out.trans (b.mono k9.out.size))
    replace kB := Lib.hid (kB.out.trans (b.mono kB.out.size))
    replace ko := Lib.hid (ko.out.trans (b.mono ko.out.size))
    replace kp := Lib.hid (kp.out.trans (b.mono kp.out.size))
    clear b
    obtain ⟨wqp, hwqp⟩ : ∃ n, Hid (P2.length = n) := ⟨_, rfl⟩
    obtain ⟨wq1, wq2, wq3, wq4, wq5, wq6, rfl⟩ := ho.form 1 1 wqp rfl hwqv.out hwqp.out
    have hoh := Lib.hid ho
    clear ho
    go_upto_region 20 with (fail)
    obtain ⟨wq, hwq⟩ : ∃ W, W = w21.alloc (.cells #[.slice wq1 1 wq2, .slice wq3 1 wq4, .slice wq5 wqp wq6] 37) := ⟨_, rfl⟩
    rw [← hwq]
    obtain ⟨bb, zz_, hcell⟩ := box_world w21 wq _ _ _ 37 hwq
    have owq := Lib.hid (fun W (B : Below wq.heap.size wq W) => (hoh.out.below bb).below B)
    have cwq := Lib.hid hcell
    clear hcell hwq zz_ hoh
    replace kw := Lib.hid (kw.out.trans (bb.mono kw.out.size))
    replace k0 := Lib.hid (k0.out.trans (bb.mono k0.out.size))
    replace kL := Lib.hid (kL.out.trans (bb.mono kL.out.size))
    replace k8 := Lib.hid (k8.out.trans (bb.mono k8.out.size))
    replace k9 := Lib.hid (k9.out.trans (bb.mono k9.out.size))
    replace kB := Lib.hid (kB.out.trans (bb.mono kB.out.size))
    replace ko := Lib.hid (ko.out.trans (bb.mono ko.out.size))
    replace kp := Lib.hid (kp.out.trans (bb.mono kp.out.size))
    clear bb
    have kq := Lib.hid (Below.refl wq.heap.size wq)
    obtain ⟨g0, g1, g2⟩ := cwp.out wq kp.out
    obtain ⟨e0, e1⟩ := cw9.out wq k9.out
    go_wp2_with fail
    have bq : Below wq.heap.size wq (wq.alloc (.cells #[.int .i64 (B : Int), .string ⟨t.toArray⟩] 46)) := (Below.refl _ _).alloc (Nat.le_refl _) _
    replace kw := Lib.hid (kw.out.trans (bq.mono kw.out.size))
    replace k0 := Lib.hid (k0.out.trans (bq.mono k0.out.size))
    replace kL := Lib.hid (kL.out.trans (bq.mono kL.out.size))
    replace k8 := Lib.hid (k8.out.trans (bq.mono k8.out.size))
    replace k9 := Lib.hid (k9.out.trans (bq.mono k9.out.size))
    replace kB := Lib.hid (kB.out.trans (bq.mono kB.out.size))
    replace ko := Lib.hid (ko.out.trans (bq.mono ko.out.size))
    replace kp := Lib.hid (kp.out.trans (bq.mono kp.out.size))
    replace kq := Lib.hid (kq.out.trans (bq.mono kq.out.size))
    clear bq
    have hE1 := oneE wq ((B : Int), t)
    with_reducible refine (c3.out _ _ _ kw.out (owp.out _ kp.out) hE1).mono ?_
    rintro e w22 ⟨rfl, b⟩
    clear g0 g1 g2 e0 e1 hE1
    replace kw := Lib.hid (kw.out.trans (b.mono kw.out.size))
    replace k0 := Lib.hid (k0.out.trans (b.mono k0.out.size))
    replace kL := Lib.hid (kL.out.trans (b.mono kL.out.size))
    replace k8 := Lib.hid (k8.out.trans (b.mono k8.out.size))
    replace k9 := Lib.hid (k9.out.trans (b.mono k9.out.size))
    replace kB := Lib.hid (kB.out.trans (b.mono kB.out.size))
    replace ko := Lib.hid (ko.out.trans (b.mono ko.out.size))
    replace kp := Lib.hid (kp.out.trans (b.mono kp.out.size))
    replace kq := Lib.hid (kq.out.trans (b.mono kq.out.size))
    clear b
    obtain ⟨g0, g1, g2⟩ := cwq.out w22 kq.out
    obtain ⟨e0, e1⟩ := cw8.out w22 k8.out
    go_wp2_with fail
    have bq : Below w22.heap.size w22 (w22.alloc (.cells #[.int .i64 (A : Int), .string ⟨s.toArray⟩] 46)) := (Below.refl _ _).alloc (Nat.le_refl _) _
    replace kw := Lib.hid (kw.out.trans (bq.mono kw.out.size))
    replace k0 := Lib.hid (k0.out.trans (bq.mono k0.out.size))
    replace kL := Lib.hid (kL.out.trans (bq.mono kL.out.size))
    replace k8 := Lib.hid (k8.out.trans (bq.mono k8.out.size))
    replace k9 := Lib.hid (k9.out.trans (bq.mono k9.out.size))
    replace kB := Lib.hid (kB.out.trans (bq.mono kB.out.size))
    replace ko := Lib.hid (ko.out.trans (bq.mono ko.out.size))
    replace kp := Lib.hid (kp.out.trans (bq.mono kp.out.size))
    replace kq := Lib.hid (kq.out.trans (bq.mono kq.out.size))
    clear bq
    have hE1 := oneE w22 ((A : Int), s)
    with_reducible refine (c4.out _ _ _ kw.out (owq.out _ kq.out) hE1).mono ?_
    rintro e w23 ⟨rfl, b⟩
    clear g0 g1 g2 e0 e1 hE1
    replace kw := Lib.hid (kw.out.trans (b.mono kw.out.size))
    replace k0 := Lib.hid (k0.out.trans (b.mono k0.out.size))
    replace kL := Lib.hid (kL.out.trans (b.mono kL.out.size))
    replace k8 := Lib.hid (k8.out.trans (b.mono k8.out.size))
    replace k9 := Lib.hid (k9.out.trans (b.mono k9.out.size))
    replace kB := Lib.hid (kB.out.trans (b.mono kB.out.size))
    replace ko := Lib.hid (ko.out.trans (b.mono ko.out.size))
    replace kp := Lib.hid (kp.out.trans (b.mono kp.out.size))
    replace kq := Lib.hid (kq.out.trans (b.mono kq.out.size))
    clear b
    go_wp2_with fail
    go_ret
    exact ⟨rfl, kw.out⟩
  · have t2 : (B : Int) < (A : Int) := by omega
    obtain ⟨e0, e1⟩ := cw8.out wB k8.out
    obtain ⟨e2, e3⟩ := cw9.out wB k9.out
    go_upto_region 13 with (fail)
    have hb2 := twoE wB ((B : Int), t) ((A : Int), s)
    obtain ⟨wC, hwC⟩ : ∃ W, W = wB.alloc (.cells #[.int .i64 (B : Int), .string ⟨t.toArray⟩, .int .i64 (A : Int), .string ⟨s.toArray⟩] 46) := ⟨_, rfl⟩
    have bq : Below wB.heap.size wB wC := by rw [hwC]; exact (Below.refl _ _).alloc (Nat.le_refl _) _
    have hb2 : SE wC (.slice (some ⟨wB.heap.size, 0, none⟩) 2 2) [((B : Int), t), ((A : Int), s)] := by rw [hwC]; exact hb2
    rw [← hwC]
    clear hwC e0 e1 e2 e3 hboth
    have fB := Lib.hid (fun W (B' : Below wC.heap.size wC W) => hb2.below B')
    replace kw := Lib.hid (kw.out.trans (bq.mono kw.out.size))
    replace k0 := Lib.hid (k0.out.trans (bq.mono k0.out.size))
    replace kL := Lib.hid (kL.out.trans (bq.mono kL.out.size))
    replace k8 := Lib.hid (k8.out.trans (bq.mono k8.out.size))
    replace k9 := Lib.hid (k9.out.trans (bq.mono k9.out.size))
    clear bq
    have kB := Lib.hid (Below.refl wC.heap.size wC)
    clear hb2
    obtain ⟨VV, hVV⟩ : ∃ V, Hid (V = valsL L [(B : Int), (A : Int)]) := ⟨_, rfl⟩
    obtain ⟨PV, hPV⟩ : ∃ V, Hid (V = pathL L [(B : Int), (A : Int)]) := ⟨_, rfl⟩
    have hwov : Hid (VV.length = 2) := by show _ = _; rw [hVV.out]; rfl
    have hk2 := asc2 (B : Int) (A : Int) (by omega) (by omega) (by omega)
    have cPr := Lib.hid (show ∀ vk W, Below w.heap.size w W → SE W (.slice l1 nL l2) L → SI W vk [(B : Int), (A : Int)] → Calls Tryd.prog 18 #[.slice l1 nL l2, vk] W (PP [(B : Int), (A : Int)] VV PV W) from fun vk W B' h1 h2 => by rw [hVV.out, hPV.out]; exact ProveC L _ _ vk W hmp.out hk2 h1 h2 (hT.out.below B'))
    have cA := Lib.hid (show ∀ vo vc W, Below w.heap.size w W → OpV W vo [(B : Int), (A : Int)] VV PV → SE W vc [((B : Int), t), ((A : Int), s)] → Calls Tryd.prog 27 #[.string ⟨RL.toArray⟩, vo, vc] W fun e w' => e = .returned (.tuple #[.string ⟨R12.toArray⟩, .bool true]) ∧ Below W.heap.size W w' from fun vo vc W B' h1 h2 => by
      rw [hVV.out, hPV.out] at h1; rw [hRL.out, hR12.out]
      exact UpdC L (putE (putE L A s) B t) _ [((B : Int), t), ((A : Int), s)] vo vc W hmp.out hmp12.out hk2 (chg2 _ _ _ _ (by omega) (by omega) (by omega) (by omega) (by omega)) (by simp) (look2 L A B s t hmp.out hmp1.out (by omega) _ (by simp)) h1 h2 (hT.out.below B'))
    have c1 := Lib.hid (show ∀ vo vc W, Below w.heap.size w W → OpV W vo [(B : Int), (A : Int)] VV PV → SE W vc [((A : Int), s)] → Calls Tryd.prog 27 #[.string ⟨RL.toArray⟩, vo, vc] W fun e w' => e = .returned (.tuple #[.string ⟨R1.toArray⟩, .bool true]) ∧ Below W.heap.size W w' from fun vo vc W B' h1 h2 => by
      rw [hVV.out, hPV.out] at h1; rw [hRL.out, hR1.out]
      exact UpdC L (putE L A s) _ [((A : Int), s)] vo vc W hmp.out hmp1.out hk2 (chg1 _ _ (by omega) (by omega) (by omega)) (by simp) (look1 L A s hmp.out) h1 h2 (hT.out.below B'))
    have c2 := Lib.hid (show ∀ vo vc W, Below w.heap.size w W → OpV W vo [(B : Int), (A : Int)] VV PV → SE W vc [((B : Int), t)] → Calls Tryd.prog 27 #[.string ⟨RL.toArray⟩, vo, vc] W fun e w' => e = .returned (.tuple #[.string ⟨R2.toArray⟩, .bool true]) ∧ Below W.heap.size W w' from fun vo vc W B' h1 h2 => by
      rw [hVV.out, hPV.out] at h1; rw [hRL.out, hR2.out]
      exact UpdC L (putE L B t) _ [((B : Int), t)] vo vc W hmp.out hmp2.out hk2 (chg1 _ _ (by omega) (by omega) (by omega)) (by simp) (look1 L B t hmp.out) h1 h2 (hT.out.below B'))
    have hmin : ∀ ts ty W, (Builtin.min_ ts ty #[.int .i64 (A : Int), .int .i64 (B : Int)]).run Tryd.prog W = .ok (.int .i64 (B : Int)) W := fun ts ty W => by rw [run_min_int2]; congr 2; split <;> omega
    have hmax : ∀ ts ty W, (Builtin.max_ ts ty #[.int .i64 (A : Int), .int .i64 (B : Int)]).run Tryd.prog W = .ok (.int .i64 (A : Int)) W := fun ts ty W => by rw [run_max_int2]; congr 2; split <;> omega
    clear hk2
    go_wp2_with fail
    with_reducible refine (cRt.out _ kw.out (fL.out _ kL.out)).mono ?_
    rintro e w13 ⟨rfl, b⟩
    replace kw := Lib.hid (kw.out.trans (b.mono kw.out.size))
    replace k0 := Lib.hid (k0.out.trans (b.mono k0.out.size))
    replace kL := Lib.hid (kL.out.trans (b.mono kL.out.size))
    replace k8 := Lib.hid (k8.out.trans (b.mono k8.out.size))
    replace k9 := Lib.hid (k9.out.trans (b.mono k9.out.size))
    replace kB := Lib.hid (kB.out.trans (b.mono kB.out.size))
    clear b
    go_wp2_with fail
    have bq : Below w13.heap.size w13 (w13.alloc (.cells #[.int .i64 (B : Int), .int .i64 (A : Int)] 3)) := (Below.refl _ _).alloc (Nat.le_refl _) _
    replace kw := Lib.hid (kw.out.trans (bq.mono kw.out.size))
    replace k0 := Lib.hid (k0.out.trans (bq.mono k0.out.size))
    replace kL := Lib.hid (kL.out.trans (bq.mono kL.out.size))
    replace k8 := Lib.hid (k8.out.trans (bq.mono k8.out.size))
    replace k9 := Lib.hid (k9.out.trans (bq.mono k9.out.size))
    replace kB := Lib.hid (kB.out.trans (bq.mono kB.out.size))
    clear bq
    with_reducible refine (cPr.out _ _ kw.out (fL.out _ kL.out) (twoI w13 _ _)).mono ?_
    rintro e w14 ⟨vo, rfl, ho, b⟩
    replace kw := Lib.hid (kw.out.trans (b.mono kw.out.size))
    replace k0 := Lib.hid (k0.out.trans (b.mono k0.out.size))
    replace kL := Lib.hid (kL.out.trans (b.mono kL.out.size))
    replace k8 := Lib.hid (k8.out.trans (b.mono k8.out.size))
    replace k9 := Lib.hid (k9.out.trans (b.mono k9.out.size))
    replace kB := Lib.hid (kB.out.trans (b.mono kB.out.size))
    clear b
    obtain ⟨wop, hwop⟩ : ∃ n, Hid (PV.length = n) := ⟨_, rfl⟩
    obtain ⟨wo1, wo2, wo3, wo4, wo5, wo6, rfl⟩ := ho.form 2 2 wop rfl hwov.out hwop.out
    have hoh := Lib.hid ho
    clear ho
    go_upto_region 15 with (fail)
    obtain ⟨wo, hwo⟩ : ∃ W, W = w14.alloc (.cells #[.slice wo1 2 wo2, .slice wo3 2 wo4, .slice wo5 wop wo6] 37) := ⟨_, rfl⟩
    rw [← hwo]
    obtain ⟨bb, zz_, hcell⟩ := box_world w14 wo _ _ _ 37 hwo
    have owo := Lib.hid (fun W (B : Below wo.heap.size wo W) => (hoh.out.below bb).below B)
    have cwo := Lib.hid hcell
    clear hcell hwo zz_ hoh
    replace kw := Lib.hid (kw.out.trans (bb.mono kw.out.size))
    replace k0 := Lib.hid (k0.out.trans (bb.mono k0.out.size))
    replace kL := Lib.hid (kL.out.trans (bb.mono kL.out.size))
    replace k8 := Lib.hid (k8.out.trans (bb.mono k8.out.size))
    replace k9 := Lib.hid (k9.out.trans (bb.mono k9.out.size))
    replace kB := Lib.hid (kB.out.trans (bb.mono kB.out.size))
    clear bb
    have ko := Lib.hid (Below.refl wo.heap.size wo)
    obtain ⟨g0, g1, g2⟩ := cwo.out wo ko.out
    go_wp2_with fail
    with_reducible refine (cA.out _ _ _ kw.out (owo.out _ ko.out) (fB.out _ kB.out)).mono ?_
    rintro e w15 ⟨rfl, b⟩
    clear g0 g1 g2
    replace kw := Lib.hid (kw.out.trans (b.mono kw.out.size))
    replace k0 := Lib.hid (k0.out.trans (b.mono k0.out.size))
    replace kL := Lib.hid (kL.out.trans (b.mono kL.out.size))
    replace k8 := Lib.hid (k8.out.trans (b.mono k8.out.size))
    replace k9 := Lib.hid (k9.out.trans (b.mono k9.out.size))
    replace kB := Lib.hid (kB.out.trans (b.mono kB.out.size))
    replace ko := Lib.hid (ko.out.trans (b.mono ko.out.size))
    clear b
    obtain ⟨g0, g1, g2⟩ := cwo.out w15 ko.out
    obtain ⟨e0, e1⟩ := cw8.out w15 k8.out
    go_wp2_with fail
    have bq : Below w15.heap.size w15 (w15.alloc (.cells #[.int .i64 (A : Int), .string ⟨s.toArray⟩] 46)) := (Below.refl _ _).alloc (Nat.le_refl _) _
    replace kw := Lib.hid (kw.out.trans (bq.mono kw.out.size))
    replace k0 := Lib.hid (k0.out.trans (bq.mono k0.out.size))
    replace kL := Lib.hid (kL.out.trans (bq.mono kL.out.size))
    replace k8 := Lib.hid (k8.out.trans (bq.mono k8.out.size))
    replace k9 := Lib.hid (k9.out.trans (bq.mono k9.out.size))
    replace kB := Lib.hid (kB.out.trans (bq.mono kB.out.size))
    replace ko := Lib.hid (ko.out.trans (bq.mono ko.out.size))
    clear bq
    have hE1 := oneE w15 ((A : Int), s)
    with_reducible refine (c1.out _ _ _ kw.out (owo.out _ ko.out) hE1).mono ?_
    rintro e w16 ⟨rfl, b⟩
    clear g0 g1 g2 e0 e1 hE1
    replace kw := Lib.hid (kw.out.trans (b.mono kw.out.size))
    replace k0 := Lib.hid (k0.out.trans (b.mono k0.out.size))
    replace kL := Lib.hid (kL.out.trans (b.mono kL.out.size))
    replace k8 := Lib.hid (k8.out.trans (b.mono k8.out.size))
    replace k9 := Lib.hid (k9.out.trans (b.mono k9.out.size))
    replace kB := Lib.hid (kB.out.trans (b.mono kB.out.size))
    replace ko := Lib.hid (ko.out.trans (b.mono ko.out.size))
    clear b
    obtain ⟨g0, g1, g2⟩ := cwo.out w16 ko.out
    obtain ⟨e0, e1⟩ := cw9.out w16 k9.out
    go_wp2_with fail
    have bq : Below w16.heap.size w16 (w16.alloc (.cells #[.int .i64 (B : Int), .string ⟨t.toArray⟩] 46)) := (Below.refl _ _).alloc (Nat.le_refl _) _
    replace kw := Lib.hid (kw.out.trans (bq.mono kw.out.size))
    replace k0 := Lib.hid (k0.out.trans (bq.mono k0.out.size))
    replace kL := Lib.hid (kL.out.trans (bq.mono kL.out.size))
    replace k8 := Lib.hid (k8.out.trans (bq.mono k8.out.size))
    replace k9 := Lib.hid (k9.out.trans (bq.mono k9.out.size))
    replace kB := Lib.hid (kB.out.trans (bq.mono kB.out.size))
    replace ko := Lib.hid (ko.out.trans (bq.mono ko.out.size))
    clear bq
    have hE1 := oneE w16 ((B : Int), t)
    with_reducible refine (c2.out _ _ _ kw.out (owo.out _ ko.out) hE1).mono ?_
    rintro e w17 ⟨rfl, b⟩
    clear g0 g1 g2 e0 e1 hE1
    replace kw := Lib.hid (kw.out.trans (b.mono kw.out.size))
    replace k0 := Lib.hid (k0.out.trans (b.mono k0.out.size))
    replace kL := Lib.hid (kL.out.trans (b.mono kL.out.size))
    replace k8 := Lib.hid (k8.out.trans (b.mono k8.out.size))
    replace k9 := Lib.hid (k9.out.trans (b.mono k9.out.size))
    replace kB := Lib.hid (kB.out.trans (b.mono kB.out.size))
    replace ko := Lib.hid (ko.out.trans (b.mono ko.out.size))
    clear b
    obtain ⟨e0, e1⟩ := cw8.out w17 k8.out
    go_wp2_with fail
    with_reducible refine (cP1.out _ (fL.out _ kL.out)).mono ?_
    rintro e w18 ⟨vm, rfl, om, b⟩
    clear e0 e1
    replace kw := Lib.hid (kw.out.trans (b.mono kw.out.size))
    replace k0 := Lib.hid (k0.out.trans (b.mono k0.out.size))
    replace kL := Lib.hid (kL.out.trans (b.mono kL.out.size))
    replace k8 := Lib.hid (k8.out.trans (b.mono k8.out.size))
    replace k9 := Lib.hid (k9.out.trans (b.mono k9.out.size))
    replace kB := Lib.hid (kB.out.trans (b.mono kB.out.size))
    replace ko := Lib.hid (ko.out.trans (b.mono ko.out.size))
    clear b
    have fM := Lib.hid (OwnG.SL eE_len om)
    clear om
    go_wp2_with fail
    have bq : Below w18.heap.size w18 (w18.alloc (.cells #[.int .i64 (B : Int)] 3)) := (Below.refl _ _).alloc (Nat.le_refl _) _
    have fM2 := Lib.hid (fM.out.below bq)
    clear fM
    replace kw := Lib.hid (kw.out.trans (bq.mono kw.out.size))
    replace k0 := Lib.hid (k0.out.trans (bq.mono k0.out.size))
    replace kL := Lib.hid (kL.out.trans (bq.mono kL.out.size))
    replace k8 := Lib.hid (k8.out.trans (bq.mono k8.out.size))
    replace k9 := Lib.hid (k9.out.trans (bq.mono k9.out.size))
    replace kB := Lib.hid (kB.out.trans (bq.mono kB.out.size))
    replace ko := Lib.hid (ko.out.trans (bq.mono ko.out.size))
    clear bq
    with_reducible refine (cPr1.out _ _ _ kw.out fM2.out (oneI w18 _)).mono ?_
    rintro e w19 ⟨vo, rfl, ho, b⟩
    clear fM2
    replace kw := Lib.hid (kw.out.trans (b.mono kw.out.size))
    replace k0 := Lib.hid (k0.out.trans (b.mono k0.out.size))
    replace kL := Lib.hid (kL.out.trans (b.mono kL.out.size))
    replace k8 := Lib.hid (k8.out.trans (b.mono k8.out.size))
    replace k9 := Lib.hid (k9.out.trans (b.mono k9.out.size))
    replace kB := Lib.hid (kB.out.trans (b.mono kB.out.size))
    replace ko := Lib.hid (ko.out.trans (b.mono ko.out.size))
    clear b
    obtain ⟨wpp, hwpp⟩ : ∃ n, Hid (P1.length = n) := ⟨_, rfl⟩
    obtain ⟨wp1, wp2, wp3, wp4, wp5, wp6, rfl⟩ := ho.form 1 1 wpp rfl hwpv.out hwpp.out
    have hoh := Lib.hid ho
    clear ho
    go_upto_region 19 with (fail)
    obtain ⟨wp, hwp⟩ : ∃ W, W = w19.alloc (.cells #[.slice wp1 1 wp2, .slice wp3 1 wp4, .slice wp5 wpp wp6] 37) := ⟨_, rfl⟩
    rw [← hwp]
    obtain ⟨bb, zz_, hcell⟩ := box_world w19 wp _ _ _ 37 hwp
    have owp := Lib.hid (fun W (B : Below wp.heap.size wp W) => (hoh.out.below bb).below B)
    have cwp := Lib.hid hcell
    clear hcell hwp zz_ hoh
    replace kw := Lib.hid (kw.out.trans (bb.mono kw.out.size))
    replace k0 := Lib.hid (k0.out.trans (bb.mono k0.out.size))
    replace kL := Lib.hid (kL.out.trans (bb.mono kL.out.size))
    replace k8 := Lib.hid (k8.out.trans (bb.mono k8.out.size))
    replace k9 := Lib.hid (k9.out.trans (bb.mono k9.out.size))
    replace kB := Lib.hid (kB.out.trans (bb.mono kB.out.size))
    replace ko := Lib.hid (ko.out.trans (bb.mono ko.out.size))
    clear bb
    have kp := Lib.hid (Below.refl wp.heap.size wp)
    obtain ⟨e0, e1⟩ := cw9.out wp k9.out
    go_wp2_with fail
    with_reducible refine (cP2.out _ (fL.out _ kL.out)).mono ?_
    rintro e w20 ⟨vm, rfl, om, b⟩
    clear e0 e1
    replace kw := Lib.hid (kw.out.trans (b.mono kw.out.size))
    replace k0 := Lib.hid (k0.out.trans (b.mono k0.out.size))
    replace kL := Lib.hid (kL.out.trans (b.mono kL.out.size))
    replace k8 := Lib.hid (k8.out.trans (b.mono k8.out.size))
    replace k9 := Lib.hid (k9.out.trans (b.mono k9.out.size))
    replace kB := Lib.hid (kB.out.trans (b.mono kB.out.size))
    replace ko := Lib.hid (ko.out.trans (b.mono ko.out.size))
    replace kp := Lib.hid (kp.out.trans (b.mono kp.out.size))
    clear b
    have fM := Lib.hid (OwnG.SL eE_len om)
    clear om
    go_wp2_with fail
    have bq : Below w20.heap.size w20 (w20.alloc (.cells #[.int .i64 (A : Int)] 3)) := (Below.refl _ _).alloc (Nat.le_refl _) _
    have fM2 := Lib.hid (fM.out.below bq)
    clear fM
    replace kw := Lib.hid (kw.out.trans (bq.mono kw.out.size))
    replace k0 := Lib.hid (k0.out.trans (bq.mono k0.out.size))
    replace kL := Lib.hid (kL.out.trans (bq.mono kL.out.size))
    replace k8 := Lib.hid (k8.out.trans (bq.mono k8.out.size))
    replace k9 := Lib.hid (k9.out.trans (bq.mono k9.out.size))
    replace kB := Lib.hid (kB.out.trans (bq.mono kB.out.size))
    replace ko := Lib.hid (ko.out.trans (bq.mono ko.out.size))
    replace kp := Lib.hid (kp.out.trans (bq.mono kp.out.size))
    clear bq
    with_reducible refine (cPr2.out _ _ _ kw.out fM2.out (oneI w20 _)).mono ?_
    rintro e w21 ⟨vo, rfl, ho, b⟩
    clear fM2
    replace kw := Lib.hid (kw.out.trans (b.mono kw.out.size))
    replace k0 := Lib.hid (k0.out.trans (b.mono k0.out.size))
    replace kL := Lib.hid (kL.out.trans (b.mono kL.out.size))
    replace k8 := Lib.hid (k8.out.trans (b.mono k8.out.size))
    replace k9 := Lib.hid (k9.out.trans (b.mono k9.out.size))
    replace kB := Lib.hid (kB.out.trans (b.mono kB.out.size))
    replace ko := Lib.hid (ko.out.trans (b.mono ko.out.size))
    replace kp := Lib.hid (kp.out.trans (b.mono kp.out.size))
    clear b
    obtain ⟨wqp, hwqp⟩ : ∃ n, Hid (P2.length = n) := ⟨_, rfl⟩
    obtain ⟨wq1, wq2, wq3, wq4, wq5, wq6, rfl⟩ := ho.form 1 1 wqp rfl hwqv.out hwqp.out
    have hoh := Lib.hid ho
    clear ho
    go_upto_region 20 with (fail)
    obtain ⟨wq, hwq⟩ : ∃ W, W = w21.alloc (.cells #[.slice wq1 1 wq2, .slice wq3 1 wq4, .slice wq5 wqp wq6] 37) := ⟨_, rfl⟩
    rw [← hwq]
    obtain ⟨bb, zz_, hcell⟩ := box_world w21 wq _ _ _ 37 hwq
    have owq := Lib.hid (fun W (B : Below wq.heap.size wq W) => (hoh.out.below bb).below B)
    have cwq := Lib.hid hcell
    clear hcell hwq zz_ hoh
    replace kw := Lib.hid (kw.out.trans (bb.mono kw.out.size))
    replace k0 := Lib.hid (k0.out.trans (bb.mono k0.out.size))
    replace kL := Lib.hid (kL.out.trans (bb.mono kL.out.size))
    replace k8 := Lib.hid (k8.out.trans (bb.mono k8.out.size))
    replace k9 := Lib.hid (k9.out.trans (bb.mono k9.out.size))
    replace kB := Lib.hid (kB.out.trans (bb.mono kB.out.size))
    replace ko := Lib.hid (ko.out.trans (bb.mono ko.out.size))
    replace kp := Lib.hid (kp.out.trans (bb.mono kp.out.size))
    clear bb
    have kq := Lib.hid (Below.refl wq.heap.size wq)
    obtain ⟨g0, g1, g2⟩ := cwp.out wq kp.out
    obtain ⟨e0, e1⟩ := cw9.out wq k9.out
    go_wp2_with fail
    have bq : Below wq.heap.size wq (wq.alloc (.cells #[.int .i64 (B : Int), .string ⟨t.toArray⟩] 46)) := (Below.refl _ _).alloc (Nat.le_refl _) _
    replace kw := Lib.hid (kw.out.trans (bq.mono kw.out.size))
    replace k0 := Lib.hid (k0.out.trans (bq.mono k0.out.size))
    replace kL := Lib.hid (kL.out.trans (bq.mono kL.out.size))
    replace k8 := Lib.hid (k8.out.trans (bq.mono k8.out.size))
    replace k9 := Lib.hid (k9.out.trans (bq.mono k9.out.size))
    replace kB := Lib.hid (kB.out.trans (bq.mono kB.out.size))
    replace ko := Lib.hid (ko.out.trans (bq.mono ko.out.size))
    replace kp := Lib.hid (kp.out.trans (bq.mono kp.out.size))
    replace kq := Lib.hid (kq.out.trans (bq.mono kq.out.size))
    clear bq
    have hE1 := oneE wq ((B : Int), t)
    with_reducible refine (c3.out _ _ _ kw.out (owp.out _ kp.out) hE1).mono ?_
    rintro e w22 ⟨rfl, b⟩
    clear g0 g1 g2 e0 e1 hE1
    replace kw := Lib.hid (kw.out.trans (b.mono kw.out.size))
    replace k0 := Lib.hid (k0.out.trans (b.mono k0.out.size))
    replace kL := Lib.hid (kL.out.trans (b.mono kL.out.size))
    replace k8 := Lib.hid (k8.out.trans (b.mono k8.out.size))
    replace k9 := Lib.hid (k9.out.trans (b.mono k9.out.size))
    replace kB := Lib.hid (kB.out.trans (b.mono kB.out.size))
    replace ko := Lib.hid (ko.out.trans (b.mono ko.out.size))
    replace kp := Lib.hid (kp.out.trans (b.mono kp.out.size))
    replace kq := Lib.hid (kq.out.trans (b.mono kq.out.size))
    clear b
    obtain ⟨g0, g1, g2⟩ := cwq.out w22 kq.out
    obtain ⟨e0, e1⟩ := cw8.out w22 k8.out
    go_wp2_with fail
    have bq : Below w22.heap.size w22 (w22.alloc (.cells #[.int .i64 (A : Int), .string ⟨s.toArray⟩] 46)) := (Below.refl _ _).alloc (Nat.le_refl _) _
    replace kw := Lib.hid (kw.out.trans (bq.mono kw.out.size))
    replace k0 := Lib.hid (k0.out.trans (bq.mono k0.out.size))
    replace kL := Lib.hid (kL.out.trans (bq.mono kL.out.size))
    replace k8 := Lib.hid (k8.out.trans (bq.mono k8.out.size))
    replace k9 := Lib.hid (k9.out.trans (bq.mono k9.out.size))
    replace kB := Lib.hid (kB.out.trans (bq.mono kB.out.size))
    replace ko := Lib.hid (ko.out.trans (bq.mono ko.out.size))
    replace kp := Lib.hid (kp.out.trans (bq.mono kp.out.size))
    replace kq := Lib.hid (kq.out.trans (bq.mono kq.out.size))
    clear bq
    have hE1 := oneE w22 ((A : Int), s)
    with_reducible refine (c4.out _ _ _ kw.out (owq.out _ kq.out) hE1).mono ?_
    rintro e w23 ⟨rfl, b⟩
    clear g0 g1 g2 e0 e1 hE1
    replace kw := Lib.hid (kw.out.trans (b.mono kw.out.size))
    replace k0 := Lib.hid (k0.out.trans (b.mono k0.out.size))
    replace kL := Lib.hid (kL.out.trans (b.mono kL.out.size))
    replace k8 := Lib.hid (k8.out.trans (b.mono k8.out.size))
    replace k9 := Lib.hid (k9.out.trans (b.mono k9.out.size))
    replace kB := Lib.hid (kB.out.trans (b.mono kB.out.size))
    replace ko := Lib.hid (ko.out.trans (b.mono ko.out.size))
    replace kp := Lib.hid (kp.out.trans (b.mono kp.out.size))
    replace kq := Lib.hid (kq.out.trans (b.mono kq.out.size))
    clear b
    go_wp2_with fail
    go_ret
    exact ⟨rfl, kw.out⟩
end Go.Proofs.YtegahpfmkepfmaaDoor
