/- SparseRoot: two maps with the same root are the same, or there is a way out. -/
import Derived.Test.YtegahpfmkepfmaaDoorCp
import Derived.Test.YtegahpfmkepfmaaDoorRB
namespace Go.Proofs.YtegahpfmkepfmaaDoor
open Go.RowKit
theorem lookE_in (l : List Ent) (k : Int) (h : lookE l k ≠ []) : ∃ e ∈ l, e.1 = k := by
  by_cases g : ∃ e ∈ l, e.1 = k
  · exact g
  · exact absurd (lookE_none l k fun e he hk => g ⟨e, he, hk⟩) h
theorem Mp.tail {e : Ent} {t : List Ent} (h : Mp (e :: t)) : Mp t ∧ ∀ x ∈ t, e.1 < x.1 := by
  obtain ⟨h1, h2⟩ := h
  rw [List.map_cons, List.pairwise_cons] at h2
  exact ⟨⟨fun x hx => h1 x (List.mem_cons_of_mem _ hx), h2.2⟩, fun x hx => h2.1 x.1 (List.mem_map.2 ⟨x, hx, rfl⟩)⟩
theorem mp_ext (l : List Ent) : ∀ m : List Ent, Mp l → Mp m → (∀ k : Int, lookE l k = lookE m k) → l = m := by
  induction l with
  | nil =>
    intro m _ hm h
    cases m with
    | nil => rfl
    | cons f u =>
      have := h f.1
      rw [show lookE [] f.1 = [] from rfl, lookE, if_pos rfl] at this
      exact absurd this.symm (hm.1 f List.mem_cons_self).2.2.1
  | cons e t ih =>
    intro m hl hm h
    cases m with
    | nil =>
      have := h e.1
      rw [show lookE [] e.1 = [] from rfl, lookE, if_pos rfl] at this
      exact absurd this (hl.1 e List.mem_cons_self).2.2.1
    | cons f u =>
      have he := (hl.1 e List.mem_cons_self).2.2.1
      have hf := (hm.1 f List.mem_cons_self).2.2.1
      obtain ⟨ht, hle⟩ := hl.tail
      obtain ⟨hu, hlf⟩ := hm.tail
      have e1 : lookE (e :: t) e.1 = e.2 := by rw [lookE, if_pos rfl]
      have f1 : lookE (f :: u) f.1 = f.2 := by rw [lookE, if_pos rfl]
      have k1 : e.1 = f.1 := by
        obtain ⟨x, hx, hxk⟩ := lookE_in (f :: u) e.1 (by rw [← h, e1]; exact he)
        obtain ⟨y, hy, hyk⟩ := lookE_in (e :: t) f.1 (by rw [h, f1]; exact hf)
        rcases List.mem_cons.1 hx with rfl | hx
        · exact hxk.symm
        · rcases List.mem_cons.1 hy with rfl | hy
          · exact hyk
          · have a := hle y hy
            have b := hlf x hx
            omega
      have k2 : e.2 = f.2 := by rw [← e1, h, k1, f1]
      have hef : e = f := Prod.ext k1 k2
      rw [hef, ih u ht hu (fun k => ?_)]
      by_cases hk : k = e.1
      · rw [lookE_none t k (fun x hx g => by have := hle x hx; omega), lookE_none u k (fun x hx g => by have := hlf x hx; omega)]
      · have := h k
        rwa [lookE, lookE, if_neg (fun g => hk g.symm), if_neg (fun g => hk (by rw [k1]; exact g.symm))] at this
theorem colB_iff (A B : List Str) : colB A B = true ↔ CollE sha A B := by
  unfold colB CollE colQ
  simp [List.any_eq_true]
theorem nz_iff (A : List Str) : A.any nz = true ↔ ZeroE sha A := by
  unfold ZeroE nz
  simp [List.any_eq_true]
theorem outQ_false (A B : List Str) (h : outQ A B = false) : ¬ CollE sha A B ∧ ¬ ZeroE sha A ∧ ¬ ZeroE sha B := by
  unfold outQ at h
  simp only [Bool.or_eq_false_iff] at h
  obtain ⟨⟨h1, h2⟩, h3⟩ := h
  exact ⟨fun g => (by rw [← colB_iff, h1] at g; cases g), fun g => (by rw [← nz_iff, h2] at g; cases g), fun g => (by rw [← nz_iff, h3] at g; cases g)⟩
def hsL (l : List Ent) : List Str := hsd sha (fun _ => []) (mE l) 6 1
theorem root_same (l m : List Ent) (hl : Mp l) (hm : Mp m) (hr : rootL l = rootL m) (ho : outQ (hsL l) (hsL m) = false) : l = m := by
  obtain ⟨h1, h2, h3⟩ := outQ_false _ _ ho
  have hE : E sha (fun _ => []) (mE l) 1 = E sha (fun _ => []) (mE m) 1 := by
    unfold rootL partV at hr
    rw [mE_map l hl, mE_map m hm] at hr
    exact hr
  refine mp_ext l m hl hm (fun k => ?_)
  by_cases hk : 0 ≤ k ∧ k < 64
  · have := bind sha sha_len (fun _ => []) (fun _ => []) (mE l) (mE m) (fun _ => .inl rfl) (fun _ => .inl rfl) 6 1 (by omega) (by omega) (by omega) (by omega) hE h1 h2 h3 k.toNat (by omega) (by omega) (fun _ _ => rfl) (fun _ _ => rfl)
    unfold mE at this
    rwa [show ((k.toNat : Nat) : Int) = k by omega] at this
  · rw [lookE_none l k (fun e he g => by have := hl.1 e he; omega), lookE_none m k (fun e he g => by have := hm.1 e he; omega)]
theorem mp_small (l : List Ent) (h : Mp l) (k : Int) : (lookE l k).length ≤ 65536 := by
  by_cases g : lookE l k = []
  · rw [g]; simp
  · obtain ⟨e, he, hk⟩ := lookE_in l k g
    have hb := h.1 e he
    have := mapV_small l h k.toNat
    rw [vF_map l _ h, show ((k.toNat : Nat) : Int) = k by omega] at this
    exact this
theorem hsd_small (c v : Nat → Str) (hc : ∀ i, c i = [] ∨ (c i).length = 32) (hv : ∀ k, (v k).length ≤ 65536) : ∀ h i, 1 ≤ i → ∀ s ∈ hsd sha c v h i, List.length s ≤ 1000000 := by
  intro h
  induction h with
  | zero =>
    intro i _ s hs
    unfold hsd at hs
    split at hs
    · split at hs
      · cases hs
      · simp at hs; subst hs; have := hv (i - 64); simp [leafT]; omega
    · cases hs
  | succ h ih =>
    intro i hi s hs
    unfold hsd at hs
    split at hs
    · rcases List.mem_append.1 hs with hs | hs
      · rcases List.mem_append.1 hs with hs | hs
        · exact ih _ (by omega) s hs
        · exact ih _ (by omega) s hs
      · split at hs
        · cases hs
        · simp at hs; subst hs
          have a := Ec_len sha sha_len c v (2 * i) (by omega) hc
          have b := Ec_len sha sha_len c v (2 * i + 1) (by omega) hc
          simp; omega
    · cases hs
theorem hsL_small (l : List Ent) (h : Mp l) : (∀ s ∈ hsL l, List.length s ≤ 1000000) ∧ (hsL l).length ≤ 1000 := by
  refine ⟨hsd_small _ _ (fun _ => .inl rfl) (fun k => mp_small l h k) 6 1 (by omega), ?_⟩
  have := hs_len sha (fun _ => []) (mE l) 6 1
  unfold hsL; omega
def sz3 (i : Nat) : Str := match i with | 0 => [] | 1 => [97] | _ => [122, 122]
theorem sz3_len (i : Nat) : (sz3 i).length ≤ 2 := by unfold sz3; split <;> simp
theorem sz3_at (k : Nat) (h : k < 3) : ([.string ⟨#[]⟩, .string ⟨#[97]⟩, .string ⟨#[122, 122]⟩] : List Value)[k]? = some (.string ⟨(sz3 k).toArray⟩) := by
  match k, h with
  | 0, _ => rfl
  | 1, _ => rfl
  | 2, _ => rfl
def HPost (S : List Str) (w : World) (e : Ending) (w' : World) : Prop := ∃ v, e = .returned v ∧ SS w' v S ∧ Below w.heap.size w w'
theorem HashedC (vl : Value) (l : List Ent) (w : World) (hl : SE w vl l) (h : Mp l) : Calls Tryd.prog 31 #[vl] w (HPost (hsL l) w) :=
  (Hashed_any vl l w hl (by have := Mp_len l h; omega) (fun k => mp_small l h k)).mono fun _ _ ⟨v, e, ho, B⟩ => ⟨v, e, OwnG.SL eS_len ho, B⟩
theorem OutC (va vb : Value) (l m : List Ent) (w : World) (ha : SS w va (hsL l)) (hb : SS w vb (hsL m)) (hl : Mp l) (hm : Mp m) : Calls Tryd.prog 30 #[va, vb] w fun e w' => e = .returned (.bool (outQ (hsL l) (hsL m))) ∧ Below w.heap.size w w' := by
  obtain ⟨a1, a2⟩ := hsL_small l hl
  obtain ⟨b1, b2⟩ := hsL_small m hm
  exact Out_any va vb _ _ w ha hb (by omega) (by omega) a1 b1

set_option maxRecDepth 100000 in
set_option maxHeartbeats 8000000 in
theorem Root4_any (v u : Value) (x y : List (Int × Int)) (kx vx : Int) (w : World) (hv : ArgP w v x) (hu : ArgP w u y) (hx0 : I64 kx) (hx1 : I64 vx) (hT0 : Tab w) :
    Calls Tryd.prog 7 #[v, u, .int .i64 kx, .int .i64 vx] w fun e w' => e = .returned (.bool true) ∧ Below w.heap.size w w' := by
  have hT := Lib.hid hT0
  have cSane := Lib.hid (show ∀ W, Below w.heap.size w W → _ from fun W B => sane_any W (hT0.below B))
  have cMade := Lib.hid (show ∀ W, Below w.heap.size w W → _ from fun W B => Made_any v x W ⟨hv.1.below B, hv.2⟩ rfl)
  have cMade2 := Lib.hid (show ∀ W, Below w.heap.size w W → _ from fun W B => Made_any u y W ⟨hu.1.below B, hu.2⟩ rfl)
  have p1 := Lib.hid (fun W => Wr.pick_any kx 64 W hx0.1 hx0.2 (by omega) (by omega))
  have p2 := Lib.hid (fun W => Wr.pick_any vx 3 W hx1.1 hx1.2 (by omega) (by omega))
  have q1 := Wr.pk_lo kx 64 (by omega)
  have q2 := Wr.pk_lt kx 64 (by omega)
  have q3 := Wr.pk_lo vx 3 (by omega)
  have q4 := Wr.pk_lt vx 3 (by omega)
  obtain ⟨A, hA⟩ : ∃ A : Nat, Wr.pk kx 64 = (A : Int) := ⟨(Wr.pk kx 64).toNat, by omega⟩
  obtain ⟨m1, hm1⟩ : ∃ m : Nat, Wr.pk vx 3 = (m : Int) := ⟨(Wr.pk vx 3).toNat, by omega⟩
  rw [hA] at p1 q1 q2
  rw [hm1] at p2 q3 q4
  have s1h : ([.string ⟨#[]⟩, .string ⟨#[97]⟩, .string ⟨#[122, 122]⟩] : List Value)[m1]? = some (.string ⟨(sz3 m1).toArray⟩) := sz3_at m1 (by omega)
  have hsl := sz3_len m1
  generalize sz3 m1 = s at *
  have kw := Lib.hid (Below.refl w.heap.size w)
  clear hA hm1 hv hu hx0 hx1 hT0
  go_enter Tryd.func7, Tryd.ntmps7
  go_wp2_with fail
  with_reducible refine (cSane.out _ kw.out).mono ?_
  rintro e w1 ⟨rfl, b⟩
  replace kw := Lib.hid (kw.out.trans (b.mono kw.out.size))
  clear b
  go_wp2_with fail
  with_reducible refine (cMade.out _ kw.out).mono ?_
  rintro e w2 ⟨vl, L, rfl, ol, hmp, hll, b⟩
  replace kw := Lib.hid (kw.out.trans (b.mono kw.out.size))
  clear b
  obtain ⟨l1, l2, hlsh⟩ := (OwnG.SL eE_len ol).shape
  have fL := Lib.hid (fun W (B : Below w2.heap.size w2 W) => (OwnG.SL eE_len ol).below B)
  obtain ⟨nL, hnL⟩ : ∃ n, L.length = n := ⟨_, rfl⟩
  rw [hnL] at hlsh
  subst hlsh
  have hmp := Lib.hid hmp
  rename_i hmpo
  have hlh := Lib.hid hll
  clear hmpo ol hnL hll
  have kL := Lib.hid (Below.refl w2.heap.size w2)
  obtain ⟨RL, hRL⟩ : ∃ R, Hid (R = rootL L) := ⟨_, rfl⟩
  have cRt := Lib.hid (show ∀ W, Below w.heap.size w W → SE W (.slice l1 nL l2) L → Calls Tryd.prog 13 #[.slice l1 nL l2] W (RootPost RL 0 W) from fun W B' h => by rw [hRL.out]; exact RootC L _ W hmp.out h (hT.out.below B'))
  go_wp2_with fail
  with_reducible refine (cRt.out _ kw.out (fL.out _ kL.out)).mono ?_
  rintro e w3 ⟨rfl, b⟩
  replace kw := Lib.hid (kw.out.trans (b.mono kw.out.size))
  replace kL := Lib.hid (kL.out.trans (b.mono kL.out.size))
  clear b
  go_wp2_with fail
  with_reducible refine (cMade2.out _ kw.out).mono ?_
  rintro e w4 ⟨v1, M1, rfl, o1, hmp1, hl1, b⟩
  replace kw := Lib.hid (kw.out.trans (b.mono kw.out.size))
  replace kL := Lib.hid (kL.out.trans (b.mono kL.out.size))
  clear b
  obtain ⟨a1, a2, hsh1⟩ := (OwnG.SL eE_len o1).shape
  have f1 := Lib.hid (fun W (B : Below w4.heap.size w4 W) => (OwnG.SL eE_len o1).below B)
  obtain ⟨n1, hn1⟩ : ∃ n, Hid (M1.length = n) := ⟨_, rfl⟩
  rw [hn1.out] at hsh1
  subst hsh1
  have hmp1 := Lib.hid hmp1
  rename_i hmpo
  clear hmpo o1 hl1
  have k1 := Lib.hid (Below.refl w4.heap.size w4)
  obtain ⟨M2, hM2⟩ : ∃ M, Hid (M = putE L A s) := ⟨_, rfl⟩
  have hmp2 : Hid (Mp M2) := by show Mp _; rw [hM2.out]; exact putE_mp L A s hmp.out (by omega) (by omega) (by omega)
  have cP2 := Lib.hid (show ∀ W, SE W (.slice l1 nL l2) L → Calls Tryd.prog 33 #[.slice l1 nL l2, .int .i64 (A : Int), .string ⟨s.toArray⟩] W (RowE M2 W) from fun W h => by rw [hM2.out]; exact Put_any _ L A s W h rfl (by have := Mp_len L hmp.out; omega))
  go_wp2_with fail
  with_reducible refine (p1.out _).mono ?_
  rintro e w' ⟨rfl, rfl⟩
  go_wp2_with fail
  with_reducible refine (p2.out _).mono ?_
  rintro e w' ⟨rfl, rfl⟩
  have bq : Below w4.heap.size w4 (w4.alloc (.cells #[.string ⟨#[]⟩, .string ⟨#[97]⟩, .string ⟨#[122, 122]⟩] 9)) := (Below.refl _ _).alloc (Nat.le_refl _) _
  replace kw := Lib.hid (kw.out.trans (bq.mono kw.out.size))
  replace kL := Lib.hid (kL.out.trans (bq.mono kL.out.size))
  replace k1 := Lib.hid (k1.out.trans (bq.mono k1.out.size))
  clear bq
  go_wp2_with fail
  with_reducible refine (cP2.out _ (fL.out _ kL.out)).mono ?_
  rintro e w5 ⟨v2, rfl, o2, b⟩
  replace kw := Lib.hid (kw.out.trans (b.mono kw.out.size))
  replace kL := Lib.hid (kL.out.trans (b.mono kL.out.size))
  replace k1 := Lib.hid (k1.out.trans (b.mono k1.out.size))
  clear b
  obtain ⟨c1, c2, hsh2⟩ := (OwnG.SL eE_len o2).shape
  have f2 := Lib.hid (fun W (B : Below w5.heap.size w5 W) => (OwnG.SL eE_len o2).below B)
  obtain ⟨n2, hn2⟩ : ∃ n, Hid (M2.length = n) := ⟨_, rfl⟩
  rw [hn2.out] at hsh2
  subst hsh2
  clear o2
  go_upto_region 6 with (fail)
  obtain ⟨wz, hwz⟩ : ∃ W, W = w5.alloc (.cells #[.slice a1 n1 a2, .slice c1 n2 c2] 23) := ⟨_, rfl⟩
  rw [← hwz]
  have bq : Below w5.heap.size w5 wz := by rw [hwz]; exact (Below.refl _ _).alloc (Nat.le_refl _) _
  have hz : wz.heap[w5.heap.size]? = some (.cells #[.slice a1 n1 a2, .slice c1 n2 c2] 23 (0, 0)) := by rw [hwz]; exact heap_alloc_new _ _
  have hzs : w5.heap.size < wz.heap.size := by rw [hwz]; simp
  have key := Lib.hid (show ∀ k : Nat, k < 2 → ∃ a n c m, Hid (∀ W, Below wz.heap.size wz W → W.cell? ⟨w5.heap.size, k, none⟩ = some (.slice a n c)) ∧ Hid (∀ W, Below wz.heap.size wz W → SE W (.slice a n c) m) ∧ Hid (Mp m) from fun k hk => by
    have hB : ∀ W, Below wz.heap.size wz W → W.heap[w5.heap.size]? = some (.cells #[.slice a1 n1 a2, .slice c1 n2 c2] 23 (0, 0)) := fun W B => (B.block _ hzs).trans hz
    have hcell : ∀ W, Below wz.heap.size wz W → ∀ i, W.cell? ⟨w5.heap.size, i, none⟩ = (#[.slice a1 n1 a2, .slice c1 n2 c2] : Array Value)[i]? := fun W B i => cell_of_row _ _ _ _ _ _ (hB W B)
    match k, hk with
    | 0, _ => exact ⟨a1, n1, a2, M1, fun W B => (hcell W B 0), fun W B => f1.out W ((k1.out.trans (bq.mono k1.out.size)).trans (B.mono (Nat.le_trans k1.out.size bq.size))), hmp1⟩
    | 1, _ => exact ⟨c1, n2, c2, M2, fun W B => (hcell W B 1), fun W B => f2.out W (bq.trans (B.mono bq.size)), hmp2⟩)
  clear hwz hz hzs cP2 p1 p2 f1 f2 cMade cMade2 cSane
  replace kw := Lib.hid (kw.out.trans (bq.mono kw.out.size))
  replace kL := Lib.hid (kL.out.trans (bq.mono kL.out.size))
  clear bq
  clear k1
  obtain ⟨bz, hbz⟩ : ∃ g, w5.heap.size = g := ⟨_, rfl⟩
  rw [hbz] at key ⊢
  clear hbz
  have toW := Lib.hid (show ∀ W, Below wz.heap.size wz W → Below w.heap.size w W from fun W B => kw.out.trans (B.mono kw.out.size))
  have fLz := Lib.hid (show ∀ W, Below wz.heap.size wz W → SE W (.slice l1 nL l2) L from fun W B => fL.out W (kL.out.trans (B.mono kL.out.size)))
  go_loopw [38] (fun iv wr => ∃ k : Nat, k ≤ 2 ∧ iv = .int .i64 k ∧ Below wz.heap.size wz wr) (fun iv _ => 2 - (intOf iv).toNat)
  case atStart => exact ⟨0, by omega, rfl, Below.refl _ _⟩
  case round =>
    obtain ⟨k, hk, rfl, B⟩ := hrel
    by_cases hlt : k < 2
    · have i0 : (0 : Int) ≤ (k : Int) := by omega
      have i1 : (k : Int) < 2 := by omega
      obtain ⟨a, n, c, M, hc, hM, hmm⟩ := key.out k hlt
      have hcc := hc.out wr B
      have cR := Lib.hid (show ∀ W, Below wz.heap.size wz W → Calls Tryd.prog 13 #[.slice a n c] W (RootPost (rootL M) 0 W) from fun W B' => RootC M _ W hmm.out (hM.out W B') (hT.out.below (toW.out W B')))
      have cS := Lib.hid (show ∀ W, Below wz.heap.size wz W → Calls Tryd.prog 25 #[.slice l1 nL l2, .slice a n c] W fun e w' => e = .returned (.bool (decide (L = M))) ∧ Below W.heap.size W w' from fun W B' => SameEntries_any _ _ L M W (fLz.out W B') (hM.out W B') (by have := Mp_len L hmp.out; omega) (by have := Mp_len M hmm.out; omega))
      have cH1 := Lib.hid (show ∀ W, Below wz.heap.size wz W → Calls Tryd.prog 31 #[.slice l1 nL l2] W (HPost (hsL L) W) from fun W B' => HashedC _ L W (fLz.out W B') hmp.out)
      have cH2 := Lib.hid (show ∀ W, Below wz.heap.size wz W → Calls Tryd.prog 31 #[.slice a n c] W (HPost (hsL M) W) from fun W B' => HashedC _ M W (hM.out W B') hmm.out)
      have cO := Lib.hid (fun va vb W h1 h2 => OutC va vb L M W h1 h2 hmp.out hmm.out)
      go_wp2_with fail
      with_reducible refine (cR.out _ B).mono ?_
      rintro e w6 ⟨rfl, b6⟩
      have B6 := B.trans (b6.mono B.size)
      go_wp2_with fail
      with_reducible refine (cS.out _ B6).mono ?_
      rintro e w7 ⟨rfl, b7⟩
      have B7 := B6.trans (b7.mono B6.size)
      by_cases hLM : L = M
      · have t1 : (RL == rootL M) = true := by rw [beq_iff_eq, hRL.out, hLM]
        have t2 : decide (L = M) = true := decide_eq_true hLM
        rw [t2]
        generalize rootL M = RM at *
        clear hLM t2 cR cS cH1 cH2 cO hc hM hmm key hRL
        go_wp2_with fail
        go_roundw
        case rel => exact ⟨k + 1, by omega, by go_num, B7⟩
        case measure => simp [intOf]; omega
      · have t2 : decide (L = M) = false := decide_eq_false hLM
        rw [t2]
        by_cases hRR : RL = rootL M
        · have t1 : (RL == rootL M) = true := by rw [beq_iff_eq]; exact hRR
          have hout : Hid (outQ (hsL L) (hsL M) = true) := by
            show _ = _
            cases h : outQ (hsL L) (hsL M) with
            | true => rfl
            | false => exact absurd (root_same L M hmp.out hmm.out (by rw [← hRL.out]; exact hRR) h) hLM
          rw [hout.out] at cO
          generalize rootL M = RM at *
          generalize hsL L = S1 at *
          generalize hsL M = S2 at *
          clear hLM t2 cR cS hc hM hmm key hRL hRR hout
          go_wp2_with fail
          with_reducible refine (cH1.out _ B7).mono ?_
          rintro e w8 ⟨x1, rfl, h1, b8⟩
          have B8 := B7.trans (b8.mono B7.size)
          obtain ⟨e1, e2, e3, rfl, _⟩ := h1.shape'
          have h1 := Lib.hid h1
          rename_i hx; clear hx
          go_wp2_with fail
          with_reducible refine (cH2.out _ B8).mono ?_
          rintro e w9 ⟨x2, rfl, h2, b9⟩
          have B9 := B8.trans (b9.mono B8.size)
          obtain ⟨g1, g2, g3, rfl, _⟩ := h2.shape'
          have h2 := Lib.hid h2
          rename_i hx; clear hx
          go_wp2_with fail
          with_reducible refine (cO.out _ _ _ (h1.out.below b9) h2.out).mono ?_
          rintro e w10 ⟨rfl, b10⟩
          have B10 := B9.trans (b10.mono B9.size)
          go_wp2_with fail
          go_roundw
          case rel => exact ⟨k + 1, by omega, by go_num, B10⟩
          case measure => simp [intOf]; omega
        · have t1 : (RL == rootL M) = false := by rw [beq_eq_false_iff_ne]; exact hRR
          generalize rootL M = RM at *
          clear hLM t2 cR cS cH1 cH2 cO hc hM hmm key hRL hRR
          go_wp2_with fail
          go_roundw
          case rel => exact ⟨k + 1, by omega, by go_num, B7⟩
          case measure => simp [intOf]; omega
    · have i1 : ¬ (k : Int) < 2 := by omega
      have hend := Lib.hid (toW.out _ B)
      go_wp2_with fail
      go_ret
      exact ⟨rfl, hend.out⟩
end Go.Proofs.YtegahpfmkepfmaaDoor
