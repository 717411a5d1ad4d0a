/- The opening of a map at some keys. -/
import Derived.Test.YtegahpfmkepfmaaDoorSh
import Derived.Test.YtegahpfmkepfmaaDoorHel
namespace Go.Proofs.YtegahpfmkepfmaaDoor
open Go.RowKit
/-- the values of a map -/
def mapV (l : List Ent) : List Str := putV emp l
theorem mapV_len (l : List Ent) : (mapV l).length = 64 := putV_len emp l
theorem mapB_facts (l : List Ent) (h : mapB l = true) : l.length ≤ 64 ∧ (∀ e ∈ l, 0 ≤ e.1 ∧ e.1 < 64) ∧ (∀ e ∈ l, e.2.length ≤ 65536 ∧ e.2 ≠ []) := by
  unfold mapB chgB at h
  simp only [Bool.and_eq_true, Bool.not_eq_true', List.any_eq_false] at h
  obtain ⟨⟨h1, h2⟩, h3⟩ := h
  have hl := ascB_len _ (-1) (by omega) (by omega) h1
  rw [List.length_map] at hl
  refine ⟨by omega, fun e he => ?_, fun e he => ⟨?_, fun hn => ?_⟩⟩
  · have := ascB_bd _ (-1) (by omega) h1 e.1 (List.mem_map.2 ⟨e, he, rfl⟩); omega
  · have := h2 e he; simp [tlE, tl] at this; omega
  · have := h3 e he; simp [noV, hn] at this
theorem putV_small (l : List Ent) (n : Nat) : ∀ (v : List Str), (∀ s ∈ v, List.length s ≤ n) → (∀ e ∈ l, e.2.length ≤ n) → ∀ s ∈ putV v l, List.length s ≤ n := by
  unfold putV
  induction l with
  | nil => intro v h1 _; exact h1
  | cons e t ih =>
    intro v h1 h2
    rw [List.foldl_cons]
    refine ih _ (fun s hs => ?_) (fun e he => h2 e (List.mem_cons_of_mem _ he))
    rcases List.mem_or_eq_of_mem_set hs with h | h
    · exact h1 s h
    · rw [h]; exact h2 e List.mem_cons_self
theorem emp_small (n : Nat) : ∀ s ∈ emp, List.length s ≤ n := fun s hs => by simp [emp] at hs; simp [hs]
theorem cF_nil (i : Nat) : cF [] [] i = [] := by
  unfold cF putT
  rw [List.getD_eq_getElem?_getD]
  simp only [List.zip_nil_left, List.foldl_nil, emp2, List.getElem?_replicate]
  split <;> rfl
/-- the digest of the part i of the map l -/
def partV (l : List Ent) (i : Nat) : Str := E sha (fun _ => []) (vF (mapV l)) i
theorem tree_part (l : List Ent) (i : Nat) (h1 : 1 ≤ i) (h2 : i < 128) : (treeL [] [] (mapV l)).getD i [] = partV l i := by
  rw [treeL_at _ _ _ i h1 h2, show cF [] [] = fun _ => [] from funext cF_nil]; rfl
/-- the root of the map l -/
def rootL (l : List Ent) : Str := partV l 1
/-- the values of the map l at the keys, and the digests of the closed parts -/
def valsL (l : List Ent) (ks : List Int) : List Str := (tN ks).map (vF (mapV l))
def pathL (l : List Ent) (ks : List Int) : List Str := (closedL (tN ks)).map (partV l)
theorem app_field (W : World) (b8 base : Nat) (cs : Array Value) (v : Value) (l : List Str) (s : Str) (hb : b8 < base) (hs : base ≤ W.heap.size) (hc : W.heap[b8]? = some (.cells cs 37 (0, 0))) (hv : OS W base v l) (hl : l.length ≤ 1000000) :
    ∃ v' w', (∃ a k c, v' = .slice a k c) ∧ (Builtin.append_ #[35, 35] 35 #[v, .slice (some ⟨W.heap.size, 0, none⟩) 1 1]).run Tryd.prog (W.alloc (.cells #[.string ⟨s.toArray⟩] 9)) = .ok v' w' ∧ w'.heap[b8]? = some (.cells cs 37 (0, 0)) ∧ Below base W w' ∧ OS w' base v' (l ++ [s]) := by
  obtain ⟨v', w', hr, ho, hB⟩ := snocS W base v l s hv (by omega) hs
  obtain ⟨a, c, hsh⟩ := (OwnG.SL eS_len ho).shape
  exact ⟨v', w', ⟨a, _, c, hsh⟩, hr, (hB.block b8 hb).trans hc, hB, ho⟩
theorem set_field {W : World} {b8 i : Nat} {cs : Array Value} {v : Value} (h : W.heap[b8]? = some (.cells cs 37 (0, 0))) : (W.setCell ⟨b8, i, none⟩ v).heap[b8]? = some (.cells (cs.setIfInBounds i v) 37 (0, 0)) := by
  rw [setCell_eq_setRow _ _ _ _ _ _ _ h, setRow_heap _ _ _ _ _ _ h]
/-- a row of the call's own stays where no block below n turns -/
theorem OwnG.keep {α : Type} {enc : α → List Value} {sz : Nat} {t : TypeId} {W W' : World} {base n : Nat} {v : Value} {l : List α} (h : OwnG enc sz t W base v l) (B : Below n W W') (hk : ∀ k, v.ownBlock = some k → k < n) : OwnG enc sz t W' base v l := by
  unfold OwnG at h ⊢
  refine ⟨h.1, ?_⟩
  rcases h.2 with h | ⟨g, cap, cur, rfl, h2, h3, h4⟩
  · exact .inl h
  · exact .inr ⟨g, cap, cur, rfl, h2, by rw [B.block g (hk g rfl)]; exact h3, h4⟩
theorem OwnG.lt {α : Type} {enc : α → List Value} {sz : Nat} {t : TypeId} {W : World} {base : Nat} {v : Value} {l : List α} (h : OwnG enc sz t W base v l) : ∀ k, v.ownBlock = some k → k < W.heap.size := fun k hk => (World.ownsRow.lt (show W.ownsRow _ _ _ _ _ _ from h) k hk).2
theorem sz64 (V : List Str) (h : V.length = 64) : (cT emp).toArray.size = (cT V).toArray.size := by rw [cT_size, cT_size, h]; rfl
theorem sz128 (V : List Str) (h : V.length = 128) : (cT emp2).toArray.size = (cT V).toArray.size := by rw [cT_size, cT_size, h]; rfl

theorem OI.cellAt {W : World} {base : Nat} {v : Value} {l : List Int} (h : OI W base v l) (hl : l ≠ []) : ∃ g c, v = .slice (some ⟨g, 0, none⟩) l.length c ∧ base ≤ g ∧ g < W.heap.size ∧ ∀ W' : World, W'.heap[g]? = W.heap[g]? → ∀ (k : Nat) (hk : k < l.length), W'.cell? ⟨g, k, none⟩ = some (.int .i64 l[k]) := by
  have hS := OwnG.SL eI_len h
  replace h : W.ownsRow base 3 1 v l.length (l.flatMap eI) := h
  rcases h.2 with ⟨rfl, h0⟩ | ⟨g, cap, cur, rfl, hb, hg, hc, hm, hs, ht⟩
  · exact absurd (List.length_eq_zero_iff.1 h0) hl
  · refine ⟨g, cap, rfl, hb, (Array.getElem?_eq_some_iff.1 hg).1, fun W' hW k hk => ?_⟩
    obtain ⟨b, o, c, e1, e2⟩ := SI.at hS k hk
    injection e1 with e1 _ e3
    injection e1 with e1
    injection e1 with e1 e4
    subst e1 e4
    have := e2 W (Below.refl _ _)
    rw [Nat.zero_add] at this
    rw [World.cell?_of_block (w := W) hW]; exact this
theorem OwnG.setRow {α : Type} {enc : α → List Value} {sz : Nat} {t : TypeId} {W : World} {base : Nat} {v : Value} {l : List α} (h : OwnG enc sz t W base v l) {b : Nat} (hb : b < base) (cs : Array Value) : OwnG enc sz t (W.setRow b cs) base v l := by
  unfold OwnG at h ⊢
  refine ⟨h.1, ?_⟩
  rcases h.2 with h | ⟨g, cap, cur, h1, h2, h3, h4⟩
  · exact .inl h
  · exact .inr ⟨g, cap, cur, h1, h2, by rw [Go.setRow_other _ _ _ _ (by omega)]; exact h3, h4⟩
theorem heap_set_ne {W : World} {b g i : Nat} {v : Value} (h : b ≠ g) : (W.setCell ⟨b, i, none⟩ v).heap[g]? = W.heap[g]? := by
  simp [World.setCell, Array.getElem?_modify, h]
theorem results_row_tmp {fn : Func} {p q : Tmp} {ty : TypeId} (h : fn.results = #[.cell p ty, .tmp q]) (tmps : Array Value) (w : World) (g : Nat) (cs : Array Value) (u : Value) (d : TypeDesc)
    (hp : tmps.getD p undef = .pointer (some ⟨g, 0, none⟩)) (hq : tmps.getD q undef = u) (hg : w.heap[g]? = some (.cells cs ty (0, 0)))
    (hu : Tryd.prog.underlying ty = some d) (hd : (match d with | .struct _ | .array _ _ => true | _ => false) = true) (hi : (Tryd.prog.info? ty).map (·.size) = some cs.size) :
    (results fn tmps).run Tryd.prog w = .ok (.tuple #[.agg cs, u]) w := by
  have hp' : tmps[p]?.getD undef = .pointer (some ⟨g, 0, none⟩) := by simpa using hp
  have hq' : tmps[q]?.getD undef = u := by simpa using hq
  have := run_loadVar_row (P := Tryd.prog) w g ty ty cs (0, 0) d hg hu (by cases d <;> simp_all) hi
  simp [results, h, hp', hq', asAddr, this]
theorem size37 : (Tryd.prog.info? 37).map (·.size) = some 3 := by kernel_rfl
def RootPost (s : Str) (c : Int) (w : World) (e : Ending) (w' : World) : Prop := e = .returned (.tuple #[.string ⟨s.toArray⟩, .int .i64 c]) ∧ Below w.heap.size w w'
set_option maxRecDepth 100000 in
set_option maxHeartbeats 1000000 in
theorem Root_ok (v : Value) (l : List Ent) (w : World) (hv : SE w v l) (hm : mapB l = true) (hT : Tab w) : Calls Tryd.prog 13 #[v] w (RootPost (rootL l) 0 w) := by
  obtain ⟨m1, m2, m3⟩ := mapB_facts l hm
  have h1 := Lib.hid (Valid_any v l w hv (by omega))
  rw [hm] at h1
  have h2 := Lib.hid (fun W (B : Below w.heap.size w W) => fold_any v l emp W (hv.below B) rfl (by omega) rfl m2)
  have h3 := Lib.hid (fun W (B : Below w.heap.size w W) => grow_any (putV emp l) (.slice none 0 0) (.slice none 0 0) [] [] W rfl (mapV_len l) (putV_small l 1000000 emp (emp_small _) (fun e he => by have := (m3 e he).1; omega)) (SLG.nil _ _ _) (SLG.nil _ _ _) (fun p hp => by cases hp) (fun s hs => by cases hs) (by simp) (by simp) (hT.below B))
  have hix := idx70 (treeL [] [] (putV emp l)) (treeL_len _ _ _)
  have hp1 : (treeL [] [] (putV emp l)).getD 1 [] = rootL l := tree_part l 1 (by omega) (by omega)
  rw [hp1] at hix
  generalize treeL [] [] (putV emp l) = L at *
  generalize rootL l = R at *
  generalize putV emp l = V at *
  clear hv m1 m2 m3 hm hT hp1
  go_enter Tryd.func13, Tryd.ntmps13
  go_wp2_with fail
  refine h1.out.mono ?_
  rintro e w1 ⟨rfl, b1⟩
  go_wp2_with fail
  rw [z64s]
  refine (h2.out _ b1).mono ?_
  rintro e w2 ⟨rfl, b2⟩
  have b2 := b1.trans (b2.mono b1.size)
  go_wp2_with fail
  refine (h3.out _ b2).mono ?_
  rintro e w3 ⟨rfl, b3⟩
  have b3 := b2.trans (b3.mono b2.size)
  go_wp2_with fail
  go_ret2
  exact ⟨rfl, b3⟩
theorem Root_bad (v : Value) (l : List Ent) (w : World) (hv : SE w v l) (hn : l.length ≤ 140737488351232) (hm : mapB l = false) : Calls Tryd.prog 13 #[v] w (RootPost [] 40 w) := by
  have h1 := Lib.hid (Valid_any v l w hv hn)
  rw [hm] at h1
  clear hv hm
  go_enter Tryd.func13, Tryd.ntmps13
  go_wp2_with fail
  refine h1.out.mono ?_
  rintro e w1 ⟨rfl, b1⟩
  go_wp2_with fail
  go_ret2
  exact ⟨rfl, b1⟩

/-- what the first loop of Prove has in memory: the struct at b8, its values so far -/
def Pr1 (W0 W3 : World) (b8 : Nat) (kv : Value) (l : List Str) (n : Nat) (wr : World) : Prop :=
  ∃ vv, wr.heap[b8]? = some (.cells #[kv, vv, .slice none 0 0] 37 (0, 0)) ∧ OS wr (b8 + 1) vv (l.take n) ∧ Below b8 W3 wr ∧ Below W0.heap.size W0 wr
def ProvePost (l : List Ent) (ks : List Int) (w : World) (e : Ending) (w' : World) : Prop := ∃ vo, e = .returned (.tuple #[vo, .int .i64 0]) ∧ OpV w' vo ks (valsL l ks) (pathL l ks) ∧ Below w.heap.size w w'

set_option linter.unusedSimpArgs false in
set_option maxRecDepth 100000 in
set_option maxHeartbeats 2000000 in
theorem Prove_ok (v vk : Value) (l : List Ent) (ks : List Int) (w : World) {W0 : World} (hW : W0 = w) (hv : SE W0 v l) (hvk : SI W0 vk ks) (hm : mapB l = true) (hk : ascB (-1) ks = true) (hT : Tab W0) : Calls Tryd.prog 18 #[v, vk] w (ProvePost l ks w) := by
  subst hW
  obtain ⟨m1, m2, m3⟩ := mapB_facts l hm
  have hkb := ascB_bd ks (-1) (by omega) hk
  have hkl := ascB_len ks (-1) (by omega) (by omega) hk
  have h1 := Lib.hid (show ∀ W, Below W0.heap.size W0 W → _ from fun W B => Valid_any v l W (hv.below B) (by omega))
  rw [hm] at h1
  have h1b := Lib.hid (show ∀ W, Below W0.heap.size W0 W → _ from fun W B => keyList_any vk ks W (hvk.below B) (by omega))
  rw [hk] at h1b
  have h2 := Lib.hid (fun W (B : Below W0.heap.size W0 W) => fold_any v l emp W (hv.below B) rfl (by omega) rfl m2)
  have hVs := putV_small l 1000000 emp (emp_small _) (fun e he => by have := (m3 e he).1; omega)
  have h3 := Lib.hid (fun W (B : Below W0.heap.size W0 W) => grow_any (putV emp l) (.slice none 0 0) (.slice none 0 0) [] [] W rfl (mapV_len l) hVs (SLG.nil _ _ _) (SLG.nil _ _ _) (fun p hp => by cases hp) (fun s hs => by cases hs) (by simp) (by simp) (hT.below B))
  have h4 := Lib.hid (fun W (B : Below W0.heap.size W0 W) => CloneI_any vk ks W (hvk.below B) (by omega))
  have h5 := Lib.hid (show ∀ W, Below W0.heap.size W0 W → Calls Tryd.prog 48 #[vk] W (RowI (nI (closedL (tN ks))) W) from fun W B => by
    refine closed_any vk (tN ks) W (by rw [nI_tN ks (fun x hx => by have := (hkb x hx).1; omega)]; exact hvk.below B) rfl (fun k hk => ?_) (by simp [tN]; omega)
    simp only [tN, List.mem_map] at hk
    obtain ⟨x, hx, rfl⟩ := hk
    have := hkb x hx; omega)
  have hka := Lib.hid (show ∀ (k : Nat) (hk : k < ks.length), _ from fun k hk => SI.at hvk k hk)
  have hVl := mapV_len l
  have hLl := treeL_len [] [] (putV emp l)
  have htp := Lib.hid (tree_part l)
  have hvals : Hid (valsL l ks = (tN ks).map (vF (mapV l))) := rfl
  have hpath : Hid (pathL l ks = (closedL (tN ks)).map (partV l)) := rfl
  unfold ProvePost
  unfold mapV at htp hvals hVl
  generalize valsL l ks = VL at *
  generalize pathL l ks = PL at *
  generalize treeL [] [] (putV emp l) = L at *
  generalize putV emp l = V at *
  obtain ⟨k1, k2, rfl⟩ := hvk.shape
  have hks := Lib.hid hkb
  have hVsh := Lib.hid hVs
  obtain ⟨N, hN⟩ : ∃ N, Hid (N = ks.length) := ⟨_, rfl⟩
  rw [← hN.out] at hkl h1b h4 h5 ⊢
  have hkl : N ≤ 64 := by omega
  clear hv hvk m1 m2 m3 hm hk hT hkb hVs
  go_enter Tryd.func18, Tryd.ntmps18
  go_upto_region 1 with (fail)
  obtain ⟨wA, hwA⟩ : ∃ wA, wA = W0.alloc (.cells #[.slice none 0 0, .slice none 0 0, .slice none 0 0] 37) := ⟨_, rfl⟩
  rw [← hwA]
  have zA : wA.heap.size = W0.heap.size + 1 := by rw [hwA]; simp
  have hA4 : wA.heap[W0.heap.size]? = some (.cells #[.slice none 0 0, .slice none 0 0, .slice none 0 0] 37 (0, 0)) := by rw [hwA]; exact heap_alloc_new W0 _
  have BA : Below W0.heap.size W0 wA := by rw [hwA]; exact (Below.refl _ _).alloc (Nat.le_refl _) _
  have hA4 := Lib.hid hA4
  rename_i hA4o
  clear hA4o hwA
  have toW := Lib.hid (show ∀ W, Below wA.heap.size wA W → Below W0.heap.size W0 W from fun W B => BA.trans (B.mono BA.size))
  have zAh := Lib.hid zA
  clear BA zA
  go_wp2_with fail
  refine (h1.out _ (toW.out _ (Below.refl _ _))).mono ?_
  rintro e w1 ⟨rfl, b1⟩
  go_wp2_with fail
  refine (h1b.out _ (toW.out _ b1)).mono ?_
  rintro e w2 ⟨rfl, b2⟩
  have b2 := b1.trans (b2.mono b1.size)
  go_wp2_with fail
  rw [z64s]
  refine (h2.out _ (toW.out _ b2)).mono ?_
  rintro e w3 ⟨rfl, b3⟩
  have b3 := b2.trans (b3.mono b2.size)
  clear b1 b2 h1 h1b h2
  have zz1 := Lib.hid (size73l V hVl)
  have zz2 := Lib.hid (sz64 V hVl)
  have zz3 := Lib.hid (size70l L hLl)
  have zz4 := Lib.hid (sz128 L hLl)
  have hVlh := Lib.hid hVl
  have hLlh := Lib.hid hLl
  clear hVl hLl
  go_upto_region 4 with (refine wpList_store_row rfl 73 (.tmp 6) (.tmp 24) rfl w3.heap.size (cT V).toArray rfl rfl 73 _ (heap_alloc_new w3 _) zz1.out zz2.out (cT_all _) ?_)
  rw [z64s]
  obtain ⟨W4, hW4⟩ : ∃ W4, W4 = (w3.alloc (.cells (cT emp).toArray 73)).setRow w3.heap.size (cT V).toArray := ⟨_, rfl⟩
  rw [← hW4]
  have hr6 : RowT 73 W4 w3.heap.size V := by rw [hW4]; exact setRow_heap _ _ _ _ _ _ (heap_alloc_new w3 _)
  have b4 : Below wA.heap.size wA W4 := by rw [hW4]; exact below_setRow (b3.alloc b3.size _) (by have := b3.size; omega) _
  have s6 : w3.heap.size < W4.heap.size := hr6.lt
  have s6a : wA.heap.size ≤ w3.heap.size := b3.size
  clear hW4 b3
  obtain ⟨b6, hb6⟩ : ∃ b6, w3.heap.size = b6 := ⟨_, rfl⟩
  rw [hb6] at hr6 s6 s6a ⊢
  clear hb6
  have hr6h := Lib.hid hr6
  clear hr6
  go_wp2_with (refine wpList_load_row rfl 73 (.tmp 6) rfl b6 rfl 73 (cT V).toArray (0, 0) _ hr6h.out Tryd.underlying73 rfl zz1.out ?_)
  refine (h3.out _ (toW.out _ b4)).mono ?_
  rintro e w5 ⟨rfl, b5⟩
  have hr6 := hr6h.out.below b5 s6
  have s6 : b6 < w5.heap.size := Nat.lt_of_lt_of_le s6 b5.size
  have b5 := b4.trans (b5.mono b4.size)
  clear b4 hr6h h3
  go_upto_region 5 with (refine wpList_store_row rfl 70 (.tmp 7) (.tmp 26) rfl w5.heap.size (cT L).toArray rfl rfl 70 _ (heap_alloc_new w5 _) zz3.out zz4.out (cT_all _) ?_)
  rw [z128s]
  obtain ⟨W6, hW6⟩ : ∃ W6, W6 = (w5.alloc (.cells (cT emp2).toArray 70)).setRow w5.heap.size (cT L).toArray := ⟨_, rfl⟩
  rw [← hW6]
  have hr7 : RowT 70 W6 w5.heap.size L := by rw [hW6]; exact setRow_heap _ _ _ _ _ _ (heap_alloc_new w5 _)
  have B56 : Below w5.heap.size w5 W6 := by rw [hW6]; exact below_setRow ((Below.refl _ _).alloc (Nat.le_refl _) _) (Nat.le_refl _) _
  have b6' : Below wA.heap.size wA W6 := b5.trans (B56.mono b5.size)
  have hr6 := hr6.below B56 s6
  have s7 : w5.heap.size < W6.heap.size := hr7.lt
  clear hW6 b5 B56
  obtain ⟨b7, hb7⟩ : ∃ b7, w5.heap.size = b7 := ⟨_, rfl⟩
  rw [hb7] at hr7 s7 s6 ⊢
  clear hb7
  go_wp2_with fail
  refine (h4.out _ (toW.out _ b6')).mono ?_
  rintro e w7 ⟨kv, rfl, hkv, b7w⟩
  have hr6 := hr6.below b7w (by omega)
  have hr7 := hr7.below b7w s7
  have s7 : b7 < w7.heap.size := Nat.lt_of_lt_of_le s7 b7w.size
  have b8w := b6'.trans (b7w.mono b6'.size)
  clear b7w h4
  obtain ⟨kva, kvc, rfl⟩ := (OwnG.SL eI_len hkv).shape
  rw [← hN.out]
  have hkvS := Lib.hid (show OI w7 (W0.heap.size + 1) (.slice kva ks.length kvc) ks from hkv.mono (by have := b6'.size; have := zAh.out; omega))
  have hkvL := Lib.hid (OwnG.lt hkv)
  clear hkv
  go_upto_region 6 with (fail)
  have hs8 := heap_alloc_new w7 (.cells #[.slice kva N kvc, .slice none 0 0, .slice none 0 0] 37)
  have hz8 : (w7.alloc (.cells #[.slice kva N kvc, .slice none 0 0, .slice none 0 0] 37)).heap.size = w7.heap.size + 1 := by simp
  have hB8 : Below w7.heap.size w7 (w7.alloc (.cells #[.slice kva N kvc, .slice none 0 0, .slice none 0 0] 37)) := (Below.refl _ _).alloc (Nat.le_refl _) _
  generalize (w7.alloc (.cells #[.slice kva N kvc, .slice none 0 0, .slice none 0 0] 37)) = wB at *
  have hAb : wA.heap.size ≤ w7.heap.size := b8w.size
  obtain ⟨b8, hb8⟩ : ∃ b8, w7.heap.size = b8 := ⟨_, rfl⟩
  rw [hb8] at hs8 hz8 hB8 hAb s7 ⊢
  have fR6 := Lib.hid (show ∀ W, Below b8 w7 W → RowT 73 W b6 V from fun W B => hr6.below B (by omega))
  have fR7 := Lib.hid (show ∀ W, Below b8 w7 W → RowT 70 W b7 L from fun W B => hr7.below B (by omega))
  have fK := Lib.hid (show ∀ W, Below b8 w7 W → OI W (W0.heap.size + 1) (.slice kva N kvc) ks from fun W B => by have := hkvS.out.keep B (fun k hk => by rw [← hb8]; exact hkvL.out k hk); rwa [← hN.out] at this)
  have fA := Lib.hid (show ∀ W, Below b8 w7 W → Below wA.heap.size wA W from fun W B => b8w.trans (B.mono hAb))
  have f4 := Lib.hid (show ∀ W, Below b8 w7 W → W.heap[W0.heap.size]? = some (.cells #[.slice none 0 0, .slice none 0 0, .slice none 0 0] 37 (0, 0)) from fun W B => ((fA.out W B).block _ (by rw [zAh.out]; omega)).trans hA4.out)
  have h48 : W0.heap.size < b8 := by have := zAh.out; omega
  clear hr6 hr7 hkvS hkvL b8w hA4 hb8 hAb b6'
  go_wp2_with fail
  go_loopw [32] (fun i wr => ∃ n : Nat, n ≤ N ∧ i = .int .i64 n ∧ ∃ xa xn xc, wr.heap[b8]? = some (.cells #[.slice kva N kvc, .slice xa xn xc, .slice none 0 0] 37 (0, 0)) ∧ OS wr (b8 + 1) (.slice xa xn xc) (VL.take n) ∧ Below b8 w7 wr ∧ b8 + 1 ≤ wr.heap.size) (fun i _ => N - (intOf i).toNat)
  case atStart => exact ⟨0, by omega, rfl, none, 0, 0, hs8, OwnG.nil _ _, hB8, by omega⟩
  case round =>
    clear hs8 hz8 hB8
    obtain ⟨n, hn, rfl, xa, xn, xc, g8, hown, B, hb4⟩ := hrel
    by_cases hlt : n < N
    · have hnk : n < ks.length := by rw [← hN.out]; exact hlt
      obtain ⟨b, o, c', he, hcell⟩ := hka.out n hnk
      injection he with he1 he2 he3
      subst he1
      have hcc := hcell wr (toW.out _ (fA.out _ B))
      have hb := hks.out ks[n] (List.getElem_mem hnk)
      have hvn : n < VL.length := by rw [hvals.out]; simpa [tN] using hnk
      have hsn : Hid (VL.take (n + 1) = VL.take n ++ [V.getD ks[n].toNat []]) := by
        show _ = _
        rw [List.take_succ_eq_append_getElem hvn]
        congr 2
        simp only [hvals.out, tN, List.getElem_map, vF]
      clear hcell he2 he3
      obtain ⟨p, hp⟩ : ∃ p : Nat, ks[n] = (p : Int) := ⟨ks[n].toNat, by omega⟩
      rw [hp] at hcc hb hsn
      rw [Int.toNat_natCast] at hsn
      clear hp
      have hp64 : p < 64 := by omega
      have c6 := (fR6.out wr B).cell p (by rw [hVlh.out]; exact hp64)
      have hsl : List.length (V.getD p []) ≤ 1000000 := by
        rw [List.getD_eq_getElem?_getD]
        cases e : V[p]? with
        | none => simp
        | some s => exact hVsh.out s (List.mem_of_getElem? e)
      generalize V.getD p [] = s at *
      have hlen : (VL.take n).length ≤ 1000 := by have := List.length_take_le n VL; omega
      have c1 : wr.cell? ⟨b8, 1, none⟩ = some (.slice xa xn xc) := by rw [cell_of_row _ _ _ _ _ _ g8]; rfl
      have hcl := Lib.hid (fun W => Clone_any s W (by omega))
      have happ := Lib.hid (show ∀ W, Below wr.heap.size wr W → _ from fun W BW => app_field W b8 (b8 + 1) #[.slice kva N kvc, .slice xa xn xc, .slice none 0 0] (.slice xa xn xc) (VL.take n) s (by omega) (Nat.le_trans hb4 BW.size) ((BW.block b8 (by omega)).trans g8) (hown.below BW) (by omega))
      have hfin := Lib.hid (show ∀ W, Below wr.heap.size wr W → ∀ v' w', Below (b8 + 1) W w' → OS w' (b8 + 1) v' (VL.take n ++ [s]) → w'.heap[b8]? = some (.cells #[.slice kva N kvc, .slice xa xn xc, .slice none 0 0] 37 (0, 0)) →
          ((w'.setCell ⟨b8, 1, none⟩ v').heap[b8]? = some (.cells #[.slice kva N kvc, v', .slice none 0 0] 37 (0, 0)) ∧ OS (w'.setCell ⟨b8, 1, none⟩ v') (b8 + 1) v' (VL.take (n + 1)) ∧ Below b8 w7 (w'.setCell ⟨b8, 1, none⟩ v') ∧ b8 + 1 ≤ (w'.setCell ⟨b8, 1, none⟩ v').heap.size) from fun W BW v' w' Bw ow g => by
        refine ⟨set_field g, by rw [hsn.out]; exact ow.set (by omega) _ _, ((B.trans (BW.mono (by omega))).trans (Bw.mono (by omega))).setCell (by simp) _, ?_⟩
        have := Bw.size; have := BW.size; simp; omega)
      have sK := Lib.hid (show ∀ W, Below (b8 + 1) wr W → W.cell? ⟨b8, 1, none⟩ = some (.slice xa xn xc) ∧ W.cell? ⟨b6, p, none⟩ = some (.string ⟨s.toArray⟩) from fun W BW => ⟨by rw [BW.cell (p := ⟨b8, 1, none⟩) (by simp)]; exact c1, by rw [BW.cell (p := ⟨b6, p, none⟩) (by simp; omega)]; exact c6⟩)
      have hS0 := Lib.hid (sK.out wr.drew (Below.refl _ _).drew)
      have i0 : (0 : Int) ≤ (n : Int) := by omega
      have i1 : (n : Int) < (N : Int) := by omega
      have i2 : (0 : Int) ≤ (p : Int) := by omega
      have i3 : (p : Int) < 64 := by omega
      have hxn : xn = xn := rfl
      clear g8 hown B hb hsn hvn hsl hlen c1 c6 hxn
      go_wp2_with fail
      refine wp_region_F (fun w' : World => w'.cell? ⟨b8, 1, none⟩ = some (.slice xa xn xc) ∧ w'.cell? ⟨b6, p, none⟩ = some (.string ⟨s.toArray⟩)) 9 (by kernel_rfl) hS0.out (fun hHeld => ?_)
      refine wpAnyF_take (i := 0) (oi := { dst := some 36, op := Op.fieldAddr 37 (Operand.tmp 8) 1, type := _, pos := _, after := _, guard := none }) (v := ?_) rfl (by kernel_rfl) (by kernel_rfl) (by kernel_rfl) (by kernel_rfl) (fun _ _ _ h => h) (Or.inl ⟨by rfl, ?_⟩) (by assumption) ?_
      rotate_left
      · ((intro w hSw; (try dsimp only at hSw); go_simp) <;> with_reducible rfl)
      try simp only [Act.put, List.setIfInBounds_toArray, List.set_cons_zero, List.set_cons_succ]
      refine wpAnyF_take (i := 1) (oi := { dst := some 37, op := Op.load 35 (Operand.tmp 36), type := _, pos := _, after := _, guard := none }) (v := ?_) rfl (by kernel_rfl) (by kernel_rfl) (by kernel_rfl) (by kernel_rfl) (fun _ _ _ h => h) (Or.inl ⟨by rfl, ?_⟩) (by assumption) ?_
      rotate_left
      · ((intro w hSw; (try dsimp only at hSw); go_simp) <;> with_reducible rfl)
      try simp only [Act.put, List.setIfInBounds_toArray, List.set_cons_zero, List.set_cons_succ]
      refine wpAnyF_take (i := 2) (oi := { dst := some 38, op := Op.move (Operand.tmp 10), type := _, pos := _, after := _, guard := none }) (v := ?_) rfl (by kernel_rfl) (by kernel_rfl) (by kernel_rfl) (by kernel_rfl) (fun _ _ _ h => h) (Or.inl ⟨by rfl, ?_⟩) (by assumption) ?_
      rotate_left
      · ((intro w hSw; (try dsimp only at hSw); go_simp) <;> with_reducible rfl)
      try simp only [Act.put, List.setIfInBounds_toArray, List.set_cons_zero, List.set_cons_succ]
      refine wpAnyF_take (i := 3) (oi := { dst := some 39, op := Op.indexAddr 73 (Operand.tmp 6) (Operand.tmp 38), type := _, pos := _, after := _, guard := none }) (v := ?_) rfl (by kernel_rfl) (by kernel_rfl) (by kernel_rfl) (by kernel_rfl) (fun _ _ _ h => h) (Or.inl ⟨by rfl, ?_⟩) (by assumption) ?_
      rotate_left
      · ((intro w hSw; (try dsimp only at hSw); go_simp) <;> with_reducible rfl)
      try simp only [Act.put, List.setIfInBounds_toArray, List.set_cons_zero, List.set_cons_succ]
      refine wpAnyF_take (i := 4) (oi := { dst := some 40, op := Op.load 9 (Operand.tmp 39), type := _, pos := _, after := _, guard := none }) (v := ?_) rfl (by kernel_rfl) (by kernel_rfl) (by kernel_rfl) (by kernel_rfl) (fun _ _ _ h => h) (Or.inl ⟨by rfl, ?_⟩) (by assumption) ?_
      rotate_left
      · ((intro w hSw; (try dsimp only at hSw); go_simp) <;> with_reducible rfl)
      try simp only [Act.put, List.setIfInBounds_toArray, List.set_cons_zero, List.set_cons_succ]
      refine wpAnyF_ready (rs := [5]) (by kernel_rfl) (by simp) ?_
      refine AllReadyF.cons (o := { dst := some 41, op := Op.call { callee := Callee.value (Operand.func 47), args := #[(Operand.tmp 40)], argTypes := #[9] }, type := _, pos := _, after := _, guard := none }) rfl (fun K hK => ?_) ?_
      · skip
        go_simp
        with_reducible refine (hcl.out _).mono ?_
        rintro e W2 ⟨rfl, d2⟩
        have B2 : Below wr.heap.size wr W2 := (Below.refl _ wr).drew.trans d2
        clear d2
        go_wp2_with fail
        refine hK.out _ _ ?_ (fun hHeld => ?_)
        · exact sK.out W2 (B2.mono hb4)
        clear hK K
        try simp only [Act.put, List.setIfInBounds_toArray, List.set_cons_zero, List.set_cons_succ]
        refine wpAnyF_ready (rs := [6]) (by kernel_rfl) (by simp) ?_
        refine AllReadyF.cons (o := { dst := some 42, op := Op.buildSlice 35 1 #[(0, (Operand.tmp 41))], type := _, pos := _, after := _, guard := none }) rfl (fun K hK => ?_) ?_
        · skip
          go_simp
          go_wp2_with fail
          refine hK.out _ _ ?_ (fun hHeld => ?_)
          · exact sK.out _ ((B2.mono hb4).alloc (Nat.le_trans hb4 B2.size) _)
          clear hK K
          try simp only [Act.put, List.setIfInBounds_toArray, List.set_cons_zero, List.set_cons_succ]
          refine wpAnyF_ready (rs := [7]) (by kernel_rfl) (by simp) ?_
          refine AllReadyF.cons (o := { dst := some 43, op := Op.call { callee := Callee.builtin Builtin.append, args := #[(Operand.tmp 37), (Operand.tmp 42)], argTypes := #[35, 35] }, type := _, pos := _, after := _, guard := none }) rfl (fun K hK => ?_) ?_
          · skip
            obtain ⟨v', w', ⟨ya, yk, yc, rfl⟩, hr, g8, bw, ow⟩ := happ.out W2 B2
            have f8 := free_of_block (i := 1) g8
            have c8 : w'.cell? ⟨b8, 1, none⟩ = some (.slice xa xn xc) := by rw [cell_of_row _ _ _ _ _ _ g8]; rfl
            refine wp_append_run (.tmp 37) (.tmp 42) 35 rfl (.slice xa xn xc) (.slice (some ⟨W2.heap.size, 0, none⟩) 1 1) rfl rfl _ _ hr ?_
            refine hK.out _ _ ?_ (fun hHeld => ?_)
            · exact sK.out _ ((B2.mono hb4).trans bw)
            clear hK K
            try simp only [Act.put, List.setIfInBounds_toArray, List.set_cons_zero, List.set_cons_succ]
            refine wpAnyF_take (i := 8) (oi := { dst := some 44, op := Op.fieldAddr 37 (Operand.tmp 8) 1, type := _, pos := _, after := _, guard := none }) (v := ?_) rfl (by kernel_rfl) (by kernel_rfl) (by kernel_rfl) (by kernel_rfl) (fun _ _ _ h => h) (Or.inl ⟨by rfl, ?_⟩) (by assumption) ?_
            rotate_left
            · ((intro w hSw; (try dsimp only at hSw); go_simp) <;> with_reducible rfl)
            try simp only [Act.put, List.setIfInBounds_toArray, List.set_cons_zero, List.set_cons_succ]
            refine wpAnyF_ready (rs := [9]) (by kernel_rfl) (by simp) ?_
            refine AllReadyF.last (o := { dst := none, op := Op.store 35 (Operand.tmp 44) (Operand.tmp 43), type := _, pos := _, after := _, guard := none }) rfl (fun K hK => ?_) ?_
            · skip
              go_simp
              go_wp2_with fail
              refine hK.out _ _ ?_
              clear hK K
              try simp only [Act.put, List.setIfInBounds_toArray, List.set_cons_zero, List.set_cons_succ]
              refine wpAnyF_done (by kernel_rfl) ?_ _
              have hend0 := hfin.out W2 B2 _ _ bw ow g8
              have hend := Lib.hid hend0
              clear hend0
              go_wp2_with fail
              go_roundw
              case rel => exact ⟨n + 1, by omega, by go_num, _, _, _, hend.out⟩
              case measure => simp [intOf]; omega
            exact AllReadyF.nil
          exact AllReadyF.nil
        exact AllReadyF.nil
      exact AllReadyF.nil
    · have hnN : n = N := by omega
      have hVLl : VL.length = N := by rw [hvals.out, hN.out]; simp [tN]
      have hfull : VL.take n = VL := List.take_of_length_le (by omega)
      rw [hfull] at hown
      have i1 : ¬ (n : Int) < (N : Int) := by omega
      have h5' := Lib.hid (h5.out wr (toW.out _ (fA.out _ B)))
      have gh := Lib.hid g8
      have oh := Lib.hid hown
      have Bh := Lib.hid B
      clear hnN hfull hVLl h5 hka g8 hown B hvals
      go_wp2_with fail
      refine h5'.out.mono ?_
      rintro e w9 ⟨cv, rfl, ocv, b9⟩
      have g8 := (b9.block b8 (by omega)).trans gh.out
      have hown := oh.out.below b9
      have B9 : Below b8 w7 w9 := Bh.out.trans (b9.mono (by omega))
      have hb9 : b8 + 1 ≤ w9.heap.size := Nat.le_trans hb4 b9.size
      have hvB := Lib.hid (OwnG.lt hown)
      have hcl64 : (closedL (tN ks)).length ≤ 64 := clF_size (tN ks) 6 1
      have hblk : ∀ p ∈ closedL (tN ks), 1 ≤ p ∧ p < 128 := fun p hp => closedL_bd (tN ks) p hp
      have hcn : closedL (tN ks) = [] ∨ closedL (tN ks) ≠ [] := by by_cases h : closedL (tN ks) = [] <;> simp [h]
      obtain ⟨ca, cc, hcsh⟩ := (OwnG.SL eI_len ocv).shape
      have hM0 : (nI (closedL (tN ks))).length = (closedL (tN ks)).length := by simp [nI]
      have hMh := Lib.hid (show ∀ (k : Nat) (hk : k < (closedL (tN ks)).length), ∃ g, ca = some ⟨g, 0, none⟩ ∧ b8 < g ∧ g < w9.heap.size ∧ ∀ W' : World, W'.heap[g]? = w9.heap[g]? → W'.cell? ⟨g, k, none⟩ = some (.int .i64 (((closedL (tN ks))[k] : Nat) : Int)) from fun k hk => by
        obtain ⟨g, c, e1, e2, e3, e4⟩ := OI.cellAt ocv (fun e => by rw [e] at hM0; simp at hM0; omega)
        rw [hcsh] at e1
        injection e1 with e1
        exact ⟨g, e1, by omega, e3, fun W' hW => by have := e4 W' hW k (by omega); simpa [nI] using this⟩)
      rw [hM0] at hcsh
      subst hcsh
      have hPLl : Hid (PL = (closedL (tN ks)).map (partV l)) := hpath.out
      have hblkh := Lib.hid hblk
      generalize closedL (tN ks) = CL at *
      obtain ⟨M, hM⟩ : ∃ M, Hid (M = CL.length) := ⟨_, rfl⟩
      have hM64 : M ≤ 64 := by rw [hM.out]; exact hcl64
      rw [← hM.out]
      obtain ⟨q2, hq2⟩ : ∃ q2, w9.heap.size = q2 := ⟨_, rfl⟩
      rw [hq2] at hvB hMh hb9
      have hown0 : OS w9 q2 (.slice none 0 0) (PL.take 0) := OwnG.nil _ _
      have hq2' : q2 ≤ w9.heap.size := by omega
      clear hM0 hblk hcn ocv b9 gh oh Bh h5' hcl64 hpath hq2
      go_wp2_with fail
      go_loopw [49] (fun i wr => ∃ n : Nat, n ≤ M ∧ i = .int .i64 n ∧ ∃ ya yn yc, wr.heap[b8]? = some (.cells #[.slice kva N kvc, .slice xa xn xc, .slice ya yn yc] 37 (0, 0)) ∧ OS wr q2 (.slice ya yn yc) (PL.take n) ∧ OS wr (b8 + 1) (.slice xa xn xc) VL ∧ Below b8 w7 wr ∧ q2 ≤ wr.heap.size ∧ Hid (∀ g, b8 < g → g < q2 → wr.heap[g]? = w9.heap[g]?)) (fun i _ => M - (intOf i).toNat)
      case atStart => exact ⟨0, by omega, rfl, none, 0, 0, g8, hown0, hown, B9, hq2', fun g _ _ => rfl⟩
      case round =>
        clear g8 hown0 hown B9 hq2' hlt i1
        obtain ⟨n, hn, rfl, ya, yn, yc, g8, hown, hvv, B, hb5, hkeep⟩ := hrel
        by_cases hlt : n < M
        · have hnk : n < CL.length := by rw [← hM.out]; exact hlt
          obtain ⟨g, rfl, hg1, hg2, hcell⟩ := hMh.out n hnk
          have hcc := hcell wr (hkeep.out g hg1 hg2)
          have hb := hblkh.out CL[n] (List.getElem_mem hnk)
          have hvn : n < PL.length := by rw [hPLl.out]; simpa using hnk
          have hsn : Hid (PL.take (n + 1) = PL.take n ++ [L.getD CL[n] []]) := by
            show _ = _
            rw [List.take_succ_eq_append_getElem hvn, htp.out _ hb.1 hb.2]
            congr 2
            simp only [hPLl.out, List.getElem_map]
          clear hcell hg1 hg2
          generalize CL[n] = p at *
          have c7 := (fR7.out wr B).cell p (by rw [hLlh.out]; exact hb.2)
          generalize L.getD p [] = s at *
          have hlen : (PL.take n).length ≤ 1000 := by have := List.length_take_le n PL; omega
          have c1 : wr.cell? ⟨b8, 2, none⟩ = some (.slice ya yn yc) := by rw [cell_of_row _ _ _ _ _ _ g8]; rfl
          have h8q : b8 < q2 := by omega
          have happ := Lib.hid (show ∀ W, Below wr.heap.size wr W → _ from fun W BW => app_field W b8 q2 #[.slice kva N kvc, .slice xa xn xc, .slice ya yn yc] (.slice ya yn yc) (PL.take n) s h8q (Nat.le_trans hb5 BW.size) ((BW.block b8 (by omega)).trans g8) (hown.below BW) (by omega))
          have hfin := Lib.hid (show ∀ W, Below wr.heap.size wr W → ∀ v' w', Below q2 W w' → OS w' q2 v' (PL.take n ++ [s]) → w'.heap[b8]? = some (.cells #[.slice kva N kvc, .slice xa xn xc, .slice ya yn yc] 37 (0, 0)) →
              ((w'.setCell ⟨b8, 2, none⟩ v').heap[b8]? = some (.cells #[.slice kva N kvc, .slice xa xn xc, v'] 37 (0, 0)) ∧ OS (w'.setCell ⟨b8, 2, none⟩ v') q2 v' (PL.take (n + 1)) ∧ OS (w'.setCell ⟨b8, 2, none⟩ v') (b8 + 1) (.slice xa xn xc) VL ∧ Below b8 w7 (w'.setCell ⟨b8, 2, none⟩ v') ∧ q2 ≤ (w'.setCell ⟨b8, 2, none⟩ v').heap.size ∧ Hid (∀ g, b8 < g → g < q2 → (w'.setCell ⟨b8, 2, none⟩ v').heap[g]? = w9.heap[g]?)) from fun W BW v' w' Bw ow g => by
            refine ⟨set_field g, by rw [hsn.out]; exact ow.set h8q _ _, ((hvv.below BW).keep Bw hvB.out).set (by omega) _ _, ((B.trans (BW.mono (by omega))).trans (Bw.mono (by omega))).setCell (by simp) _, ?_, fun g h1 h2 => ?_⟩
            · have := Bw.size; have := BW.size; simp; omega
            · rw [heap_set_ne (by omega), Bw.block g h2, BW.block g (by omega)]; exact hkeep.out g h1 h2)
          have sK := Lib.hid (show ∀ W, Below q2 wr W → W.cell? ⟨b8, 2, none⟩ = some (.slice ya yn yc) ∧ W.cell? ⟨b7, p, none⟩ = some (.string ⟨s.toArray⟩) from fun W BW => ⟨by rw [BW.cell (p := ⟨b8, 2, none⟩) (by simpa using h8q)]; exact c1, by rw [BW.cell (p := ⟨b7, p, none⟩) (by simp; omega)]; exact c7⟩)
          have hS0 := Lib.hid (sK.out wr.drew (Below.refl _ _).drew)
          have i0 : (0 : Int) ≤ (n : Int) := by omega
          have i1 : (n : Int) < (M : Int) := by omega
          have i2 : (0 : Int) ≤ (p : Int) := by omega
          have i3 : (p : Int) < 128 := by omega
          clear g8 hown hvv B hb hsn hvn hlen c1 c7 hkeep
          go_wp2_with fail
          refine wp_region_F (fun w' : World => w'.cell? ⟨b8, 2, none⟩ = some (.slice ya yn yc) ∧ w'.cell? ⟨b7, p, none⟩ = some (.string ⟨s.toArray⟩)) 8 (by kernel_rfl) hS0.out (fun hHeld => ?_)
          refine wpAnyF_take (i := 0) (oi := { dst := some 53, op := Op.fieldAddr 37 (Operand.tmp 8) 2, type := _, pos := _, after := _, guard := none }) (v := ?_) rfl (by kernel_rfl) (by kernel_rfl) (by kernel_rfl) (by kernel_rfl) (fun _ _ _ h => h) (Or.inl ⟨by rfl, ?_⟩) (by assumption) ?_
          rotate_left
          · ((intro w hSw; (try dsimp only at hSw); go_simp) <;> with_reducible rfl)
          try simp only [Act.put, List.setIfInBounds_toArray, List.set_cons_zero, List.set_cons_succ]
          refine wpAnyF_take (i := 1) (oi := { dst := some 54, op := Op.load 35 (Operand.tmp 53), type := _, pos := _, after := _, guard := none }) (v := ?_) rfl (by kernel_rfl) (by kernel_rfl) (by kernel_rfl) (by kernel_rfl) (fun _ _ _ h => h) (Or.inl ⟨by rfl, ?_⟩) (by assumption) ?_
          rotate_left
          · ((intro w hSw; (try dsimp only at hSw); go_simp) <;> with_reducible rfl)
          try simp only [Act.put, List.setIfInBounds_toArray, List.set_cons_zero, List.set_cons_succ]
          refine wpAnyF_take (i := 2) (oi := { dst := some 55, op := Op.move (Operand.tmp 12), type := _, pos := _, after := _, guard := none }) (v := ?_) rfl (by kernel_rfl) (by kernel_rfl) (by kernel_rfl) (by kernel_rfl) (fun _ _ _ h => h) (Or.inl ⟨by rfl, ?_⟩) (by assumption) ?_
          rotate_left
          · ((intro w hSw; (try dsimp only at hSw); go_simp) <;> with_reducible rfl)
          try simp only [Act.put, List.setIfInBounds_toArray, List.set_cons_zero, List.set_cons_succ]
          refine wpAnyF_take (i := 3) (oi := { dst := some 56, op := Op.indexAddr 70 (Operand.tmp 7) (Operand.tmp 55), type := _, pos := _, after := _, guard := none }) (v := ?_) rfl (by kernel_rfl) (by kernel_rfl) (by kernel_rfl) (by kernel_rfl) (fun _ _ _ h => h) (Or.inl ⟨by rfl, ?_⟩) (by assumption) ?_
          rotate_left
          · ((intro w hSw; (try dsimp only at hSw); go_simp) <;> with_reducible rfl)
          try simp only [Act.put, List.setIfInBounds_toArray, List.set_cons_zero, List.set_cons_succ]
          refine wpAnyF_take (i := 4) (oi := { dst := some 57, op := Op.load 9 (Operand.tmp 56), type := _, pos := _, after := _, guard := none }) (v := ?_) rfl (by kernel_rfl) (by kernel_rfl) (by kernel_rfl) (by kernel_rfl) (fun _ _ _ h => h) (Or.inl ⟨by rfl, ?_⟩) (by assumption) ?_
          rotate_left
          · ((intro w hSw; (try dsimp only at hSw); go_simp) <;> with_reducible rfl)
          try simp only [Act.put, List.setIfInBounds_toArray, List.set_cons_zero, List.set_cons_succ]
          refine wpAnyF_ready (rs := [5]) (by kernel_rfl) (by simp) ?_
          refine AllReadyF.cons (o := { dst := some 58, op := Op.buildSlice 35 1 #[(0, (Operand.tmp 57))], type := _, pos := _, after := _, guard := none }) rfl (fun K hK => ?_) ?_
          · skip
            go_simp
            go_wp2_with fail
            refine hK.out _ _ ?_ (fun hHeld => ?_)
            · exact sK.out _ (((Below.refl _ wr).drew.mono hb5).alloc hb5 _)
            clear hK K
            try simp only [Act.put, List.setIfInBounds_toArray, List.set_cons_zero, List.set_cons_succ]
            refine wpAnyF_ready (rs := [6]) (by kernel_rfl) (by simp) ?_
            refine AllReadyF.cons (o := { dst := some 59, op := Op.call { callee := Callee.builtin Builtin.append, args := #[(Operand.tmp 54), (Operand.tmp 58)], argTypes := #[35, 35] }, type := _, pos := _, after := _, guard := none }) rfl (fun K hK => ?_) ?_
            · skip
              obtain ⟨v', w', ⟨za, zk, zc, rfl⟩, hr, g8', bw, ow⟩ := happ.out wr.drew (Below.refl _ wr).drew
              have f8 := free_of_block (i := 2) g8'
              have c8 : w'.cell? ⟨b8, 2, none⟩ = some (.slice ya yn yc) := by rw [cell_of_row _ _ _ _ _ _ g8']; rfl
              refine wp_append_run (.tmp 54) (.tmp 58) 35 rfl (.slice ya yn yc) (.slice (some ⟨wr.heap.size, 0, none⟩) 1 1) rfl rfl _ _ hr ?_
              refine hK.out _ _ ?_ (fun hHeld => ?_)
              · exact sK.out _ (((Below.refl _ wr).drew.mono hb5).trans bw)
              clear hK K
              try simp only [Act.put, List.setIfInBounds_toArray, List.set_cons_zero, List.set_cons_succ]
              refine wpAnyF_take (i := 7) (oi := { dst := some 60, op := Op.fieldAddr 37 (Operand.tmp 8) 2, type := _, pos := _, after := _, guard := none }) (v := ?_) rfl (by kernel_rfl) (by kernel_rfl) (by kernel_rfl) (by kernel_rfl) (fun _ _ _ h => h) (Or.inl ⟨by rfl, ?_⟩) (by assumption) ?_
              rotate_left
              · ((intro w hSw; (try dsimp only at hSw); go_simp) <;> with_reducible rfl)
              try simp only [Act.put, List.setIfInBounds_toArray, List.set_cons_zero, List.set_cons_succ]
              refine wpAnyF_ready (rs := [8]) (by kernel_rfl) (by simp) ?_
              refine AllReadyF.last (o := { dst := none, op := Op.store 35 (Operand.tmp 60) (Operand.tmp 59), type := _, pos := _, after := _, guard := none }) rfl (fun K hK => ?_) ?_
              · skip
                go_simp
                go_wp2_with fail
                refine hK.out _ _ ?_
                clear hK K
                try simp only [Act.put, List.setIfInBounds_toArray, List.set_cons_zero, List.set_cons_succ]
                refine wpAnyF_done (by kernel_rfl) ?_ _
                have hend0 := hfin.out wr.drew (Below.refl _ wr).drew _ _ bw ow g8'
                have hend := Lib.hid hend0
                clear hend0
                go_wp2_with fail
                go_roundw
                case rel => exact ⟨n + 1, by omega, by go_num, _, _, _, hend.out⟩
                case measure => simp [intOf]; omega
              exact AllReadyF.nil
            exact AllReadyF.nil
          exact AllReadyF.nil
        · have hnN : n = M := by omega
          have hPl : PL.length = M := by rw [hPLl.out, hM.out]; simp
          have hfull : PL.take n = PL := List.take_of_length_le (by omega)
          rw [hfull] at hown
          have i1 : ¬ (n : Int) < (M : Int) := by omega
          have g8h := Lib.hid g8
          have g4h := Lib.hid (f4.out wr B)
          have hend := Lib.hid (show OpV (wr.setRow W0.heap.size #[.slice kva N kvc, .slice xa xn xc, .slice ya yn yc]) (.agg #[.slice kva N kvc, .slice xa xn xc, .slice ya yn yc]) ks VL PL from
            ⟨_, _, _, rfl, OwnG.SL eI_len ((fK.out wr B).setRow (by omega) _), OwnG.SL eS_len (hvv.setRow (by omega) _), OwnG.SL eS_len (hown.setRow (by omega) _)⟩)
          have hBf := Lib.hid (toW.out _ (fA.out _ B))
          clear hnN hPl hfull g8 hown hvv B hkeep hMh hPLl
          go_wp2_with (first
            | (refine wpList_load_row rfl 37 (.tmp 8) rfl b8 rfl 37 #[.slice kva N kvc, .slice xa xn xc, .slice ya yn yc] (0, 0) _ g8h.out Tryd.underlying37 rfl size37 ?_)
            | (refine wpList_store_row rfl 37 (.tmp 4) (.tmp 62) rfl W0.heap.size #[.slice kva N kvc, .slice xa xn xc, .slice ya yn yc] rfl rfl 37 _ g4h.out size37 rfl (by simp [Value.oneCell']) ?_))
          refine bodyPost_ret (v := _) (results_row_tmp (fn := Tryd.f18) rfl _ _ W0.heap.size #[.slice kva N kvc, .slice xa xn xc, .slice ya yn yc] (.int .i64 0) _ rfl rfl (setRow_heap _ _ _ _ _ _ g4h.out) Tryd.underlying37 rfl size37) rfl ?_
          exact ⟨_, rfl, hend.out, below_setRow hBf.out (Nat.le_refl _) _⟩
end Go.Proofs.YtegahpfmkepfmaaDoor
