import Derived.Test.YthdfadlniacdcaaDoorSpl
namespace Go.Proofs.YthdfadlniacdcaaDoor
open Go.RowKit
theorem cat2 (x : UInt8) (s : Str) : ((⟨#[x]⟩ : ByteArray) ++ ⟨s.toArray⟩) = ⟨(x :: s).toArray⟩ := by
  apply ByteArray.ext; simp
theorem cat3 (x : UInt8) (s t : Str) : ((⟨#[x]⟩ : ByteArray) ++ ⟨s.toArray⟩ ++ ⟨t.toArray⟩) = ⟨(x :: (s ++ t)).toArray⟩ := by
  apply ByteArray.ext; simp
/-- append([]string{r}, v...), as the program lays it -/
theorem cons_run (W : World) (v : Value) (l : List Str) (r : ByteArray) (r' : Str) (hr' : r = ⟨r'.toArray⟩) (hv : SL W v l) (hl : l.length ≤ 100000) :
    ∃ v' w', (Builtin.append_ #[26, 26] 26 #[.slice (some ⟨W.heap.size, 0, none⟩) 1 1, v]).run Tryd.prog (W.alloc (.cells #[.string r] 9)) = .ok v' w' ∧ OwnS w' W.heap.size v' (r' :: l) ∧ Below W.heap.size W w' := by
  subst hr'
  obtain ⟨f0, hf, hz0, hz1, hz2⟩ := info_parts info9
  have B1 : Below W.heap.size W (W.alloc (.cells #[.string ⟨r'.toArray⟩] 9)) := (Below.refl _ W).alloc (Nat.le_refl _) _
  have hown : World.ownsRow (W.alloc (.cells #[.string ⟨r'.toArray⟩] 9)) W.heap.size 9 1 (.slice (some ⟨W.heap.size, 0, none⟩) 1 1) 1 [.string ⟨r'.toArray⟩] :=
    ⟨rfl, .inr ⟨W.heap.size, 1, #[.string ⟨r'.toArray⟩], rfl, Nat.le_refl _, heap_alloc_new W _, Nat.le_refl _, by unfold maxLen; omega, rfl, rfl⟩⟩
  rcases hv with ⟨rfl, a, c, rfl⟩ | ⟨h1, b, o, c, rfl, h3, h4, hL⟩
  · refine ⟨.slice (some ⟨W.heap.size, 0, none⟩) 1 1, W.alloc (.cells #[.string ⟨r'.toArray⟩] 9), ?_, hown, B1⟩
    have hfn := run_firstCells_none (P := Tryd.prog) (w := W.alloc (.cells #[.string ⟨r'.toArray⟩] 9)) f0.size 0 0 c
    have hfs := fun a => run_firstCells_some (P := Tryd.prog) (W.alloc (.cells #[.string ⟨r'.toArray⟩] 9)) f0.size 0 a 0 c [] (by simp) (by simp)
    cases a with
    | none => simp [Builtin.append_, run_underlying Tryd.underlying26, sizeOf, typeInfo, zeroValue, hf, hz0, Builtin.lenOf, Question.forced, hfn, storeCells]
    | some x => simp [Builtin.append_, run_underlying Tryd.underlying26, sizeOf, typeInfo, zeroValue, hf, hz0, Builtin.lenOf, Question.forced, hfs, storeCells]
  · have hn : l.length ≠ 0 := fun e => h1 (List.length_eq_zero_iff.1 e)
    obtain ⟨g, cap, w', hr, ho, hg, _, _⟩ := run_append_lies (P := Tryd.prog) (W.alloc (.cells #[.string ⟨r'.toArray⟩] 9)) 26 26 W.heap.size 9 f0 _ 1 16 Tryd.underlying26 hf hz0 hz1 hz2 rfl (by omega) _ 1 _ hown ⟨b, o, none⟩ l.length c (cT l) (by simp [cT])
      (fun j u e => by
        simp only [cT, List.getElem?_map, Option.map_eq_some_iff] at e
        obtain ⟨x, hx, rfl⟩ := e
        rw [Addr.add_lit, B1.cell (p := ⟨b, o + j, none⟩) h4]
        exact hL j x hx) (fun u hu => by obtain ⟨x, _, rfl⟩ := List.mem_map.1 hu; rfl) (by omega) (by unfold maxLen; omega) (by omega) (by simp) (W.heap.size + 1) (by simp)
    refine ⟨_, w', hr, ?_, B1.grown hg (by simp) (fun k hk => (hown.lt k hk).1)⟩
    unfold OwnS
    have e : (r' :: l).length = 1 + l.length := by simp; omega
    rw [e]
    exact ho
theorem way_small (f n i : Nat) (s : Str) (p : List Str) (hs : s.length ≤ 1000) (hp : ∀ u ∈ p, List.length u ≤ 1000) : ∀ u ∈ (wayF sha f n i s p).1, List.length u ≤ 100000 := by
  induction f generalizing n i p with
  | zero => intro u hu; simp [wayF] at hu; subst hu; simp; omega
  | succ f ih =>
    intro u hu
    have hx : (p.getLast?.getD []).length ≤ 1000 := by
      cases h : p.getLast? with
      | none => simp
      | some x => exact hp x (List.mem_of_getLast? h)
    have hq : ∀ u ∈ p.dropLast, List.length u ≤ 1000 := fun u h => hp u ((List.dropLast_sublist p).subset h)
    unfold wayF at hu
    split at hu
    · simp at hu; subst hu; simp; omega
    · split at hu
      · rcases List.mem_cons.1 hu with e | hu
        · subst e; have := way_len sha sha_len f (lf n) i s p.dropLast; simp; omega
        · exact ih _ _ _ hq u hu
      · rcases List.mem_cons.1 hu with e | hu
        · subst e; have := way_len sha sha_len f (n - lf n) (i - lf n) s p.dropLast; simp; omega
        · exact ih _ _ _ hq u hu
theorem way_size (f n i : Nat) (s : Str) (p : List Str) : (wayF sha f n i s p).1.length ≤ p.length + 1 := by
  induction f generalizing n i p with
  | zero => simp [wayF]
  | succ f ih =>
    unfold wayF
    split
    · simp
    · rename_i h
      have hp : 1 ≤ p.length := Nat.pos_of_ne_zero (fun e => h (.inr (List.length_eq_zero_iff.1 e)))
      split
      · have := ih (lf n) i p.dropLast; simp at this ⊢; omega
      · have := ih (n - lf n) (i - lf n) p.dropLast; simp at this ⊢; omega
def WayPost (o : List Str × Str) (w : World) (e : Ending) (w' : World) : Prop := ∃ v, e = .returned (.tuple #[v, .string ⟨o.2.toArray⟩]) ∧ SL w' v o.1 ∧ Below w.heap.size w w'

theorem one_SL (w : World) (r : ByteArray) (r' : Str) (h : r = ⟨r'.toArray⟩) : SL (w.alloc (.cells #[.string r] 9)) (.slice (some ⟨w.heap.size, 0, none⟩) 1 1) [r'] :=
  .inr ⟨by simp, w.heap.size, 0, 1, rfl, by simp, by simp, fun j u e => by
    rw [World.cell?_alloc_at _ _ _ _ rfl]
    match j, e with
    | 0, e => simp at e; rw [h, ← e]; rfl⟩

set_option maxRecDepth 100000 in
set_option maxHeartbeats 1000000 in
theorem way_base (f n i : Nat) (s : Str) (p : List Str) (v : Value) (w : World) (hc : n ≤ 1 ∨ p = []) (hs : s.length ≤ 1000) (_ : p.length ≤ 1000) (hT : Tab w) (hv : SL w v p) :
    Calls Tryd.prog 34 #[.int .i64 n, .int .i64 i, .string ⟨s.toArray⟩, v] w (WayPost (wayF sha (f + 1) n i s p) w) := by
  obtain ⟨a, c, rfl⟩ := hv.shape
  have hval : wayF sha (f + 1) n i s p = ([0 :: s], leafH sha s) := by rw [wayF, if_pos hc]
  rw [hval]
  have hc2 : decide ((n : Int) ≤ 1) = true ∨ decide ((n : Int) ≤ 1) = false ∧ p.length = 0 := by
    rcases Nat.lt_or_ge 1 n with h | h
    · refine .inr ⟨by rw [decide_eq_false_iff_not]; omega, ?_⟩
      rcases hc with h2 | h2
      · omega
      · rw [h2]; rfl
    · exact .inl (by rw [decide_eq_true_iff]; omega)
  have B1 : Below w.heap.size w (w.alloc (.cells #[.string ((⟨#[0]⟩ : ByteArray) ++ ⟨s.toArray⟩)] 9)) := (Below.refl _ w).alloc (Nat.le_refl _) _
  have s1 := Lib.hid (one_SL w _ (0 :: s) (cat2 0 s))
  have hl := Lib.hid (fun w' B => Leaf_any s w' (by omega) (hT.below (w' := w') B))
  generalize leafH sha s = r at *
  generalize p.length = N at *
  clear hval hv hc hT
  go_enter Tryd.func34, Tryd.ntmps34
  rcases hc2 with h1 | ⟨h1, h2⟩
  · go_wp2_with fail
    refine (hl.out _ B1).mono ?_
    rintro e w1 ⟨rfl, hb⟩
    go_wp2_with fail
    go_ret2
    exact ⟨_, rfl, s1.out.below hb, B1.trans (hb.mono B1.size)⟩
  · go_wp2_with fail
    refine (hl.out _ B1).mono ?_
    rintro e w1 ⟨rfl, hb⟩
    go_wp2_with fail
    go_ret2
    exact ⟨_, rfl, s1.out.below hb, B1.trans (hb.mono B1.size)⟩

theorem way_snoc (f n i : Nat) (s x : Str) (q : List Str) (h : 2 ≤ n) : wayF sha (f + 1) n i s (q ++ [x]) =
    if i < lf n then ((1 :: ((wayF sha f (lf n) i s q).2 ++ x)) :: (wayF sha f (lf n) i s q).1, nodeH sha (wayF sha f (lf n) i s q).2 x)
    else ((1 :: (x ++ (wayF sha f (n - lf n) (i - lf n) s q).2)) :: (wayF sha f (n - lf n) (i - lf n) s q).1, nodeH sha x (wayF sha f (n - lf n) (i - lf n) s q).2) := by
  rw [wayF, if_neg (by simp; omega)]
  simp

set_option maxRecDepth 100000 in
set_option maxHeartbeats 1000000 in
theorem way_any (m : Nat) : ∀ (f n i : Nat) (s : Str) (p : List Str) (v : Value) (w : World), p.length ≤ m → n < f → 1 ≤ n → i < n → n ≤ 9223372036854775807 → s.length ≤ 1000 → (∀ u ∈ p, List.length u ≤ 1000) → p.length ≤ 1000 → Tab w → SL w v p →
    Calls Tryd.prog 34 #[.int .i64 n, .int .i64 i, .string ⟨s.toArray⟩, v] w (WayPost (wayF sha f n i s p) w) := by
  induction m with
  | zero =>
    intro f n i s p v w hm hf h1 hi hn hs hu hpl hT hv
    obtain ⟨f, rfl⟩ : ∃ g, f = g + 1 := ⟨f - 1, by omega⟩
    obtain rfl : p = [] := List.length_eq_zero_iff.1 (by omega)
    exact way_base f n i s [] v w (.inr rfl) hs hpl hT hv
  | succ m ih =>
    intro f n i s p v w hm hf h1 hi hn hs hu hpl hT hv
    obtain ⟨f, rfl⟩ : ∃ g, f = g + 1 := ⟨f - 1, by omega⟩
    by_cases n1 : n = 1
    · exact way_base f n i s p v w (.inl (by omega)) hs hpl hT hv
    rcases hv with ⟨rfl, a, c, rfl⟩ | ⟨hne, b, o, c, rfl, h3, h4, hL⟩
    · exact way_base f n i s [] _ w (.inr rfl) hs hpl hT (.inl ⟨rfl, a, c, rfl⟩)
    rcases List.eq_nil_or_concat p with rfl | ⟨q, x, rfl⟩
    · exact absurd rfl hne
    rw [List.concat_eq_append] at *
    have k1 := lf_lt n (by omega)
    have k2 := lf_pos n (by omega)
    have hh := left_any n w (by omega) hn
    have hlen : (q ++ [x]).length = q.length + 1 := by simp
    have hx : w.cell? ⟨b, o + q.length, none⟩ = some (.string ⟨x.toArray⟩) := hL q.length x (by simp)
    have hxl : x.length ≤ 1000 := hu x (by simp)
    have hq : SL w (.slice (some ⟨b, o, none⟩) q.length c) q := by
      have := SL.take h4 h3 hL q.length (by simp)
      rwa [List.take_left] at this
    have hqu : ∀ u ∈ q, List.length u ≤ 1000 := fun u h => hu u (by simp [h])
    rw [hlen] at h3 hm hpl ⊢
    rw [way_snoc f n i s x q (by omega)]
    have t1 : ¬ ((n : Int) ≤ 1) := by omega
    by_cases hik : i < lf n
    · rw [if_pos hik]
      have hA := ih f (lf n) i s q _ w (by omega) (by omega) k2 hik (by omega) hs hqu (by omega) hT hq
      have hN : ∀ w', Below w.heap.size w w' → ∀ u : Str, u.length ≤ 1000 → Calls Tryd.prog 17 #[.string ⟨u.toArray⟩, .string ⟨x.toArray⟩] w' fun e w'' => e = .returned (.string ⟨(nodeH sha u x).toArray⟩) ∧ Below w'.heap.size w' w'' := fun w' B u h =>
        Node_any u x w' (by omega) (by omega) (hT.below B)
      have l1 := way_len sha sha_len f (lf n) i s q
      have l2 := way_size f (lf n) i s q
      generalize wayF sha f (lf n) i s q = V at *
      obtain ⟨V1, V2⟩ := V
      generalize lf n = k at *
      generalize q.length = M at *
      clear ih hL hT hq hqu hu hne hlen
      have t0 : (((M + 1 : Nat) : Int) == 0) = false := by rw [beq_eq_false_iff_ne]; omega
      have hA2 := Lib.hid hA
      have hN2 := Lib.hid hN
      clear hA hN
      go_enter Tryd.func34, Tryd.ntmps34
      go_wp2_with (go_at_call 38; refine hh.mono ?_; rintro e w' ⟨rfl, rfl⟩)
      refine hA2.out.mono ?_
      rintro e w1 ⟨v1, rfl, hs1, hb⟩
      obtain ⟨v2, w2, r2, o2, b2⟩ := cons_run w1 v1 V1 _ _ (cat3 1 V2 x) hs1 (by have l3 : V1.length ≤ M + 1 := l2; omega)
      have B2 := hb.trans (b2.mono hb.size)
      have hn3 := hN2.out w2 B2 V2 (by have l3 : V2.length = 32 := l1; omega)
      obtain ⟨a1, d1, rfl⟩ := hs1.shape
      have hn4 := Lib.hid hn3
      clear hn3 hs1
      go_wp2_with (at_builtin; refine wpList_append_run rfl (.tmp 57) (.tmp 58) 26 rfl (.slice (some ⟨w1.heap.size, 0, none⟩) 1 1) (.slice a1 V1.length d1) rfl rfl v2 w2 r2 ?_)
      refine hn4.out.mono ?_
      rintro e w3 ⟨rfl, b3⟩
      go_wp2_with fail
      go_ret2
      exact ⟨v2, rfl, (own_SL o2).below b3, B2.trans (b3.mono B2.size)⟩
    · rw [if_neg hik]
      have hA := ih f (n - lf n) (i - lf n) s q _ w (by omega) (by omega) (by omega) (by omega) (by omega) hs hqu (by omega) hT hq
      have hN : ∀ w', Below w.heap.size w w' → ∀ u : Str, u.length ≤ 1000 → Calls Tryd.prog 17 #[.string ⟨x.toArray⟩, .string ⟨u.toArray⟩] w' fun e w'' => e = .returned (.string ⟨(nodeH sha x u).toArray⟩) ∧ Below w'.heap.size w' w'' := fun w' B u h =>
        Node_any x u w' (by omega) (by omega) (hT.below B)
      have l1 := way_len sha sha_len f (n - lf n) (i - lf n) s q
      have l2 := way_size f (n - lf n) (i - lf n) s q
      generalize wayF sha f (n - lf n) (i - lf n) s q = V at *
      obtain ⟨V1, V2⟩ := V
      generalize lf n = k at *
      generalize q.length = M at *
      clear ih hL hT hq hqu hu hne hlen
      have t0 : (((M + 1 : Nat) : Int) == 0) = false := by rw [beq_eq_false_iff_ne]; omega
      rw [Int.ofNat_sub (show k ≤ n by omega), Int.ofNat_sub (show k ≤ i by omega)] at hA
      have hA2 := Lib.hid hA
      have hN2 := Lib.hid hN
      clear hA hN
      go_enter Tryd.func34, Tryd.ntmps34
      go_wp2_with (go_at_call 38; refine hh.mono ?_; rintro e w' ⟨rfl, rfl⟩)
      refine hA2.out.mono ?_
      rintro e w1 ⟨v1, rfl, hs1, hb⟩
      obtain ⟨v2, w2, r2, o2, b2⟩ := cons_run w1 v1 V1 _ _ (cat3 1 x V2) hs1 (by have l3 : V1.length ≤ M + 1 := l2; omega)
      have B2 := hb.trans (b2.mono hb.size)
      have hn3 := hN2.out w2 B2 V2 (by have l3 : V2.length = 32 := l1; omega)
      obtain ⟨a1, d1, rfl⟩ := hs1.shape
      have hn4 := Lib.hid hn3
      clear hn3 hs1
      go_wp2_with (at_builtin; refine wpList_append_run rfl (.tmp 79) (.tmp 80) 26 rfl (.slice (some ⟨w1.heap.size, 0, none⟩) 1 1) (.slice a1 V1.length d1) rfl rfl v2 w2 r2 ?_)
      refine hn4.out.mono ?_
      rintro e w3 ⟨rfl, b3⟩
      go_wp2_with fail
      go_ret2
      exact ⟨v2, rfl, (own_SL o2).below b3, B2.trans (b3.mono B2.size)⟩
end Go.Proofs.YthdfadlniacdcaaDoor
