import Derived.Test.YthdfadlniacdcaaDoorPrf
namespace Go.Proofs.YthdfadlniacdcaaDoor
open Go.RowKit

theorem Proof_bad (v : Value) (l : List Str) (i : Int) (w : World) (hv : SL w v l) (hm : l.length ≤ 1000) (hb1 : -9223372036854775808 ≤ i) (hb2 : i ≤ 9223372036854775807) (h : i < 0 ∨ (l.length : Int) ≤ i) :
    Calls Tryd.prog 22 #[v, .int .i64 i] w fun e w' => e = .returned (.tuple #[.slice none 0 0, .int .i64 2]) ∧ w = w' := by
  obtain ⟨a, c, rfl⟩ : ∃ a c, v = .slice a l.length c := by
    rcases hv with ⟨rfl, a, c, rfl⟩ | ⟨_, b, o, c, rfl, _⟩
    · exact ⟨_, _, rfl⟩
    · exact ⟨_, _, rfl⟩
  generalize l.length = N at *
  clear hv
  by_cases h0 : i < 0
  · go_enter Tryd.func22, Tryd.ntmps22
    go_wp2_with fail
    go_ret2
    exact ⟨rfl, rfl⟩
  · have h1 : (N : Int) ≤ i := by omega
    have d0 : decide (i < 0) = false := by simpa using h0
    go_enter Tryd.func22, Tryd.ntmps22
    go_wp2_with fail
    go_ret2
    exact ⟨rfl, rfl⟩
/-- the proof of an entry that is there -/
def prfS (l : List Str) (i : Nat) : List Str := prfF (sha []) (leafH sha) (nodeH sha) (l.length + 1) l i
def ProofPost (l : List Str) (w : World) (e : Ending) (w' : World) : Prop := ∃ v, e = .returned (.tuple #[v, .int .i64 0]) ∧ OwnS w' w.heap.size v l ∧ Below w.heap.size w w'
theorem Proof_any (v : Value) (l : List Str) (i : Nat) (w : World) (hv : SL w v l) (hu : ∀ u ∈ l, List.length u ≤ 1000) (hm : l.length ≤ 1000) (hi : i < l.length) (hT : Tab w) :
    Calls Tryd.prog 22 #[v, .int .i64 i] w (ProofPost (prfS l i) w) := by
  have hp := proofOf_any l.length l v i w (Nat.le_refl _) (by omega) hi hu hm hT hv
  rw [← prfS] at hp
  obtain ⟨a, c, rfl⟩ : ∃ a c, v = .slice a l.length c := by
    rcases hv with ⟨rfl, a, c, rfl⟩ | ⟨_, b, o, c, rfl, _⟩
    · exact ⟨_, _, rfl⟩
    · exact ⟨_, _, rfl⟩
  generalize prfS l i = p at *
  generalize l.length = N at *
  clear hv hT hu
  have d0 : decide ((i : Int) < 0) = false := by simp
  have hp2 := Lib.hid hp
  clear hp
  go_enter Tryd.func22, Tryd.ntmps22
  go_wp2_with fail
  refine hp2.out.mono ?_
  rintro e w1 ⟨v1, rfl, hown, hb⟩
  go_wp2_with fail
  go_ret2
  exact ⟨v1, rfl, hown, hb⟩

/-- what the value of a proof comes back as -/
def ValPost (o : Option Str) (w : World) (e : Ending) (w' : World) : Prop :=
  ∃ x : Str, e = .returned (.tuple #[.string ⟨x.toArray⟩, .bool o.isSome]) ∧ x.length ≤ 1000 ∧ (∀ r, o = some r → x = r) ∧ Below w.heap.size w w'
def valS (n i : Nat) (s : Str) (p : List Str) : Option Str := val (leafH sha) (nodeH sha) (n + 1) n i s p

theorem SL.shape {W : World} {v : Value} {l : List Str} (h : SL W v l) : ∃ a c, v = .slice a l.length c := by
  rcases h with ⟨rfl, a, c, rfl⟩ | ⟨_, b, o, c, rfl, _⟩
  · exact ⟨_, _, rfl⟩
  · exact ⟨_, _, rfl⟩

set_option maxRecDepth 100000 in
theorem value_one (f i : Nat) (s : Str) (p : List Str) (v : Value) (w : World) (hs : s.length ≤ 1000) (hpl : p.length ≤ 1000) (hT : Tab w) (hv : SL w v p) :
    Calls Tryd.prog 49 #[.int .i64 1, .int .i64 i, .string ⟨s.toArray⟩, v] w (ValPost (val (leafH sha) (nodeH sha) (f + 1) 1 i s p) w) := by
  obtain ⟨a, c, rfl⟩ := hv.shape
  have hl := Leaf_any s w (by omega) hT
  have hll := leafH_len s
  by_cases hp : p = []
  · subst hp
    have hval : val (leafH sha) (nodeH sha) (f + 1) 1 i s [] = some (leafH sha s) := by rw [val, if_pos (Nat.le_refl _), if_pos rfl]
    rw [hval]
    generalize leafH sha s = r at *
    clear hval hv hT
    have hl2 := Lib.hid hl
    have hll2 := Lib.hid hll
    clear hl hll
    go_enter Tryd.func49, Tryd.ntmps49
    go_wp2_with fail
    refine hl2.out.mono ?_
    rintro e w1 ⟨rfl, hb⟩
    go_wp2_with fail
    go_ret2
    exact ⟨r, rfl, by rw [hll2.out]; omega, (fun x h => by injection h), hb⟩
  · have hval : val (leafH sha) (nodeH sha) (f + 1) 1 i s p = none := by rw [val, if_pos (Nat.le_refl _), if_neg hp]
    have hp1 : 1 ≤ p.length := Nat.pos_of_ne_zero (fun e => hp (List.length_eq_zero_iff.1 e))
    rw [hval]
    generalize leafH sha s = r at *
    generalize p.length = N at *
    clear hval hv hT hp
    have t0 : ((N : Int) == 0) = false := by rw [beq_eq_false_iff_ne]; omega
    have hl2 := Lib.hid hl
    have hll2 := Lib.hid hll
    clear hl hll
    go_enter Tryd.func49, Tryd.ntmps49
    go_wp2_with fail
    refine hl2.out.mono ?_
    rintro e w1 ⟨rfl, hb⟩
    go_wp2_with fail
    go_ret2
    exact ⟨r, rfl, by rw [hll2.out]; omega, (fun x h => by cases h), hb⟩

set_option maxRecDepth 100000 in
theorem value_nil (f n i : Nat) (s : Str) (v : Value) (w : World) (h1 : 2 ≤ n) (hn : n ≤ 9223372036854775807) (hv : SL w v []) :
    Calls Tryd.prog 49 #[.int .i64 n, .int .i64 i, .string ⟨s.toArray⟩, v] w (ValPost (val (leafH sha) (nodeH sha) (f + 1) n i s []) w) := by
  obtain ⟨a, c, rfl⟩ := hv.shape
  have hval : val (leafH sha) (nodeH sha) (f + 1) n i s [] = none := by rw [val, if_neg (by omega)]; rfl
  rw [hval]
  clear hval hv
  have t1 : ((n : Int) == 1) = false := by rw [beq_eq_false_iff_ne]; omega
  go_enter Tryd.func49, Tryd.ntmps49
  go_wp2_with fail
  go_ret2
  exact ⟨[], rfl, by simp, (fun x h => by cases h), Below.refl _ _⟩

theorem val_snoc (f n i : Nat) (s x : Str) (q : List Str) (h : 2 ≤ n) : val (leafH sha) (nodeH sha) (f + 1) n i s (q ++ [x]) =
    if i < lf n then (val (leafH sha) (nodeH sha) f (lf n) i s q).map (fun v => nodeH sha v x) else (val (leafH sha) (nodeH sha) f (n - lf n) (i - lf n) s q).map (fun v => nodeH sha x v) := by
  rw [val, if_neg (by omega)]
  simp

set_option maxRecDepth 100000 in
set_option maxHeartbeats 1000000 in
theorem value_any (m : Nat) : ∀ (f n i : Nat) (s : Str) (p : List Str) (v : Value) (w : World), p.length ≤ m → n < f → 1 ≤ n → i < n → n ≤ 9223372036854775807 → s.length ≤ 1000 → (∀ u ∈ p, List.length u ≤ 1000) → p.length ≤ 1000 → Tab w → SL w v p →
    Calls Tryd.prog 49 #[.int .i64 n, .int .i64 i, .string ⟨s.toArray⟩, v] w (ValPost (val (leafH sha) (nodeH sha) f n i s p) w) := by
  induction m with
  | zero =>
    intro f n i s p v w hm hf h1 hi hn hs hu hpl hT hv
    obtain ⟨f, rfl⟩ : ∃ g, f = g + 1 := ⟨f - 1, by omega⟩
    obtain rfl : p = [] := List.length_eq_zero_iff.1 (by omega)
    by_cases n1 : n = 1
    · subst n1; exact value_one f i s [] v w hs hpl hT hv
    · exact value_nil f n i s v w (by omega) hn hv
  | succ m ih =>
    intro f n i s p v w hm hf h1 hi hn hs hu hpl hT hv
    obtain ⟨f, rfl⟩ : ∃ g, f = g + 1 := ⟨f - 1, by omega⟩
    by_cases n1 : n = 1
    · subst n1; exact value_one f i s p v w hs hpl hT hv
    rcases hv with ⟨rfl, a, c, rfl⟩ | ⟨hne, b, o, c, rfl, h3, h4, hL⟩
    · exact value_nil f n i s _ w (by omega) hn (.inl ⟨rfl, a, c, rfl⟩)
    rcases List.eq_nil_or_concat p with rfl | ⟨q, x, rfl⟩
    · exact absurd rfl hne
    rw [List.concat_eq_append] at *
    have k1 := lf_lt n (by omega)
    have k2 := lf_pos n (by omega)
    have hh := half_w n w (by omega) hn
    have hlen : (q ++ [x]).length = q.length + 1 := by simp
    have hx : w.cell? ⟨b, o + q.length, none⟩ = some (.string ⟨x.toArray⟩) := hL q.length x (by simp)
    have hxl : x.length ≤ 1000 := hu x (by simp)
    have hq : SL w (.slice (some ⟨b, o, none⟩) q.length c) q := by
      have := SL.take h4 h3 hL q.length (by simp)
      rwa [List.take_left] at this
    have hqu : ∀ u ∈ q, List.length u ≤ 1000 := fun u h => hu u (by simp [h])
    rw [hlen] at h3 hm hpl ⊢
    rw [val_snoc f n i s x q (by omega)]
    by_cases hik : i < lf n
    · rw [if_pos hik]
      have hA := ih f (lf n) i s q _ w (by omega) (by omega) k2 hik (by omega) hs hqu (by omega) hT hq
      have hN : ∀ w', Below w.heap.size w w' → ∀ u : Str, u.length ≤ 1000 → Calls Tryd.prog 17 #[.string ⟨u.toArray⟩, .string ⟨x.toArray⟩] w' fun e w'' => e = .returned (.string ⟨(nodeH sha u x).toArray⟩) ∧ Below w'.heap.size w' w'' := fun w' B u h =>
        Node_any u x w' (by omega) (by omega) (hT.below B)
      generalize val (leafH sha) (nodeH sha) f (lf n) i s q = V at *
      generalize lf n = k at *
      generalize q.length = M at *
      clear ih hL hT hq hqu hu hne hlen
      have t1 : ((n : Int) == 1) = false := by rw [beq_eq_false_iff_ne]; omega
      have t0 : (((M + 1 : Nat) : Int) == 0) = false := by rw [beq_eq_false_iff_ne]; omega
      have hA2 := Lib.hid hA
      have hN2 := Lib.hid hN
      have hx2 := Lib.hid hx
      clear hA hN hx
      go_enter Tryd.func49, Tryd.ntmps49
      go_wp2_with (go_at_call 47; refine hh.mono ?_; rintro e w' ⟨rfl, rfl⟩)
      refine hA2.out.mono ?_
      rintro e w1 ⟨r, rfl, hr1, hr2, hb⟩
      have c1 := (hb.cell (p := ⟨b, o + M, none⟩) h4).trans hx2.out
      have hr3 := Lib.hid hr2
      clear hr2
      go_wp2_with fail
      refine (hN2.out _ hb r hr1).mono ?_
      rintro e w2 ⟨rfl, hb2⟩
      go_wp2_with fail
      go_ret2
      refine ⟨nodeH sha r x, by rw [Option.isSome_map]; rfl, by rw [nodeH_len]; omega, fun y hy => ?_, hb.trans (hb2.mono hb.size)⟩
      rw [Option.map_eq_some_iff] at hy
      obtain ⟨z, hz, rfl⟩ := hy
      rw [hr3.out z hz]
    · rw [if_neg hik]
      have hA := ih f (n - lf n) (i - lf n) s q _ w (by omega) (by omega) (by omega) (by omega) (by omega) hs hqu (by omega) hT hq
      have hN : ∀ w', Below w.heap.size w w' → ∀ u : Str, u.length ≤ 1000 → Calls Tryd.prog 17 #[.string ⟨x.toArray⟩, .string ⟨u.toArray⟩] w' fun e w'' => e = .returned (.string ⟨(nodeH sha x u).toArray⟩) ∧ Below w'.heap.size w' w'' := fun w' B u h =>
        Node_any x u w' (by omega) (by omega) (hT.below B)
      generalize val (leafH sha) (nodeH sha) f (n - lf n) (i - lf n) s q = V at *
      generalize lf n = k at *
      generalize q.length = M at *
      clear ih hL hT hq hqu hu hne hlen
      have t1 : ((n : Int) == 1) = false := by rw [beq_eq_false_iff_ne]; omega
      have t0 : (((M + 1 : Nat) : Int) == 0) = false := by rw [beq_eq_false_iff_ne]; omega
      rw [Int.ofNat_sub (show k ≤ n by omega), Int.ofNat_sub (show k ≤ i by omega)] at hA
      have hA2 := Lib.hid hA
      have hN2 := Lib.hid hN
      have hx2 := Lib.hid hx
      clear hA hN hx
      go_enter Tryd.func49, Tryd.ntmps49
      go_wp2_with (go_at_call 47; refine hh.mono ?_; rintro e w' ⟨rfl, rfl⟩)
      refine hA2.out.mono ?_
      rintro e w1 ⟨r, rfl, hr1, hr2, hb⟩
      have c1 := (hb.cell (p := ⟨b, o + M, none⟩) h4).trans hx2.out
      have hr3 := Lib.hid hr2
      clear hr2
      go_wp2_with fail
      refine (hN2.out _ hb r hr1).mono ?_
      rintro e w2 ⟨rfl, hb2⟩
      go_wp2_with fail
      go_ret2
      refine ⟨nodeH sha x r, by rw [Option.isSome_map]; rfl, by rw [nodeH_len]; omega, fun y hy => ?_, hb.trans (hb2.mono hb.size)⟩
      rw [Option.map_eq_some_iff] at hy
      obtain ⟨z, hz, rfl⟩ := hy
      rw [hr3.out z hz]

/-- what Verify answers -/
def verS (r : Str) (n i : Int) (s : Str) (p : List Str) : Bool := decide (0 ≤ i ∧ i < n ∧ digB p = true ∧ valS n.toNat i.toNat s p = some r)
theorem digests_w (v : Value) (l : List Str) (w : World) (hv : SL w v l) (hn : l.length ≤ 1000000) :
    Calls Tryd.prog 48 #[v] w fun e w' => e = .returned (.bool (digB l)) ∧ w = w' := (digests_any v l w hv hn).mono fun _ _ h => ⟨h.1, h.2.symm⟩

set_option maxRecDepth 100000 in
theorem Verify_any (r : Str) (n i : Int) (s : Str) (p : List Str) (v : Value) (w : World) (hn1 : -9223372036854775808 ≤ n) (hn2 : n ≤ 9223372036854775807) (hi1 : -9223372036854775808 ≤ i) (hi2 : i ≤ 9223372036854775807)
    (hs : s.length ≤ 1000) (hpl : p.length ≤ 1000) (hu : ∀ u ∈ p, List.length u ≤ 1000) (hT : Tab w) (hv : SL w v p) :
    Calls Tryd.prog 29 #[.string ⟨r.toArray⟩, .int .i64 n, .int .i64 i, .string ⟨s.toArray⟩, v] w fun e w' => e = .returned (.bool (verS r n i s p)) ∧ Below w.heap.size w w' := by
  by_cases h0 : i < 0
  · have hr : verS r n i s p = false := by unfold verS; rw [decide_eq_false_iff_not]; omega
    rw [hr]
    clear hr hu hT hv
    go_enter Tryd.func29, Tryd.ntmps29
    go_wp2_with fail
    go_ret
    exact ⟨rfl, Below.refl _ _⟩
  have d0 : decide (i < 0) = false := by simpa using h0
  by_cases h1 : n ≤ i
  · have hr : verS r n i s p = false := by unfold verS; rw [decide_eq_false_iff_not]; omega
    rw [hr]
    clear hr hu hT hv
    go_enter Tryd.func29, Tryd.ntmps29
    go_wp2_with fail
    go_ret
    exact ⟨rfl, Below.refl _ _⟩
  have d1 : decide (n ≤ i) = false := by simpa using h1
  have hd := digests_w v p w hv (by omega)
  by_cases h2 : digB p = true
  · rw [h2] at hd
    obtain ⟨N, rfl⟩ := Int.eq_ofNat_of_zero_le (show 0 ≤ n by omega)
    obtain ⟨I, rfl⟩ := Int.eq_ofNat_of_zero_le (show 0 ≤ i by omega)
    have hV := value_any p.length (N + 1) N I s p v w (Nat.le_refl _) (by omega) (by omega) (by omega) (by omega) hs hu hpl hT hv
    have hr : verS r N I s p = decide (val (leafH sha) (nodeH sha) (N + 1) N I s p = some r) := by
      unfold verS valS
      rw [decide_eq_decide]
      simp only [Int.toNat_natCast]
      exact ⟨fun h => h.2.2.2, fun h => ⟨by omega, by omega, h2, h⟩⟩
    rw [hr]
    generalize val (leafH sha) (nodeH sha) (N + 1) N I s p = V at *
    clear hr hu hT hv
    have hV2 := Lib.hid hV
    have hd2 := Lib.hid hd
    clear hV hd
    cases V with
    | none =>
      have he : decide ((none : Option Str) = some r) = false := by simp
      rw [he]
      clear he
      go_enter Tryd.func29, Tryd.ntmps29
      go_wp2_with fail
      refine hd2.out.mono ?_
      rintro e w' ⟨rfl, rfl⟩
      go_wp2_with fail
      refine hV2.out.mono ?_
      rintro e w1 ⟨x, rfl, hx1, hx2, hb⟩
      go_wp2_with fail
      go_ret
      exact ⟨rfl, hb⟩
    | some y =>
      go_enter Tryd.func29, Tryd.ntmps29
      go_wp2_with fail
      refine hd2.out.mono ?_
      rintro e w' ⟨rfl, rfl⟩
      go_wp2_with fail
      refine hV2.out.mono ?_
      rintro e w1 ⟨x, rfl, hx1, hx2, hb⟩
      obtain rfl : x = y := hx2 y rfl
      clear hx2
      go_wp2_with fail
      go_ret
      exact ⟨ret_bool (by rw [Bool.eq_iff_iff]; simp), hb⟩
  · have h3 : digB p = false := by simpa using h2
    have hr : verS r n i s p = false := by unfold verS; rw [decide_eq_false_iff_not]; intro h; exact h2 h.2.2.1
    rw [hr]
    rw [h3] at hd
    clear hr hu hT hv
    have hd2 := Lib.hid hd
    clear hd
    go_enter Tryd.func29, Tryd.ntmps29
    go_wp2_with fail
    refine hd2.out.mono ?_
    rintro e w' ⟨rfl, rfl⟩
    go_wp2_with fail
    go_ret
    exact ⟨rfl, Below.refl _ _⟩
end Go.Proofs.YthdfadlniacdcaaDoor
