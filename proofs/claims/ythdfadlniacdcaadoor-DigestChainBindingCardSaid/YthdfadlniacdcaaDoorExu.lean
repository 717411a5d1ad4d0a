import Derived.Test.YthdfadlniacdcaaDoorExt
namespace Go.Proofs.YthdfadlniacdcaaDoor
open Go.RowKit

theorem Extension_bad (v : Value) (l : List Str) (i : Int) (w : World) (hv : SL w v l) (hb1 : -9223372036854775808 ≤ i) (hb2 : i ≤ 9223372036854775807) (h : i < 0 ∨ (l.length : Int) < i) :
    Calls Tryd.prog 24 #[v, .int .i64 i] w fun e w' => e = .returned (.tuple #[.slice none 0 0, .int .i64 2]) ∧ w = w' := by
  obtain ⟨a, c, rfl⟩ := hv.shape
  generalize l.length = N at *
  clear hv
  by_cases h0 : i < 0
  · go_enter Tryd.func24, Tryd.ntmps24
    go_wp2_with fail
    go_ret2
    exact ⟨rfl, rfl⟩
  · have h1 : (N : Int) < i := by omega
    have d0 : decide (i < 0) = false := by simpa using h0
    go_enter Tryd.func24, Tryd.ntmps24
    go_wp2_with fail
    go_ret2
    exact ⟨rfl, rfl⟩
/-- the extension of the first m entries -/
def extS (l : List Str) (m : Nat) : List Str := if m = 0 then [] else partF (sha []) (leafH sha) (nodeH sha) (l.length + 1) l m true
theorem Extension_any (v : Value) (l : List Str) (i : Nat) (w : World) (hv : SL w v l) (hu : ∀ u ∈ l, List.length u ≤ 1000) (hm : l.length ≤ 1000) (hi : i ≤ l.length) (hT : Tab w) :
    Calls Tryd.prog 24 #[v, .int .i64 i] w (ProofPost (extS l i) w) := by
  by_cases h0 : i = 0
  · subst h0
    have he : extS l 0 = [] := rfl
    rw [he]
    obtain ⟨a, c, rfl⟩ := hv.shape
    clear hv hT hu he
    go_enter Tryd.func24, Tryd.ntmps24
    go_wp2_with fail
    go_ret2
    exact ⟨_, rfl, World.ownsRow_nil _ _ _ _, Below.refl _ _⟩
  · have hp := part_any l.length l v i true w (Nat.le_refl _) (by omega) hi hu hm hT hv
    have he : extS l i = partF (sha []) (leafH sha) (nodeH sha) (l.length + 1) l i true := by rw [extS, if_neg h0]
    rw [← he] at hp
    obtain ⟨a, c, rfl⟩ := hv.shape
    generalize extS l i = p at *
    generalize l.length = N at *
    clear hv hT hu he
    have d0 : decide ((i : Int) < 0) = false := by simp
    have t0 : ((i : Int) == 0) = false := by rw [beq_eq_false_iff_ne]; omega
    have hp2 := Lib.hid hp
    clear hp
    go_enter Tryd.func24, Tryd.ntmps24
    go_wp2_with fail
    refine hp2.out.mono ?_
    rintro e w1 ⟨v1, rfl, hown, hb⟩
    go_wp2_with fail
    go_ret2
    exact ⟨v1, rfl, hown, hb⟩

/-- what the two values of a proof come back as -/
def BothPost (o : Option (Str × Str)) (w : World) (e : Ending) (w' : World) : Prop :=
  ∃ x y : Str, e = .returned (.tuple #[.string ⟨x.toArray⟩, .string ⟨y.toArray⟩, .bool o.isSome]) ∧ x.length ≤ 1000 ∧ y.length ≤ 1000 ∧ (∀ r, o = some r → x = r.1 ∧ y = r.2) ∧ Below w.heap.size w w'

set_option maxRecDepth 100000 in
theorem values_whole (f m : Nat) (old : Str) (p : List Str) (v : Value) (w : World) (ho : old.length ≤ 1000) (hpl : p.length ≤ 1000) (hv : SL w v p) :
    Calls Tryd.prog 52 #[.string ⟨old.toArray⟩, .int .i64 m, .int .i64 m, v, .bool true] w (BothPost (both (nodeH sha) (f + 1) old m m p true) w) := by
  obtain ⟨a, c, rfl⟩ := hv.shape
  by_cases hp : p = []
  · subst hp
    have hval : both (nodeH sha) (f + 1) old m m [] true = some (old, old) := by unfold both; rw [if_pos rfl]; rfl
    rw [hval]
    clear hval hv
    go_enter Tryd.func52, Tryd.ntmps52
    go_wp2_with fail
    go_ret3
    exact ⟨old, old, rfl, ho, ho, (fun r h => by injection h with h; rw [← h]; exact ⟨rfl, rfl⟩), Below.refl _ _⟩
  · have hval : both (nodeH sha) (f + 1) old m m p true = none := by unfold both; rw [if_pos rfl]; simp [hp]
    have hp1 : 1 ≤ p.length := Nat.pos_of_ne_zero (fun e => hp (List.length_eq_zero_iff.1 e))
    rw [hval]
    generalize p.length = N at *
    clear hval hv hp
    have t0 : ((N : Int) == 0) = false := by rw [beq_eq_false_iff_ne]; omega
    go_enter Tryd.func52, Tryd.ntmps52
    go_wp2_with fail
    go_ret3
    exact ⟨old, old, rfl, ho, ho, (fun r h => by cases h), Below.refl _ _⟩

set_option maxRecDepth 100000 in
theorem values_nil (f m n : Nat) (old : Str) (whole : Bool) (v : Value) (w : World) (h : ¬ (m = n ∧ whole = true)) (hv : SL w v []) :
    Calls Tryd.prog 52 #[.string ⟨old.toArray⟩, .int .i64 m, .int .i64 n, v, .bool whole] w (BothPost (both (nodeH sha) (f + 1) old m n [] whole) w) := by
  obtain ⟨a, c, rfl⟩ := hv.shape
  have hval : both (nodeH sha) (f + 1) old m n [] whole = none := by
    unfold both
    by_cases e : m = n
    · rw [if_pos e]
      cases whole with
      | true => exact absurd ⟨e, rfl⟩ h
      | false => rfl
    · rw [if_neg e]; rfl
  rw [hval]
  clear hval hv
  by_cases e : m = n
  · subst e
    obtain rfl : whole = false := by
      cases whole with
      | true => exact absurd ⟨rfl, rfl⟩ h
      | false => rfl
    go_enter Tryd.func52, Tryd.ntmps52
    go_wp2_with fail
    go_ret3
    exact ⟨[], [], rfl, by simp, by simp, (fun r h => by cases h), Below.refl _ _⟩
  · have t1 : ((m : Int) == (n : Int)) = false := by rw [beq_eq_false_iff_ne]; omega
    clear h e
    go_enter Tryd.func52, Tryd.ntmps52
    go_wp2_with fail
    go_ret3
    exact ⟨[], [], rfl, by simp, by simp, (fun r h => by cases h), Below.refl _ _⟩

set_option maxRecDepth 100000 in
theorem values_same (f m : Nat) (old x : Str) (q : List Str) (b o c : Nat) (w : World) (hpl : q.length ≤ 1000) (hx : x.length ≤ 1000) (hc : q.length + 1 ≤ c) (hcell : w.cell? ⟨b, o + q.length, none⟩ = some (.string ⟨x.toArray⟩)) :
    Calls Tryd.prog 52 #[.string ⟨old.toArray⟩, .int .i64 m, .int .i64 m, .slice (some ⟨b, o, none⟩) (q.length + 1) c, .bool false] w (BothPost (both (nodeH sha) (f + 1) old m m (q ++ [x]) false) w) := by
  have hval : both (nodeH sha) (f + 1) old m m (q ++ [x]) false = if q = [] then some (x, x) else none := by
    unfold both
    rw [if_pos rfl]
    match q with
    | [] => rfl
    | [a] => rfl
    | a :: b :: t => rfl
  rw [hval]
  clear hval
  have t2 : (((q.length + 1 : Nat) : Int) == 0) = false := by rw [beq_eq_false_iff_ne]; omega
  have i0 : (0 : Int) ≤ (q.length : Int) := by omega
  have i1 : (q.length : Int) ≤ ((q.length : Int) + 1) := by omega
  by_cases hq : q = []
  · subst hq
    simp only [List.length_nil, Nat.add_zero] at *
    go_enter Tryd.func52, Tryd.ntmps52
    go_wp2_with fail
    go_quiet (fail)
    go_wp2_with fail
    go_ret3
    exact ⟨x, x, rfl, hx, hx, (fun r h => by simp at h; rw [← h]; exact ⟨rfl, rfl⟩), below_drewN (Below.refl _ _) _⟩
  · have hq1 : 1 ≤ q.length := Nat.pos_of_ne_zero (fun e => hq (List.length_eq_zero_iff.1 e))
    rw [if_neg hq]
    generalize q.length = N at *
    clear hq
    have t0 : ((N : Int) == 0) = false := by rw [beq_eq_false_iff_ne]; omega
    go_enter Tryd.func52, Tryd.ntmps52
    go_wp2_with fail
    go_quiet (fail)
    go_wp2_with fail
    go_ret3
    exact ⟨x, x, rfl, hx, hx, (fun r h => by cases h), below_drewN (Below.refl _ _) _⟩

theorem both_snoc (f m n : Nat) (old x : Str) (q : List Str) (whole : Bool) (h : m ≠ n) : both (nodeH sha) (f + 1) old m n (q ++ [x]) whole =
    if m ≤ lf n then (both (nodeH sha) f old m (lf n) q whole).map (fun v => (v.1, nodeH sha v.2 x)) else (both (nodeH sha) f old (m - lf n) (n - lf n) q false).map (fun v => (nodeH sha x v.1, nodeH sha x v.2)) := by
  conv => lhs; unfold both
  rw [if_neg h]
  simp

set_option maxRecDepth 100000 in
set_option maxHeartbeats 2000000 in
theorem values_any (d : Nat) : ∀ (f m n : Nat) (old : Str) (p : List Str) (whole : Bool) (v : Value) (w : World), p.length ≤ d → n < f → 1 ≤ m → m ≤ n → n ≤ 9223372036854775807 → old.length ≤ 1000 → (∀ u ∈ p, List.length u ≤ 1000) → p.length ≤ 1000 → Tab w → SL w v p →
    Calls Tryd.prog 52 #[.string ⟨old.toArray⟩, .int .i64 m, .int .i64 n, v, .bool whole] w (BothPost (both (nodeH sha) f old m n p whole) w) := by
  induction d with
  | zero =>
    intro f m n old p whole v w hd hf h1 hmn hn ho hu hpl hT hv
    obtain ⟨f, rfl⟩ : ∃ g, f = g + 1 := ⟨f - 1, by omega⟩
    obtain rfl : p = [] := List.length_eq_zero_iff.1 (by omega)
    by_cases e : m = n ∧ whole = true
    · obtain ⟨rfl, rfl⟩ := e; exact values_whole f m old [] v w ho hpl hv
    · exact values_nil f m n old whole v w e hv
  | succ d ih =>
    intro f m n old p whole v w hd hf h1 hmn hn ho hu hpl hT hv
    obtain ⟨f, rfl⟩ : ∃ g, f = g + 1 := ⟨f - 1, by omega⟩
    by_cases e : m = n ∧ whole = true
    · obtain ⟨rfl, rfl⟩ := e; exact values_whole f m old p v w ho hpl hv
    rcases hv with ⟨rfl, a, c, rfl⟩ | ⟨hne, b, o, c, rfl, h3, h4, hL⟩
    · exact values_nil f m n old whole _ w e (.inl ⟨rfl, a, c, rfl⟩)
    rcases List.eq_nil_or_concat p with rfl | ⟨q, x, rfl⟩
    · exact absurd rfl hne
    rw [List.concat_eq_append] at *
    have hlen : (q ++ [x]).length = q.length + 1 := by simp
    have hx : w.cell? ⟨b, o + q.length, none⟩ = some (.string ⟨x.toArray⟩) := hL q.length x (by simp)
    have hxl : x.length ≤ 1000 := hu x (by simp)
    have hq : SL w (.slice (some ⟨b, o, none⟩) q.length c) q := by
      have := SL.take h4 h3 hL q.length (by simp)
      rwa [List.take_left] at this
    have hqu : ∀ u ∈ q, List.length u ≤ 1000 := fun u h => hu u (by simp [h])
    rw [hlen] at h3 hd hpl ⊢
    by_cases emn : m = n
    · subst emn
      obtain rfl : whole = false := by
        cases whole with
        | true => exact absurd ⟨rfl, rfl⟩ e
        | false => rfl
      exact values_same f m old x q b o c w (by omega) hxl h3 hx
    have k1 := lf_lt n (by omega)
    have k2 := lf_pos n (by omega)
    have hh : ∀ w', Calls Tryd.prog 47 #[.int .i64 n] w' fun e w'' => e = .returned (.int .i64 (lf n)) ∧ w' = w'' := fun w' => half_w n w' (by omega) hn
    rw [both_snoc f m n old x q whole emn]
    by_cases hik : m ≤ lf n
    · rw [if_pos hik]
      have hA : ∀ w', Below w.heap.size w w' → Calls Tryd.prog 52 #[.string ⟨old.toArray⟩, .int .i64 m, .int .i64 (lf n), .slice (some ⟨b, o, none⟩) q.length c, .bool whole] w' (BothPost (both (nodeH sha) f old m (lf n) q whole) w') := fun w' B =>
        ih f m (lf n) old q whole _ w' (by omega) (by omega) h1 hik (by omega) ho hqu (by omega) (hT.below B) (hq.below B)
      have hN : ∀ w', Below w.heap.size w w' → ∀ u : Str, u.length ≤ 1000 → Calls Tryd.prog 17 #[.string ⟨u.toArray⟩, .string ⟨x.toArray⟩] w' fun e w'' => e = .returned (.string ⟨(nodeH sha u x).toArray⟩) ∧ Below w'.heap.size w' w'' := fun w' B u h =>
        Node_any u x w' (by omega) (by omega) (hT.below B)
      generalize both (nodeH sha) f old m (lf n) q whole = V at *
      generalize lf n = k at *
      generalize q.length = M at *
      clear ih hL hT hq hqu hu hne hlen e
      have t1 : ((m : Int) == (n : Int)) = false := by rw [beq_eq_false_iff_ne]; omega
      have t0 : (((M + 1 : Nat) : Int) == 0) = false := by rw [beq_eq_false_iff_ne]; omega
      have i0 : (0 : Int) ≤ (M : Int) := by omega
      have i1 : (M : Int) ≤ ((M : Int) + 1) := by omega
      have i2 : (M : Int) ≤ (c : Int) := by omega
      have hA2 := Lib.hid hA
      have hN2 := Lib.hid hN
      have hh2 := Lib.hid hh
      clear hA hN hh
      go_enter Tryd.func52, Tryd.ntmps52
      go_wp2_with fail
      go_quiet (fail)
      have BD : Below w.heap.size w (w.drewN nq) := below_drewN (Below.refl _ _) nq
      generalize w.drewN nq = w0 at *
      clear hx
      go_wp2_with fail
      refine (hh2.out _).mono ?_
      rintro e w' ⟨rfl, rfl⟩
      go_wp2_with fail
      refine (hA2.out _ BD).mono ?_
      rintro e w1 ⟨r1, r2, rfl, hr1, hr2, hr3, hb⟩
      have hr3 := Lib.hid hr3
      rename_i hr3o
      clear hr3o
      have B1 : Below w.heap.size w w1 := BD.trans (hb.mono BD.size)
      go_wp2_with fail
      refine (hN2.out _ B1 r2 hr2).mono ?_
      rintro e w2 ⟨rfl, hb2⟩
      go_wp2_with fail
      go_ret3
      refine ⟨r1, nodeH sha r2 x, by rw [Option.isSome_map]; rfl, hr1, by rw [nodeH_len]; omega, fun y hy => ?_, B1.trans (hb2.mono B1.size)⟩
      rw [Option.map_eq_some_iff] at hy
      obtain ⟨z, hz, rfl⟩ := hy
      exact ⟨(hr3.out z hz).1, by rw [(hr3.out z hz).2]⟩
    · rw [if_neg hik]
      have hA : ∀ w', Below w.heap.size w w' → Calls Tryd.prog 52 #[.string ⟨old.toArray⟩, .int .i64 ((m - lf n : Nat) : Int), .int .i64 ((n - lf n : Nat) : Int), .slice (some ⟨b, o, none⟩) q.length c, .bool false] w' (BothPost (both (nodeH sha) f old (m - lf n) (n - lf n) q false) w') := fun w' B =>
        ih f (m - lf n) (n - lf n) old q false _ w' (by omega) (by omega) (by omega) (by omega) (by omega) ho hqu (by omega) (hT.below B) (hq.below B)
      have hN : ∀ w', Below w.heap.size w w' → ∀ u : Str, u.length ≤ 1000 → Calls Tryd.prog 17 #[.string ⟨x.toArray⟩, .string ⟨u.toArray⟩] w' fun e w'' => e = .returned (.string ⟨(nodeH sha x u).toArray⟩) ∧ Below w'.heap.size w' w'' := fun w' B u h =>
        Node_any x u w' (by omega) (by omega) (hT.below B)
      generalize both (nodeH sha) f old (m - lf n) (n - lf n) q false = V at *
      generalize lf n = k at *
      generalize q.length = M at *
      clear ih hL hT hq hqu hu hne hlen e
      have t1 : ((m : Int) == (n : Int)) = false := by rw [beq_eq_false_iff_ne]; omega
      have t0 : (((M + 1 : Nat) : Int) == 0) = false := by rw [beq_eq_false_iff_ne]; omega
      have i0 : (0 : Int) ≤ (M : Int) := by omega
      have i1 : (M : Int) ≤ ((M : Int) + 1) := by omega
      have i2 : (M : Int) ≤ (c : Int) := by omega
      simp only [Int.ofNat_sub (show k ≤ n by omega), Int.ofNat_sub (show k ≤ m by omega)] at hA
      have hA2 := Lib.hid hA
      have hN2 := Lib.hid hN
      have hh2 := Lib.hid hh
      clear hA hN hh
      go_enter Tryd.func52, Tryd.ntmps52
      go_wp2_with fail
      go_quiet (fail)
      have BD : Below w.heap.size w (w.drewN nq) := below_drewN (Below.refl _ _) nq
      generalize w.drewN nq = w0 at *
      clear hx
      go_wp2_with fail
      refine (hh2.out _).mono ?_
      rintro e w' ⟨rfl, rfl⟩
      go_wp2_with fail
      refine (hA2.out _ BD).mono ?_
      rintro e w1 ⟨r1, r2, rfl, hr1, hr2, hr3, hb⟩
      have hr3 := Lib.hid hr3
      rename_i hr3o
      clear hr3o
      have B1 : Below w.heap.size w w1 := BD.trans (hb.mono BD.size)
      go_wp2_with fail
      refine (hN2.out _ B1 r1 hr1).mono ?_
      rintro e w2 ⟨rfl, hb2⟩
      have B2 : Below w.heap.size w w2 := B1.trans (hb2.mono B1.size)
      go_wp2_with fail
      refine (hN2.out _ B2 r2 hr2).mono ?_
      rintro e w3 ⟨rfl, hb3⟩
      go_wp2_with fail
      go_ret3
      refine ⟨nodeH sha x r1, nodeH sha x r2, by rw [Option.isSome_map]; rfl, by rw [nodeH_len]; omega, by rw [nodeH_len]; omega, fun y hy => ?_, B2.trans (hb3.mono B2.size)⟩
      rw [Option.map_eq_some_iff] at hy
      obtain ⟨z, hz, rfl⟩ := hy
      exact ⟨by rw [(hr3.out z hz).1], by rw [(hr3.out z hz).2]⟩

/-- what VerifyExtension answers -/
def verE (old : Str) (m : Int) (r : Str) (n : Int) (p : List Str) : Bool :=
  decide (0 ≤ m ∧ m ≤ n ∧ old.length = 32 ∧ r.length = 32 ∧ digB p = true ∧ (if m = 0 then p = [] ∧ old = sha [] else both (nodeH sha) (n.toNat + 1) old m.toNat n.toNat p true = some (old, r)))
theorem digB_two (a b : Str) : digB [a, b] = decide (a.length = 32 ∧ b.length = 32) := by
  rw [Bool.eq_iff_iff]; simp [digB]
theorem two_SL (w : World) (a b : Str) : SL (w.alloc (.cells #[.string ⟨a.toArray⟩, .string ⟨b.toArray⟩] 9)) (.slice (some ⟨w.heap.size, 0, none⟩) 2 2) [a, b] :=
  .inr ⟨by simp, w.heap.size, 0, 2, rfl, by simp, by simp, fun j u e => by
    rw [World.cell?_alloc_at _ _ _ _ rfl]
    match j, e with
    | 0, e => simp at e; simp [← e]
    | 1, e => simp at e; simp [← e]⟩

set_option maxRecDepth 100000 in
set_option maxHeartbeats 2000000 in
theorem VerifyExtension_any (old : Str) (m : Int) (r : Str) (n : Int) (p : List Str) (v : Value) (w : World) (hn1 : -9223372036854775808 ≤ n) (hn2 : n ≤ 9223372036854775807) (hi1 : -9223372036854775808 ≤ m) (hi2 : m ≤ 9223372036854775807)
    (hpl : p.length ≤ 1000) (hu : ∀ u ∈ p, List.length u ≤ 1000) (hT : Tab w) (hv : SL w v p) :
    Calls Tryd.prog 31 #[.string ⟨old.toArray⟩, .int .i64 m, .string ⟨r.toArray⟩, .int .i64 n, v] w fun e w' => e = .returned (.bool (verE old m r n p)) ∧ Below w.heap.size w w' := by
  by_cases h0 : m < 0
  · have hr : verE old m r n p = false := by unfold verE; rw [decide_eq_false_iff_not]; omega
    rw [hr]
    clear hr hu hT hv
    go_enter Tryd.func31, Tryd.ntmps31
    go_wp2_with fail
    go_ret
    exact ⟨rfl, Below.refl _ _⟩
  have d0 : decide (m < 0) = false := by simpa using h0
  by_cases h1 : n < m
  · have hr : verE old m r n p = false := by unfold verE; rw [decide_eq_false_iff_not]; omega
    rw [hr]
    clear hr hu hT hv
    go_enter Tryd.func31, Tryd.ntmps31
    go_wp2_with fail
    go_ret
    exact ⟨rfl, Below.refl _ _⟩
  have d1 : decide (n < m) = false := by simpa using h1
  have B1 : Below w.heap.size w (w.alloc (.cells #[.string ⟨old.toArray⟩, .string ⟨r.toArray⟩] 9)) := (Below.refl _ w).alloc (Nat.le_refl _) _
  have hd := digests_w _ _ _ (two_SL w old r) (by simp)
  rw [digB_two] at hd
  by_cases h32 : old.length = 32 ∧ r.length = 32
  rotate_left
  · have hr : verE old m r n p = false := by unfold verE; rw [decide_eq_false_iff_not]; intro h; exact h32 ⟨h.2.2.1, h.2.2.2.1⟩
    rw [hr]
    have e32 : decide (old.length = 32 ∧ r.length = 32) = false := by simpa using h32
    rw [e32] at hd
    clear hr hu hT hv h32 e32
    have hd2 := Lib.hid hd
    clear hd
    go_enter Tryd.func31, Tryd.ntmps31
    go_wp2_with fail
    refine hd2.out.mono ?_
    rintro e w' ⟨rfl, rfl⟩
    go_wp2_with fail
    go_ret
    exact ⟨rfl, B1⟩
  have e32 : decide (old.length = 32 ∧ r.length = 32) = true := by simpa using h32
  rw [e32] at hd
  have hp := digests_w v p _ (hv.below B1) (by omega)
  by_cases h2 : digB p = true
  rotate_left
  · have h3 : digB p = false := by simpa using h2
    have hr : verE old m r n p = false := by unfold verE; rw [decide_eq_false_iff_not]; intro h; exact h2 h.2.2.2.2.1
    rw [hr]
    rw [h3] at hp
    clear hr hu hT hv h32 e32 h2 h3
    have hd2 := Lib.hid hd
    have hp2 := Lib.hid hp
    clear hd hp
    go_enter Tryd.func31, Tryd.ntmps31
    go_wp2_with fail
    refine hd2.out.mono ?_
    rintro e w' ⟨rfl, rfl⟩
    go_wp2_with fail
    refine hp2.out.mono ?_
    rintro e w' ⟨rfl, rfl⟩
    go_wp2_with fail
    go_ret
    exact ⟨rfl, B1⟩
  rw [h2] at hp
  obtain ⟨N, rfl⟩ := Int.eq_ofNat_of_zero_le (show 0 ≤ n by omega)
  obtain ⟨M, rfl⟩ := Int.eq_ofNat_of_zero_le (show 0 ≤ m by omega)
  obtain ⟨w1, hw1⟩ : ∃ w1, w1 = w.alloc (.cells #[.string ⟨old.toArray⟩, .string ⟨r.toArray⟩] 9) := ⟨_, rfl⟩
  by_cases hM : M = 0
  · subst hM
    have hR := Root_any 0 [] (.slice none 0 0) w1 (by simp) (by simp) (by simp) (by rw [hw1]; exact hT.below B1) (.inl ⟨rfl, _, _, rfl⟩)
    rw [hw1] at hR
    have hr : verE old ((0 : Nat) : Int) r N p = decide (p = [] ∧ old = rootS []) := by
      unfold verE
      rw [decide_eq_decide]
      exact ⟨fun h => h.2.2.2.2.2, fun h => ⟨by omega, by omega, h32.1, h32.2, h2, h⟩⟩
    rw [hr]
    obtain ⟨a, c, rfl⟩ := hv.shape
    by_cases hpe : p = []
    · subst hpe
      generalize rootS [] = e0 at *
      have hd2 := Lib.hid hd
      have hp2 := Lib.hid hp
      have hR2 := Lib.hid hR
      clear hr hu hT hv hd hp hR hw1 h32 e32 h2
      go_enter Tryd.func31, Tryd.ntmps31
      go_wp2_with fail
      refine hd2.out.mono ?_
      rintro e w' ⟨rfl, rfl⟩
      go_wp2_with fail
      refine hp2.out.mono ?_
      rintro e w' ⟨rfl, rfl⟩
      go_wp2_with fail
      refine hR2.out.mono ?_
      rintro e w2 ⟨rfl, hb⟩
      go_wp2_with fail
      go_ret
      exact ⟨ret_bool (by rw [Bool.eq_iff_iff]; simp), B1.trans (hb.mono B1.size)⟩
    · have hfd : decide (p = [] ∧ old = rootS []) = false := by simp [hpe]
      rw [hfd]
      have hp1 : 1 ≤ p.length := Nat.pos_of_ne_zero (fun e => hpe (List.length_eq_zero_iff.1 e))
      generalize p.length = K at *
      have t0 : ((K : Int) == 0) = false := by rw [beq_eq_false_iff_ne]; omega
      have hd2 := Lib.hid hd
      have hp2 := Lib.hid hp
      clear hr hu hT hv hd hp hR hw1 h32 e32 h2 hfd hpe
      go_enter Tryd.func31, Tryd.ntmps31
      go_wp2_with fail
      refine hd2.out.mono ?_
      rintro e w' ⟨rfl, rfl⟩
      go_wp2_with fail
      refine hp2.out.mono ?_
      rintro e w' ⟨rfl, rfl⟩
      go_wp2_with fail
      go_ret
      exact ⟨rfl, B1⟩
  · have hV := values_any p.length (N + 1) M N old p true v w1 (Nat.le_refl _) (by omega) (by omega) (by omega) (by omega) (by omega) hu hpl (by rw [hw1]; exact hT.below B1) (by rw [hw1]; exact hv.below B1)
    rw [hw1] at hV
    have hr : verE old M r N p = decide (both (nodeH sha) (N + 1) old M N p true = some (old, r)) := by
      unfold verE
      rw [decide_eq_decide]
      simp only [Int.toNat_natCast]
      rw [if_neg (by omega)]
      exact ⟨fun h => h.2.2.2.2.2, fun h => ⟨by omega, by omega, h32.1, h32.2, h2, h⟩⟩
    rw [hr]
    generalize both (nodeH sha) (N + 1) old M N p true = V at *
    have t0 : ((M : Int) == 0) = false := by rw [beq_eq_false_iff_ne]; omega
    have hd2 := Lib.hid hd
    have hp2 := Lib.hid hp
    have hV2 := Lib.hid hV
    clear hr hu hT hv hd hp hV hw1 h32 e32 h2
    cases V with
    | none =>
      have he : decide ((none : Option (Str × Str)) = some (old, r)) = false := by simp
      rw [he]
      clear he
      go_enter Tryd.func31, Tryd.ntmps31
      go_wp2_with fail
      refine hd2.out.mono ?_
      rintro e w' ⟨rfl, rfl⟩
      go_wp2_with fail
      refine hp2.out.mono ?_
      rintro e w' ⟨rfl, rfl⟩
      go_wp2_with fail
      refine hV2.out.mono ?_
      rintro e w2 ⟨x, y, rfl, hx1, hx2, hx3, hb⟩
      go_wp2_with fail
      go_ret
      exact ⟨rfl, B1.trans (hb.mono B1.size)⟩
    | some z =>
      go_enter Tryd.func31, Tryd.ntmps31
      go_wp2_with fail
      refine hd2.out.mono ?_
      rintro e w' ⟨rfl, rfl⟩
      go_wp2_with fail
      refine hp2.out.mono ?_
      rintro e w' ⟨rfl, rfl⟩
      go_wp2_with fail
      refine hV2.out.mono ?_
      rintro e w2 ⟨x, y, rfl, hx1, hx2, hx3, hb⟩
      obtain ⟨e1, e2⟩ := hx3 z rfl
      obtain rfl : z = (x, y) := by rw [e1, e2]
      clear hx3 e1 e2
      by_cases hxo : x = old
      · have ho : (x == old) = true := by simp [hxo]
        go_wp2_with fail
        go_ret
        refine ⟨ret_bool ?_, B1.trans (hb.mono B1.size)⟩
        rw [Bool.eq_iff_iff]; simp [hxo]
      · have ho : (x == old) = false := by simp [hxo]
        go_wp2_with fail
        go_ret
        refine ⟨ret_bool ?_, B1.trans (hb.mono B1.size)⟩
        rw [Bool.eq_iff_iff]; simp [hxo]
end Go.Proofs.YthdfadlniacdcaaDoor
