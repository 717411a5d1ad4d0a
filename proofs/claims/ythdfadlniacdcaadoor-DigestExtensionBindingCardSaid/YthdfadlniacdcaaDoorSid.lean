import Derived.Test.YthdfadlniacdcaaDoorWay
import Derived.Test.YthdfadlniacdcaaDoorCol
namespace Go.Proofs.YthdfadlniacdcaaDoor
open Go.RowKit

set_option maxRecDepth 100000 in
set_option maxHeartbeats 1000000 in
theorem sides_base (f m n : Nat) (old : Str) (p : List Str) (whole : Bool) (v : Value) (w : World) (hc : n ≤ m ∨ p = []) (hv : SL w v p) :
    Calls Tryd.prog 37 #[.string ⟨old.toArray⟩, .int .i64 m, .int .i64 n, v, .bool whole] w (WayPost (sidesF sha (f + 1) old m n p whole) w) := by
  have hval : sidesF sha (f + 1) old m n p whole = ([], if whole = true ∨ p = [] then old else p.headD []) := by rw [sidesF, if_pos hc]
  rw [hval]
  have hc2 : (n ≤ m ∧ ¬ m < n) ∨ (¬ n ≤ m ∧ m < n) ∧ p = [] := by
    by_cases h : n ≤ m
    · exact .inl ⟨h, by omega⟩
    · exact .inr ⟨⟨h, by omega⟩, hc.resolve_left h⟩
  rcases hv with ⟨rfl, a, c, rfl⟩ | ⟨hne, b, o, c, rfl, h3, h4, hL⟩
  · rw [if_pos (.inr rfl)]
    clear hval hc
    rcases hc2 with ⟨h1, h2⟩ | ⟨⟨h1, h2⟩, _⟩
    all_goals
      cases whole
      all_goals
        go_enter Tryd.func37, Tryd.ntmps37
        go_wp2_with fail
        go_ret2
        exact ⟨_, rfl, .inl ⟨rfl, _, _, rfl⟩, Below.refl _ _⟩
  · rcases hc2 with ⟨h1, h1b⟩ | ⟨_, h2⟩
    rotate_left
    · exact absurd h2 hne
    cases whole with
    | true =>
      rw [if_pos (.inl rfl)]
      clear hval hc hL hne
      generalize p.length = N at *
      go_enter Tryd.func37, Tryd.ntmps37
      go_wp2_with fail
      go_ret2
      exact ⟨_, rfl, .inl ⟨rfl, _, _, rfl⟩, Below.refl _ _⟩
    | false =>
      obtain ⟨x, t, rfl⟩ : ∃ x t, p = x :: t := by
        cases p with
        | nil => exact absurd rfl hne
        | cons x t => exact ⟨x, t, rfl⟩
      have hx : w.cell? ⟨b, o, none⟩ = some (.string ⟨x.toArray⟩) := hL 0 x rfl
      rw [if_neg (by simp)]
      show Calls _ _ _ _ (WayPost ([], x) w)
      clear hval hc hL hne
      have hl : (x :: t).length = t.length + 1 := rfl
      rw [hl]
      rw [hl] at h3
      generalize t.length = N at *
      clear hl
      have t0 : (((N + 1 : Nat) : Int) == 0) = false := by rw [beq_eq_false_iff_ne]; omega
      have i1 : (0 : Int) < ((N + 1 : Nat) : Int) := by omega
      go_enter Tryd.func37, Tryd.ntmps37
      go_wp2_with fail
      go_quiet (fail)
      go_wp2_with fail
      go_ret2
      exact ⟨_, rfl, .inl ⟨rfl, _, _, rfl⟩, below_drewN (Below.refl _ _) _⟩
theorem sides_snoc (f m n : Nat) (old x : Str) (q : List Str) (whole : Bool) (h : ¬ n ≤ m) : sidesF sha (f + 1) old m n (q ++ [x]) whole =
    if m ≤ lf n then ((1 :: ((sidesF sha f old m (lf n) q whole).2 ++ x)) :: (sidesF sha f old m (lf n) q whole).1, nodeH sha (sidesF sha f old m (lf n) q whole).2 x)
    else ((1 :: (x ++ (sidesF sha f old (m - lf n) (n - lf n) q false).2)) :: (sidesF sha f old (m - lf n) (n - lf n) q false).1, nodeH sha x (sidesF sha f old (m - lf n) (n - lf n) q false).2) := by
  rw [sidesF, if_neg (by simp; omega)]
  simp
theorem sides_small (f m n : Nat) (old : Str) (p : List Str) (whole : Bool) (ho : old.length = 32) (hp : ∀ x ∈ p, List.length x = 32) : ∀ u ∈ (sidesF sha f old m n p whole).1, List.length u ≤ 100000 := by
  induction f generalizing m n p whole with
  | zero => intro u hu; simp [sidesF] at hu
  | succ f ih =>
    intro u hu
    have hx : (p.getLast?.getD []).length ≤ 1000 := by
      cases h : p.getLast? with
      | none => simp
      | some x => have := hp x (List.mem_of_getLast? h); simp; omega
    have hq : ∀ u ∈ p.dropLast, List.length u = 32 := fun u h => hp u ((List.dropLast_sublist p).subset h)
    unfold sidesF at hu
    split at hu
    · simp at hu
    · split at hu
      · rcases List.mem_cons.1 hu with e | hu
        · subst e; have := sides_len sha sha_len f m (lf n) old p.dropLast whole ho hq; simp; omega
        · exact ih _ _ _ _ hq u hu
      · rcases List.mem_cons.1 hu with e | hu
        · subst e; have := sides_len sha sha_len f (m - lf n) (n - lf n) old p.dropLast false ho hq; simp; omega
        · exact ih _ _ _ _ hq u hu
theorem sides_size (f m n : Nat) (old : Str) (p : List Str) (whole : Bool) : (sidesF sha f old m n p whole).1.length ≤ p.length := by
  induction f generalizing m n p whole with
  | zero => simp [sidesF]
  | succ f ih =>
    unfold sidesF
    split
    · simp
    · rename_i h
      have hp : 1 ≤ p.length := Nat.pos_of_ne_zero (fun e => h (.inr (List.length_eq_zero_iff.1 e)))
      split
      · have := ih m (lf n) p.dropLast whole; simp at this ⊢; omega
      · have := ih (m - lf n) (n - lf n) p.dropLast false; simp at this ⊢; omega

set_option maxRecDepth 100000 in
set_option maxHeartbeats 1000000 in
theorem sides_any (d : Nat) : ∀ (f m n : Nat) (old : Str) (p : List Str) (whole : Bool) (v : Value) (w : World), p.length ≤ d → n < f → 1 ≤ m → m ≤ n → n ≤ 9223372036854775807 → old.length = 32 → (∀ u ∈ p, List.length u = 32) → p.length ≤ 1000 → Tab w → SL w v p →
    Calls Tryd.prog 37 #[.string ⟨old.toArray⟩, .int .i64 m, .int .i64 n, v, .bool whole] w (WayPost (sidesF sha f old m n p whole) w) := by
  induction d with
  | zero =>
    intro f m n old p whole v w hd hf h1 hi hn hs hu hpl hT hv
    obtain ⟨f, rfl⟩ : ∃ g, f = g + 1 := ⟨f - 1, by omega⟩
    exact sides_base f m n old p whole v w (.inr (List.length_eq_zero_iff.1 (by omega))) hv
  | succ d ih =>
    intro f m n old p whole v w hd hf h1 hi hn hs hu hpl hT hv
    obtain ⟨f, rfl⟩ : ∃ g, f = g + 1 := ⟨f - 1, by omega⟩
    by_cases n1 : n ≤ m
    · exact sides_base f m n old p whole v w (.inl n1) hv
    rcases hv with ⟨rfl, a, c, rfl⟩ | ⟨hne, b, o, c, rfl, h3, h4, hL⟩
    · exact sides_base f m n old [] whole _ w (.inr rfl) (.inl ⟨rfl, a, c, rfl⟩)
    rcases List.eq_nil_or_concat p with rfl | ⟨q, x, rfl⟩
    · exact absurd rfl hne
    rw [List.concat_eq_append] at *
    have k1 := lf_lt n (by omega)
    have k2 := lf_pos n (by omega)
    have hh := left_any n w (by omega) hn
    have hlen : (q ++ [x]).length = q.length + 1 := by simp
    have hx : w.cell? ⟨b, o + q.length, none⟩ = some (.string ⟨x.toArray⟩) := hL q.length x (by simp)
    have hxl : x.length = 32 := hu x (by simp)
    have hq : SL w (.slice (some ⟨b, o, none⟩) q.length c) q := by
      have := SL.take h4 h3 hL q.length (by simp)
      rwa [List.take_left] at this
    have hqu : ∀ u ∈ q, List.length u = 32 := fun u h => hu u (by simp [h])
    rw [hlen] at h3 hd hpl ⊢
    rw [sides_snoc f m n old x q whole n1]
    have t1 : ¬ ((n : Int) ≤ (m : Int)) := by omega
    by_cases hik : m ≤ lf n
    · rw [if_pos hik]
      have hA := ih f m (lf n) old q whole _ w (by omega) (by omega) h1 hik (by omega) hs hqu (by omega) hT hq
      have hN : ∀ w', Below w.heap.size w w' → ∀ u : Str, u.length ≤ 1000 → Calls Tryd.prog 17 #[.string ⟨u.toArray⟩, .string ⟨x.toArray⟩] w' fun e w'' => e = .returned (.string ⟨(nodeH sha u x).toArray⟩) ∧ Below w'.heap.size w' w'' := fun w' B u h =>
        Node_any u x w' (by omega) (by omega) (hT.below B)
      have l1 := sides_len sha sha_len f m (lf n) old q whole hs hqu
      have l2 := sides_size f m (lf n) old q whole
      generalize sidesF sha f old m (lf n) q whole = V at *
      obtain ⟨V1, V2⟩ := V
      generalize lf n = k at *
      generalize q.length = M at *
      clear ih hL hT hq hqu hu hne hlen
      have t0 : (((M + 1 : Nat) : Int) == 0) = false := by rw [beq_eq_false_iff_ne]; omega
      have hA2 := Lib.hid hA
      have hN2 := Lib.hid hN
      clear hA hN
      go_enter Tryd.func37, Tryd.ntmps37
      go_wp2_with (go_at_call 38; refine hh.mono ?_; rintro e w' ⟨rfl, rfl⟩)
      refine hA2.out.mono ?_
      rintro e w1 ⟨v1, rfl, hs1, hb⟩
      obtain ⟨v2, w2, r2, o2, b2⟩ := cons_run w1 v1 V1 _ _ (cat3 1 V2 x) hs1 (by have l3 : V1.length ≤ M := l2; omega)
      have B2 := hb.trans (b2.mono hb.size)
      have hn3 := hN2.out w2 B2 V2 (by have l3 : V2.length = 32 := l1; omega)
      obtain ⟨a1, d1, rfl⟩ := hs1.shape
      have hn4 := Lib.hid hn3
      clear hn3 hs1
      go_wp2_with (at_builtin; refine wpList_append_run rfl (.tmp 66) (.tmp 67) 26 rfl (.slice (some ⟨w1.heap.size, 0, none⟩) 1 1) (.slice a1 V1.length d1) rfl rfl v2 w2 r2 ?_)
      refine hn4.out.mono ?_
      rintro e w3 ⟨rfl, b3⟩
      go_wp2_with fail
      go_ret2
      exact ⟨v2, rfl, (own_SL o2).below b3, B2.trans (b3.mono B2.size)⟩
    · rw [if_neg hik]
      have hA := ih f (m - lf n) (n - lf n) old q false _ w (by omega) (by omega) (by omega) (by omega) (by omega) hs hqu (by omega) hT hq
      have hN : ∀ w', Below w.heap.size w w' → ∀ u : Str, u.length ≤ 1000 → Calls Tryd.prog 17 #[.string ⟨x.toArray⟩, .string ⟨u.toArray⟩] w' fun e w'' => e = .returned (.string ⟨(nodeH sha x u).toArray⟩) ∧ Below w'.heap.size w' w'' := fun w' B u h =>
        Node_any x u w' (by omega) (by omega) (hT.below B)
      have l1 := sides_len sha sha_len f (m - lf n) (n - lf n) old q false hs hqu
      have l2 := sides_size f (m - lf n) (n - lf n) old q false
      generalize sidesF sha f old (m - lf n) (n - lf n) q false = V at *
      obtain ⟨V1, V2⟩ := V
      generalize lf n = k at *
      generalize q.length = M at *
      clear ih hL hT hq hqu hu hne hlen
      have t0 : (((M + 1 : Nat) : Int) == 0) = false := by rw [beq_eq_false_iff_ne]; omega
      rw [Int.ofNat_sub (show k ≤ n by omega), Int.ofNat_sub (show k ≤ m by omega)] at hA
      have hA2 := Lib.hid hA
      have hN2 := Lib.hid hN
      clear hA hN
      go_enter Tryd.func37, Tryd.ntmps37
      go_wp2_with (go_at_call 38; refine hh.mono ?_; rintro e w' ⟨rfl, rfl⟩)
      refine hA2.out.mono ?_
      rintro e w1 ⟨v1, rfl, hs1, hb⟩
      obtain ⟨v2, w2, r2, o2, b2⟩ := cons_run w1 v1 V1 _ _ (cat3 1 x V2) hs1 (by have l3 : V1.length ≤ M := l2; omega)
      have B2 := hb.trans (b2.mono hb.size)
      have hn3 := hN2.out w2 B2 V2 (by have l3 : V2.length = 32 := l1; omega)
      obtain ⟨a1, d1, rfl⟩ := hs1.shape
      have hn4 := Lib.hid hn3
      clear hn3 hs1
      go_wp2_with (at_builtin; refine wpList_append_run rfl (.tmp 88) (.tmp 89) 26 rfl (.slice (some ⟨w1.heap.size, 0, none⟩) 1 1) (.slice a1 V1.length d1) rfl rfl v2 w2 r2 ?_)
      refine hn4.out.mono ?_
      rintro e w3 ⟨rfl, b3⟩
      go_wp2_with fail
      go_ret2
      exact ⟨v2, rfl, (own_SL o2).below b3, B2.trans (b3.mono B2.size)⟩
end Go.Proofs.YthdfadlniacdcaaDoor
