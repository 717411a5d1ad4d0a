import Derived.Test.YthdfadlniacdcaaDoorRfE
import Derived.Test.YthdfadlniacdcaaDoorExu
namespace Go.Proofs.YthdfadlniacdcaaDoor
open Go.RowKit

set_option maxRecDepth 100000 in
theorem bothR_whole (f m : Nat) (old : Str) (p : List Str) (v : Value) (w : World) (ho : old.length ≤ 1000) (hpl : p.length ≤ 1000) (hv : SL w v p) :
    Calls Tryd.prog 53 #[.string ⟨old.toArray⟩, .int .i64 m, .int .i64 m, v, .bool true] w (BothPost (both (nodeH sha) (f + 1) old m m p true) w) := by
  obtain ⟨a, c, rfl⟩ := hv.shape
  by_cases hp : p = []
  · subst hp
    have hval : both (nodeH sha) (f + 1) old m m [] true = some (old, old) := by unfold both; rw [if_pos rfl]; rfl
    rw [hval]
    clear hval hv
    go_enter Tryd.func53, Tryd.ntmps53
    go_wp2_with fail
    go_ret3
    exact ⟨old, old, rfl, ho, ho, (fun r h => by injection h with h; rw [← h]; exact ⟨rfl, rfl⟩), Below.refl _ _⟩
  · have hval : both (nodeH sha) (f + 1) old m m p true = none := by unfold both; rw [if_pos rfl]; simp [hp]
    have hp1 : 1 ≤ p.length := Nat.pos_of_ne_zero (fun e => hp (List.length_eq_zero_iff.1 e))
    rw [hval]
    generalize p.length = N at *
    clear hval hv hp
    have t0 : decide ((N : Int) - 1 < 0) = false := by rw [decide_eq_false_iff_not]; omega
    have t0w : IntKind.i64.wrap ((N : Int) - 1) = (N : Int) - 1 := IntWalk.i64_in _ (by omega)
    go_enter Tryd.func53, Tryd.ntmps53
    go_wp2_with fail
    go_ret3
    exact ⟨old, old, rfl, ho, ho, (fun r h => by cases h), Below.refl _ _⟩

set_option maxRecDepth 100000 in
theorem bothR_nil (f m n : Nat) (old : Str) (whole : Bool) (v : Value) (w : World) (h : ¬ (m = n ∧ whole = true)) (hv : SL w v []) :
    Calls Tryd.prog 53 #[.string ⟨old.toArray⟩, .int .i64 m, .int .i64 n, v, .bool whole] w (BothPost (both (nodeH sha) (f + 1) old m n [] whole) w) := by
  obtain ⟨a, c, rfl⟩ := hv.shape
  have hval : both (nodeH sha) (f + 1) old m n [] whole = none := by
    unfold both
    by_cases e : m = n
    · rw [if_pos e]
      cases whole with
      | true => exact absurd ⟨e, rfl⟩ h
      | false => rfl
    · rw [if_neg e]; rfl
  rw [hval]
  clear hval hv
  by_cases e : m = n
  · subst e
    obtain rfl : whole = false := by
      cases whole with
      | true => exact absurd ⟨rfl, rfl⟩ h
      | false => rfl
    go_enter Tryd.func53, Tryd.ntmps53
    go_wp2_with fail
    go_ret3
    exact ⟨[], [], rfl, by simp, by simp, (fun r h => by cases h), Below.refl _ _⟩
  · have t1 : ((m : Int) == (n : Int)) = false := by rw [beq_eq_false_iff_ne]; omega
    clear h e
    go_enter Tryd.func53, Tryd.ntmps53
    go_wp2_with fail
    go_ret3
    exact ⟨[], [], rfl, by simp, by simp, (fun r h => by cases h), Below.refl _ _⟩

set_option maxRecDepth 100000 in
theorem bothR_same (f m : Nat) (old x : Str) (q : List Str) (b o c : Nat) (w : World) (hpl : q.length ≤ 1000) (hx : x.length ≤ 1000) (hc : q.length + 1 ≤ c) (hcell : w.cell? ⟨b, o + q.length, none⟩ = some (.string ⟨x.toArray⟩)) :
    Calls Tryd.prog 53 #[.string ⟨old.toArray⟩, .int .i64 m, .int .i64 m, .slice (some ⟨b, o, none⟩) (q.length + 1) c, .bool false] w (BothPost (both (nodeH sha) (f + 1) old m m (q ++ [x]) false) w) := by
  have hval : both (nodeH sha) (f + 1) old m m (q ++ [x]) false = if q = [] then some (x, x) else none := by
    unfold both
    rw [if_pos rfl]
    match q with
    | [] => rfl
    | [a] => rfl
    | a :: b :: t => rfl
  rw [hval]
  clear hval
  have t2 : IntKind.i64.wrap (((q.length + 1 : Nat) : Int) - 1) = (q.length : Int) := by rw [IntWalk.i64_in _ (by omega)]; omega
  have i0 : (0 : Int) ≤ (q.length : Int) := by omega
  have i1 : (q.length : Int) ≤ ((q.length : Int) + 1) := by omega
  by_cases hq : q = []
  · subst hq
    simp only [List.length_nil, Nat.add_zero] at *
    go_enter Tryd.func53, Tryd.ntmps53
    go_wp2_with fail
    go_quiet (fail)
    go_wp2_with fail
    go_ret3
    exact ⟨x, x, rfl, hx, hx, (fun r h => by simp at h; rw [← h]; exact ⟨rfl, rfl⟩), below_drewN (Below.refl _ _) _⟩
  · have hq1 : 1 ≤ q.length := Nat.pos_of_ne_zero (fun e => hq (List.length_eq_zero_iff.1 e))
    rw [if_neg hq]
    generalize q.length = N at *
    clear hq
    have t0 : ((N : Int) != 0) = true := by rw [bne_iff_ne]; omega
    go_enter Tryd.func53, Tryd.ntmps53
    go_wp2_with fail
    go_ret3
    exact ⟨[], [], rfl, by simp, by simp, (fun r h => by cases h), Below.refl _ _⟩

set_option maxRecDepth 100000 in
set_option maxHeartbeats 2000000 in
theorem bothR_any (d : Nat) : ∀ (f m n : Nat) (old : Str) (p : List Str) (whole : Bool) (v : Value) (w : World), p.length ≤ d → n < f → 1 ≤ m → m ≤ n → n ≤ 9223372036854775807 → old.length ≤ 1000 → (∀ u ∈ p, List.length u ≤ 1000) → p.length ≤ 1000 → Tab w → SL w v p →
    Calls Tryd.prog 53 #[.string ⟨old.toArray⟩, .int .i64 m, .int .i64 n, v, .bool whole] w (BothPost (both (nodeH sha) f old m n p whole) w) := by
  induction d with
  | zero =>
    intro f m n old p whole v w hd hf h1 hmn hn ho hu hpl hT hv
    obtain ⟨f, rfl⟩ : ∃ g, f = g + 1 := ⟨f - 1, by omega⟩
    obtain rfl : p = [] := List.length_eq_zero_iff.1 (by omega)
    by_cases e : m = n ∧ whole = true
    · obtain ⟨rfl, rfl⟩ := e; exact bothR_whole f m old [] v w ho hpl hv
    · exact bothR_nil f m n old whole v w e hv
  | succ d ih =>
    intro f m n old p whole v w hd hf h1 hmn hn ho hu hpl hT hv
    obtain ⟨f, rfl⟩ : ∃ g, f = g + 1 := ⟨f - 1, by omega⟩
    by_cases e : m = n ∧ whole = true
    · obtain ⟨rfl, rfl⟩ := e; exact bothR_whole f m old p v w ho hpl hv
    rcases hv with ⟨rfl, a, c, rfl⟩ | ⟨hne, b, o, c, rfl, h3, h4, hL⟩
    · exact bothR_nil f m n old whole _ w e (.inl ⟨rfl, a, c, rfl⟩)
    rcases List.eq_nil_or_concat p with rfl | ⟨q, x, rfl⟩
    · exact absurd rfl hne
    rw [List.concat_eq_append] at *
    have hlen : (q ++ [x]).length = q.length + 1 := by simp
    have hx : w.cell? ⟨b, o + q.length, none⟩ = some (.string ⟨x.toArray⟩) := hL q.length x (by simp)
    have hxl : x.length ≤ 1000 := hu x (by simp)
    have hq : SL w (.slice (some ⟨b, o, none⟩) q.length c) q := by
      have := SL.take h4 h3 hL q.length (by simp)
      rwa [List.take_left] at this
    have hqu : ∀ u ∈ q, List.length u ≤ 1000 := fun u h => hu u (by simp [h])
    rw [hlen] at h3 hd hpl ⊢
    by_cases emn : m = n
    · subst emn
      obtain rfl : whole = false := by
        cases whole with
        | true => exact absurd ⟨rfl, rfl⟩ e
        | false => rfl
      exact bothR_same f m old x q b o c w (by omega) hxl h3 hx
    have k1 := lf_lt n (by omega)
    have k2 := lf_pos n (by omega)
    have hh : ∀ w', Calls Tryd.prog 44 #[.int .i64 n] w' fun e w'' => e = .returned (.int .i64 (lf n)) ∧ w' = w'' := fun w' => leftR_any n w' (by omega) hn
    rw [both_snoc f m n old x q whole emn]
    by_cases hik : m ≤ lf n
    · rw [if_pos hik]
      have hA : ∀ w', Below w.heap.size w w' → Calls Tryd.prog 53 #[.string ⟨old.toArray⟩, .int .i64 m, .int .i64 (lf n), .slice (some ⟨b, o, none⟩) q.length c, .bool whole] w' (BothPost (both (nodeH sha) f old m (lf n) q whole) w') := fun w' B =>
        ih f m (lf n) old q whole _ w' (by omega) (by omega) h1 hik (by omega) ho hqu (by omega) (hT.below B) (hq.below B)
      have hN : ∀ w', Below w.heap.size w w' → ∀ u : Str, u.length ≤ 1000 → Calls Tryd.prog 18 #[.string ⟨u.toArray⟩, .string ⟨x.toArray⟩] w' fun e w'' => e = .returned (.string ⟨(nodeH sha u x).toArray⟩) ∧ Below w'.heap.size w' w'' := fun w' B u h =>
        NodeR_any u x w' (by omega) (by omega)
      generalize both (nodeH sha) f old m (lf n) q whole = V at *
      generalize lf n = k at *
      generalize q.length = M at *
      clear ih hL hT hq hqu hu hne hlen e
      have t1 : ((m : Int) == (n : Int)) = false := by rw [beq_eq_false_iff_ne]; omega
      have t0 : IntKind.i64.wrap (((M + 1 : Nat) : Int) - 1) = (M : Int) := by rw [IntWalk.i64_in _ (by omega)]; omega
      have t0d : decide ((M : Int) < 0) = false := by rw [decide_eq_false_iff_not]; omega
      have i0 : (0 : Int) ≤ (M : Int) := by omega
      have i1 : (M : Int) ≤ ((M : Int) + 1) := by omega
      have i1b : (M : Int) < ((M : Int) + 1) := by omega
      have i1c : (M : Int) < ((M + 1 : Nat) : Int) := by omega
      have i2 : (M : Int) ≤ (c : Int) := by omega
      have hA2 := Lib.hid hA
      have hN2 := Lib.hid hN
      have hh2 := Lib.hid hh
      clear hA hN hh
      go_enter Tryd.func53, Tryd.ntmps53
      have BD := Below.refl w.heap.size w
      have hx2 := Lib.hid hx
      clear hx
      go_wp2_with fail
      refine (hh2.out _).mono ?_
      rintro e w' ⟨rfl, rfl⟩
      go_wp2_with fail
      refine (hA2.out _ BD).mono ?_
      rintro e w1 ⟨r1, r2, rfl, hr1, hr2, hr3, hb⟩
      have hr3 := Lib.hid hr3
      rename_i hr3o
      clear hr3o
      have B1 : Below w.heap.size w w1 := BD.trans (hb.mono BD.size)
      have c1 := (B1.cell (p := ⟨b, o + M, none⟩) h4).trans hx2.out
      go_wp2_with fail
      refine (hN2.out _ B1 r2 hr2).mono ?_
      rintro e w2 ⟨rfl, hb2⟩
      go_wp2_with fail
      go_ret3
      refine ⟨r1, nodeH sha r2 x, by rw [Option.isSome_map]; rfl, hr1, by rw [nodeH_len]; omega, fun y hy => ?_, B1.trans (hb2.mono B1.size)⟩
      rw [Option.map_eq_some_iff] at hy
      obtain ⟨z, hz, rfl⟩ := hy
      exact ⟨(hr3.out z hz).1, by rw [(hr3.out z hz).2]⟩
    · rw [if_neg hik]
      have hA : ∀ w', Below w.heap.size w w' → Calls Tryd.prog 53 #[.string ⟨old.toArray⟩, .int .i64 ((m - lf n : Nat) : Int), .int .i64 ((n - lf n : Nat) : Int), .slice (some ⟨b, o, none⟩) q.length c, .bool false] w' (BothPost (both (nodeH sha) f old (m - lf n) (n - lf n) q false) w') := fun w' B =>
        ih f (m - lf n) (n - lf n) old q false _ w' (by omega) (by omega) (by omega) (by omega) (by omega) ho hqu (by omega) (hT.below B) (hq.below B)
      have hN : ∀ w', Below w.heap.size w w' → ∀ u : Str, u.length ≤ 1000 → Calls Tryd.prog 18 #[.string ⟨x.toArray⟩, .string ⟨u.toArray⟩] w' fun e w'' => e = .returned (.string ⟨(nodeH sha x u).toArray⟩) ∧ Below w'.heap.size w' w'' := fun w' B u h =>
        NodeR_any x u w' (by omega) (by omega)
      generalize both (nodeH sha) f old (m - lf n) (n - lf n) q false = V at *
      generalize lf n = k at *
      generalize q.length = M at *
      clear ih hL hT hq hqu hu hne hlen e
      have t1 : ((m : Int) == (n : Int)) = false := by rw [beq_eq_false_iff_ne]; omega
      have t0 : IntKind.i64.wrap (((M + 1 : Nat) : Int) - 1) = (M : Int) := by rw [IntWalk.i64_in _ (by omega)]; omega
      have t0d : decide ((M : Int) < 0) = false := by rw [decide_eq_false_iff_not]; omega
      have i0 : (0 : Int) ≤ (M : Int) := by omega
      have i1 : (M : Int) ≤ ((M : Int) + 1) := by omega
      have i1b : (M : Int) < ((M : Int) + 1) := by omega
      have i1c : (M : Int) < ((M + 1 : Nat) : Int) := by omega
      have i2 : (M : Int) ≤ (c : Int) := by omega
      simp only [Int.ofNat_sub (show k ≤ n by omega), Int.ofNat_sub (show k ≤ m by omega)] at hA
      have hA2 := Lib.hid hA
      have hN2 := Lib.hid hN
      have hh2 := Lib.hid hh
      clear hA hN hh
      go_enter Tryd.func53, Tryd.ntmps53
      have BD := Below.refl w.heap.size w
      have hx2 := Lib.hid hx
      clear hx
      go_wp2_with fail
      refine (hh2.out _).mono ?_
      rintro e w' ⟨rfl, rfl⟩
      go_wp2_with fail
      refine (hA2.out _ BD).mono ?_
      rintro e w1 ⟨r1, r2, rfl, hr1, hr2, hr3, hb⟩
      have hr3 := Lib.hid hr3
      rename_i hr3o
      clear hr3o
      have B1 : Below w.heap.size w w1 := BD.trans (hb.mono BD.size)
      have c1 := (B1.cell (p := ⟨b, o + M, none⟩) h4).trans hx2.out
      go_wp2_with fail
      go_region_held3 (fun w' => w'.cell? ⟨b, o + M, none⟩ = some (.string ⟨x.toArray⟩))
        (first | go_keep | exact (B3.cell (p := ⟨b, o + M, none⟩) h4).trans hx2.out | exact (B4.cell (p := ⟨b, o + M, none⟩) h4).trans hx2.out)
        (first
          | (go_at_call 18; (with_reducible refine (hN2.out _ (by first | exact B1.drew | exact B1) r1 hr1).mono ?_); rintro e w3 ⟨rfl, hb3⟩; have B3 : Below w.heap.size w w3 := by first | exact B1.drew.trans (hb3.mono B1.drew.size) | exact B1.trans (hb3.mono B1.size))
          | (go_at_call 18; (with_reducible refine (hN2.out _ B3 r2 hr2).mono ?_); rintro e w4 ⟨rfl, hb4⟩; have B4 : Below w.heap.size w w4 := B3.trans (hb4.mono B3.size)))
      go_wp2_with fail
      go_ret3
      refine ⟨nodeH sha x r1, nodeH sha x r2, by rw [Option.isSome_map]; rfl, by rw [nodeH_len]; omega, by rw [nodeH_len]; omega, fun y hy => ?_, B4⟩
      rw [Option.map_eq_some_iff] at hy
      obtain ⟨z, hz, rfl⟩ := hy
      exact ⟨by rw [(hr3.out z hz).1], by rw [(hr3.out z hz).2]⟩

end Go.Proofs.YthdfadlniacdcaaDoor
