import Derived.Test.YthdfadlniacdcaaDoorRfK
namespace Go.Proofs.YthdfadlniacdcaaDoor
open Go.RowKit

set_option maxRecDepth 100000 in
set_option maxHeartbeats 2000000 in
theorem VerifyExtensionR_any (old : Str) (m : Int) (r : Str) (n : Int) (p : List Str) (v : Value) (w : World) (hn1 : -9223372036854775808 ≤ n) (hn2 : n ≤ 9223372036854775807) (hi1 : -9223372036854775808 ≤ m) (hi2 : m ≤ 9223372036854775807)
    (hpl : p.length ≤ 1000) (hu : ∀ u ∈ p, List.length u ≤ 1000) (_ : old.length ≤ 9223372036854775807) (_ : r.length ≤ 9223372036854775807) (hT : Tab w) (hv : SL w v p) :
    Calls Tryd.prog 32 #[.string ⟨old.toArray⟩, .int .i64 m, .string ⟨r.toArray⟩, .int .i64 n, v] w fun e w' => e = .returned (.bool (verE old m r n p)) ∧ Below w.heap.size w w' := by
  have hd := digestsR_w v p w hv (by omega)
  by_cases h0 : m < 0
  · have hr : verE old m r n p = false := by unfold verE; rw [decide_eq_false_iff_not]; omega
    rw [hr]
    have hd2 := Lib.hid hd
    clear hr hu hT hv hd
    generalize digB p = dg at *
    go_enter Tryd.func32, Tryd.ntmps32
    go_wp2_with fail
    refine hd2.out.mono ?_
    rintro e w' ⟨rfl, rfl⟩
    go_wp2_with fail
    go_ret
    exact ⟨rfl, Below.refl _ _⟩
  have d0 : decide (m < 0) = false := by simpa using h0
  by_cases h1 : n < m
  · have hr : verE old m r n p = false := by unfold verE; rw [decide_eq_false_iff_not]; omega
    rw [hr]
    have hd2 := Lib.hid hd
    clear hr hu hT hv hd
    generalize digB p = dg at *
    go_enter Tryd.func32, Tryd.ntmps32
    go_wp2_with fail
    refine hd2.out.mono ?_
    rintro e w' ⟨rfl, rfl⟩
    go_wp2_with fail
    go_ret
    exact ⟨rfl, Below.refl _ _⟩
  have d1 : decide (n < m) = false := by simpa using h1
  by_cases h2 : digB p = true
  rotate_left
  · have h3 : digB p = false := by simpa using h2
    have hr : verE old m r n p = false := by unfold verE; rw [decide_eq_false_iff_not]; intro h; exact h2 h.2.2.2.2.1
    rw [hr]
    rw [h3] at hd
    have hd2 := Lib.hid hd
    clear hr hu hT hv hd h2 h3
    go_enter Tryd.func32, Tryd.ntmps32
    go_wp2_with fail
    refine hd2.out.mono ?_
    rintro e w' ⟨rfl, rfl⟩
    go_wp2_with fail
    go_ret
    exact ⟨rfl, Below.refl _ _⟩
  rw [h2] at hd
  by_cases h32 : old.length = 32
  rotate_left
  · have hr : verE old m r n p = false := by unfold verE; rw [decide_eq_false_iff_not]; intro h; exact h32 h.2.2.1
    rw [hr]
    have t32 : ((old.length : Int) != 32) = true := by rw [bne_iff_ne]; omega
    have hd2 := Lib.hid hd
    clear hr hu hT hv hd h2 h32
    go_enter Tryd.func32, Tryd.ntmps32
    go_wp2_with fail
    refine hd2.out.mono ?_
    rintro e w' ⟨rfl, rfl⟩
    go_wp2_with fail
    go_ret
    exact ⟨rfl, Below.refl _ _⟩
  have t32 : ((old.length : Int) != 32) = false := by rw [h32]; rfl
  by_cases k32 : r.length = 32
  rotate_left
  · have hr : verE old m r n p = false := by unfold verE; rw [decide_eq_false_iff_not]; intro h; exact k32 h.2.2.2.1
    rw [hr]
    have u32 : ((r.length : Int) != 32) = true := by rw [bne_iff_ne]; omega
    have hd2 := Lib.hid hd
    clear hr hu hT hv hd h2 h32 k32
    go_enter Tryd.func32, Tryd.ntmps32
    go_wp2_with fail
    refine hd2.out.mono ?_
    rintro e w' ⟨rfl, rfl⟩
    go_wp2_with fail
    go_ret
    exact ⟨rfl, Below.refl _ _⟩
  have u32 : ((r.length : Int) != 32) = false := by rw [k32]; rfl
  obtain ⟨N, rfl⟩ := Int.eq_ofNat_of_zero_le (show 0 ≤ n by omega)
  obtain ⟨M, rfl⟩ := Int.eq_ofNat_of_zero_le (show 0 ≤ m by omega)
  obtain ⟨a, c, hshape⟩ := hv.shape
  by_cases hM : M = 0
  · subst hM
    have hR := SumR_any [] w (by simp)
    have hr : verE old ((0 : Nat) : Int) r N p = decide (p = [] ∧ old = sha []) := by
      unfold verE
      rw [decide_eq_decide]
      exact ⟨fun h => h.2.2.2.2.2, fun h => ⟨by omega, by omega, h32, k32, h2, h⟩⟩
    rw [hr]
    subst hshape
    by_cases hpe : p = []
    · subst hpe
      generalize sha [] = e0 at *
      have hd2 := Lib.hid hd
      have hR2 := Lib.hid hR
      clear hr hu hT hv hd hR h32 k32 h2
      go_enter Tryd.func32, Tryd.ntmps32
      go_wp2_with fail
      refine hd2.out.mono ?_
      rintro e w' ⟨rfl, rfl⟩
      go_wp2_with fail
      refine hR2.out.mono ?_
      rintro e w2 ⟨rfl, hb⟩
      go_wp2_with fail
      go_ret
      exact ⟨ret_bool (by rw [Bool.eq_iff_iff]; simp), hb⟩
    · have hfd : decide (p = [] ∧ old = sha []) = false := by simp [hpe]
      rw [hfd]
      have hp1 : 1 ≤ p.length := Nat.pos_of_ne_zero (fun e => hpe (List.length_eq_zero_iff.1 e))
      generalize p.length = K at *
      have t0 : ((K : Int) == 0) = false := by rw [beq_eq_false_iff_ne]; omega
      have hd2 := Lib.hid hd
      clear hr hu hT hv hd hR h32 k32 h2 hfd hpe
      go_enter Tryd.func32, Tryd.ntmps32
      go_wp2_with fail
      refine hd2.out.mono ?_
      rintro e w' ⟨rfl, rfl⟩
      go_wp2_with fail
      go_ret
      exact ⟨rfl, Below.refl _ _⟩
  have t0 : ((M : Int) == 0) = false := by rw [beq_eq_false_iff_ne]; omega
  by_cases hMN : M = N
  · subst hMN
    have hr : verE old M r M p = decide (p = [] ∧ old = r) := by
      unfold verE
      rw [decide_eq_decide]
      simp only [Int.toNat_natCast]
      rw [if_neg (by omega)]
      have hb : both (nodeH sha) (M + 1) old M M p true = if p = [] then some (old, old) else none := by unfold both; rw [if_pos rfl]; simp
      rw [hb]
      constructor
      · intro h
        have h6 := h.2.2.2.2.2
        split at h6
        · rename_i hp
          injection h6 with h6
          injection h6 with _ h6
          exact ⟨hp, h6⟩
        · cases h6
      · rintro ⟨h6, h7⟩
        exact ⟨by omega, by omega, h32, k32, h2, by rw [if_pos h6, h7]⟩
    rw [hr]
    subst hshape
    by_cases hpe : p = []
    · subst hpe
      have hd2 := Lib.hid hd
      clear hr hu hT hv hd h32 k32 h2
      go_enter Tryd.func32, Tryd.ntmps32
      go_wp2_with fail
      refine hd2.out.mono ?_
      rintro e w' ⟨rfl, rfl⟩
      go_wp2_with fail
      go_ret
      exact ⟨ret_bool (by rw [Bool.eq_iff_iff]; simp), Below.refl _ _⟩
    · have hfd : decide (p = [] ∧ old = r) = false := by simp [hpe]
      rw [hfd]
      have hp1 : 1 ≤ p.length := Nat.pos_of_ne_zero (fun e => hpe (List.length_eq_zero_iff.1 e))
      generalize p.length = K at *
      have t1 : ((K : Int) == 0) = false := by rw [beq_eq_false_iff_ne]; omega
      have hd2 := Lib.hid hd
      clear hr hu hT hv hd h32 k32 h2 hfd hpe
      go_enter Tryd.func32, Tryd.ntmps32
      go_wp2_with fail
      refine hd2.out.mono ?_
      rintro e w' ⟨rfl, rfl⟩
      go_wp2_with fail
      go_ret
      exact ⟨rfl, Below.refl _ _⟩
  · have t2 : ((M : Int) == (N : Int)) = false := by rw [beq_eq_false_iff_ne]; omega
    have hV := bothR_any p.length (N + 1) M N old p true v w (Nat.le_refl _) (by omega) (by omega) (by omega) (by omega) (by omega) hu hpl hT hv
    have hr : verE old M r N p = decide (both (nodeH sha) (N + 1) old M N p true = some (old, r)) := by
      unfold verE
      rw [decide_eq_decide]
      simp only [Int.toNat_natCast]
      rw [if_neg (by omega)]
      exact ⟨fun h => h.2.2.2.2.2, fun h => ⟨by omega, by omega, h32, k32, h2, h⟩⟩
    rw [hr]
    generalize both (nodeH sha) (N + 1) old M N p true = V at *
    have hd2 := Lib.hid hd
    have hV2 := Lib.hid hV
    clear hr hu hT hv hd hV h32 k32 h2 hMN hM hshape
    cases V with
    | none =>
      have he : decide ((none : Option (Str × Str)) = some (old, r)) = false := by simp
      rw [he]
      clear he
      go_enter Tryd.func32, Tryd.ntmps32
      go_wp2_with fail
      refine hd2.out.mono ?_
      rintro e w' ⟨rfl, rfl⟩
      go_wp2_with fail
      refine hV2.out.mono ?_
      rintro e w2 ⟨x, y, rfl, hx1, hx2, hx3, hb⟩
      go_wp2_with fail
      go_ret
      exact ⟨rfl, hb⟩
    | some z =>
      go_enter Tryd.func32, Tryd.ntmps32
      go_wp2_with fail
      refine hd2.out.mono ?_
      rintro e w' ⟨rfl, rfl⟩
      go_wp2_with fail
      refine hV2.out.mono ?_
      rintro e w2 ⟨x, y, rfl, hx1, hx2, hx3, hb⟩
      obtain ⟨e1, e2⟩ := hx3 z rfl
      obtain rfl : z = (x, y) := by rw [e1, e2]
      clear hx3 e1 e2
      by_cases hxo : x = old
      · have ho : (x == old) = true := by simp [hxo]
        go_wp2_with fail
        go_ret
        refine ⟨ret_bool ?_, hb⟩
        rw [Bool.eq_iff_iff]; simp [hxo]
      · have ho : (x == old) = false := by simp [hxo]
        go_wp2_with fail
        go_ret
        refine ⟨ret_bool ?_, hb⟩
        rw [Bool.eq_iff_iff]; simp [hxo]
end Go.Proofs.YthdfadlniacdcaaDoor
