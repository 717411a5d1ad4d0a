import Derived.Test.YthdfadlniacdcaaDoorRfJ
namespace Go.Proofs.YthdfadlniacdcaaDoor
open Go.RowKit

set_option maxRecDepth 100000 in
theorem VerifyR_any (r : Str) (n i : Int) (s : Str) (p : List Str) (v : Value) (w : World) (hn1 : -9223372036854775808 ≤ n) (hn2 : n ≤ 9223372036854775807) (hi1 : -9223372036854775808 ≤ i) (hi2 : i ≤ 9223372036854775807)
    (hs : s.length ≤ 1000) (hpl : p.length ≤ 1000) (hu : ∀ u ∈ p, List.length u ≤ 1000) (hT : Tab w) (hv : SL w v p) :
    Calls Tryd.prog 30 #[.string ⟨r.toArray⟩, .int .i64 n, .int .i64 i, .string ⟨s.toArray⟩, v] w fun e w' => e = .returned (.bool (verS r n i s p)) ∧ Below w.heap.size w w' := by
  have hd := digestsR_w v p w hv (by omega)
  by_cases h0 : i < 0
  · have hr : verS r n i s p = false := by unfold verS; rw [decide_eq_false_iff_not]; omega
    rw [hr]
    have hd2 := Lib.hid hd
    clear hr hu hT hv hd
    generalize digB p = dg at *
    go_enter Tryd.func30, Tryd.ntmps30
    go_wp2_with fail
    refine hd2.out.mono ?_
    rintro e w' ⟨rfl, rfl⟩
    go_wp2_with fail
    go_ret
    exact ⟨rfl, Below.refl _ _⟩
  have d0 : decide (i < 0) = false := by simpa using h0
  by_cases h1 : n ≤ i
  · have hr : verS r n i s p = false := by unfold verS; rw [decide_eq_false_iff_not]; omega
    rw [hr]
    have hd2 := Lib.hid hd
    clear hr hu hT hv hd
    generalize digB p = dg at *
    go_enter Tryd.func30, Tryd.ntmps30
    go_wp2_with fail
    refine hd2.out.mono ?_
    rintro e w' ⟨rfl, rfl⟩
    go_wp2_with fail
    go_ret
    exact ⟨rfl, Below.refl _ _⟩
  have d1 : decide (n ≤ i) = false := by simpa using h1
  by_cases h2 : digB p = true
  · rw [h2] at hd
    obtain ⟨N, rfl⟩ := Int.eq_ofNat_of_zero_le (show 0 ≤ n by omega)
    obtain ⟨I, rfl⟩ := Int.eq_ofNat_of_zero_le (show 0 ≤ i by omega)
    have hV := valueR_any p.length (N + 1) N I s p v w (Nat.le_refl _) (by omega) (by omega) (by omega) (by omega) hs hu hpl hT hv
    have hr : verS r N I s p = decide (val (leafH sha) (nodeH sha) (N + 1) N I s p = some r) := by
      unfold verS valS
      rw [decide_eq_decide]
      simp only [Int.toNat_natCast]
      exact ⟨fun h => h.2.2.2, fun h => ⟨by omega, by omega, h2, h⟩⟩
    rw [hr]
    generalize val (leafH sha) (nodeH sha) (N + 1) N I s p = V at *
    clear hr hu hT hv
    have hV2 := Lib.hid hV
    have hd2 := Lib.hid hd
    clear hV hd
    cases V with
    | none =>
      have he : decide ((none : Option Str) = some r) = false := by simp
      rw [he]
      clear he
      go_enter Tryd.func30, Tryd.ntmps30
      go_wp2_with fail
      refine hd2.out.mono ?_
      rintro e w' ⟨rfl, rfl⟩
      go_wp2_with fail
      refine hV2.out.mono ?_
      rintro e w1 ⟨x, rfl, hx1, hx2, hb⟩
      go_wp2_with fail
      go_ret
      exact ⟨rfl, hb⟩
    | some y =>
      go_enter Tryd.func30, Tryd.ntmps30
      go_wp2_with fail
      refine hd2.out.mono ?_
      rintro e w' ⟨rfl, rfl⟩
      go_wp2_with fail
      refine hV2.out.mono ?_
      rintro e w1 ⟨x, rfl, hx1, hx2, hb⟩
      obtain rfl : x = y := hx2 y rfl
      clear hx2
      go_wp2_with fail
      go_ret
      exact ⟨ret_bool (by rw [Bool.eq_iff_iff]; simp), hb⟩
  · have h3 : digB p = false := by simpa using h2
    have hr : verS r n i s p = false := by unfold verS; rw [decide_eq_false_iff_not]; intro h; exact h2 h.2.2.1
    rw [hr]
    rw [h3] at hd
    clear hr hu hT hv
    have hd2 := Lib.hid hd
    clear hd
    go_enter Tryd.func30, Tryd.ntmps30
    go_wp2_with fail
    refine hd2.out.mono ?_
    rintro e w' ⟨rfl, rfl⟩
    go_wp2_with fail
    go_ret
    exact ⟨rfl, Below.refl _ _⟩
end Go.Proofs.YthdfadlniacdcaaDoor
