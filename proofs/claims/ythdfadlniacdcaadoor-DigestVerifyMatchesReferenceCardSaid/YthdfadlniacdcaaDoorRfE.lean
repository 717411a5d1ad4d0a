import Derived.Test.YthdfadlniacdcaaDoorRfD
namespace Go.Proofs.YthdfadlniacdcaaDoor
open Go.RowKit

set_option maxRecDepth 100000 in
set_option maxHeartbeats 1000000 in
theorem RootR_any (n : Nat) : ∀ (l : List Str) (v : Value) (w : World), l.length ≤ n → (∀ u ∈ l, List.length u ≤ 1000) → l.length ≤ 100000 → Tab w → SL w v l →
    Calls Tryd.prog 28 #[v] w fun e w' => e = .returned (.string ⟨(rootS l).toArray⟩) ∧ Below w.heap.size w w' := by
  induction n with
  | zero =>
    intro l v w hn _ _ hT hv
    obtain rfl : l = [] := List.length_eq_zero_iff.1 (by omega)
    rcases hv with ⟨_, a, c, rfl⟩ | ⟨h, _⟩
    · have hs := SumR_any [] w (by simp)
      go_enter Tryd.func28, Tryd.ntmps28
      go_wp2_with (go_at_call 14; refine hs.mono ?_; rintro e w' ⟨rfl, hb⟩)
      go_ret
      exact ⟨rfl, hb⟩
    · exact absurd rfl h
  | succ n ih =>
    intro l v w hn hu hm hT hv
    rcases hv with ⟨rfl, a, c, rfl⟩ | ⟨h1, b, o, c, rfl, h3, h4, hL⟩
    · have hs := SumR_any [] w (by simp)
      go_enter Tryd.func28, Tryd.ntmps28
      go_wp2_with (go_at_call 14; refine hs.mono ?_; rintro e w' ⟨rfl, hb⟩)
      go_ret
      exact ⟨rfl, hb⟩
    · by_cases h2 : l.length = 1
      · obtain ⟨s, rfl⟩ := List.length_eq_one_iff.1 h2
        have c0 := hL 0 s rfl
        rw [Nat.add_zero] at c0
        have hs := LeafR_any s w (by have := hu s (by simp); omega)
        clear ih hL hu
        go_enter Tryd.func28, Tryd.ntmps28
        go_wp2_with (go_at_call 16; refine hs.mono ?_; rintro e w' ⟨rfl, hb⟩)
        go_ret
        exact ⟨rfl, hb⟩
      · have hl0 : l.length ≠ 0 := fun e => h1 (List.length_eq_zero_iff.1 e)
        have k1 := lf_lt l.length (by omega)
        have k2 := lf_pos l.length (by omega)
        have hh := leftR_any l.length w (by omega) (by omega)
        have hA : ∀ w', Below w.heap.size w w' → Calls Tryd.prog 28 #[.slice (some ⟨b, o, none⟩) (lf l.length) c] w' fun e w'' => e = .returned (.string ⟨(rootS (l.take (lf l.length))).toArray⟩) ∧ Below w'.heap.size w' w'' := fun w' B =>
          ih (l.take (lf l.length)) _ w' (by simp; omega) (fun u h => hu u (List.mem_of_mem_take h)) (by simp; omega) (hT.below B) ((SL.take h4 h3 hL _ (by omega)).below B)
        have hB : ∀ w', Below w.heap.size w w' → Calls Tryd.prog 28 #[.slice (some ⟨b, o + lf l.length, none⟩) (l.length - lf l.length) (c - lf l.length)] w' fun e w'' => e = .returned (.string ⟨(rootS (l.drop (lf l.length))).toArray⟩) ∧ Below w'.heap.size w' w'' := fun w' B =>
          ih (l.drop (lf l.length)) _ w' (by simp; omega) (fun u h => hu u (List.mem_of_mem_drop h)) (by simp; omega) (hT.below B) ((SL.drop h4 h3 hL _ k1).below B)
        have hN : ∀ w', Below w.heap.size w w' → Calls Tryd.prog 18 #[.string ⟨(rootS (l.take (lf l.length))).toArray⟩, .string ⟨(rootS (l.drop (lf l.length))).toArray⟩] w' fun e w'' => e = .returned (.string ⟨(rootS l).toArray⟩) ∧ Below w'.heap.size w' w'' := fun w' B => by
          have := NodeR_any (rootS (l.take (lf l.length))) (rootS (l.drop (lf l.length))) w' (by rw [rootS_len]; omega) (by rw [rootS_len]; omega)
          have e : nodeH sha (rootS (l.take (lf l.length))) (rootS (l.drop (lf l.length))) = rootS l := (root_split _ _ _ l (by omega)).symm
          rwa [e] at this
        generalize rootS (l.take (lf l.length)) = rA at *
        generalize rootS (l.drop (lf l.length)) = rB at *
        generalize rootS l = rR at *
        generalize lf l.length = k at *
        clear ih hL hu hT h1
        generalize l.length = N at *
        have t0 : ((N : Int) == 0) = false := by rw [beq_eq_false_iff_ne]; omega
        have t1 : ((N : Int) == 1) = false := by rw [beq_eq_false_iff_ne]; omega
        have i0 : (0 : Int) ≤ (k : Int) := by omega
        have i1 : (k : Int) ≤ (N : Int) := by omega
        have i2 : (k : Int) ≤ (c : Int) := by omega
        have i3 : (N : Int) ≤ (c : Int) := by omega
        have i4 : ¬ c = k := by omega
        have hA2 := Lib.hid hA
        have hB2 := Lib.hid hB
        have hN2 := Lib.hid hN
        clear hA hB hN
        go_enter Tryd.func28, Tryd.ntmps28
        go_wp2_with (go_at_call 44; refine hh.mono ?_; rintro e w' ⟨rfl, rfl⟩)
        go_region_held3 (fun w' => Below w.heap.size w w')
          (first | exact (Below.refl _ _).drew | go_keep | exact Below.trans (by assumption) (Below.mono hb (Below.size (by assumption))))
          (first | (go_at_call 28; first | ((with_reducible refine (hA2.out _ (by assumption)).mono ?_); rintro e w2 ⟨rfl, hb⟩) | ((with_reducible refine (hB2.out _ (by assumption)).mono ?_); rintro e w2 ⟨rfl, hb⟩)) | (go_at_call 18; ((with_reducible refine (hN2.out _ (by assumption)).mono ?_); rintro e w2 ⟨rfl, hb⟩)))
        all_goals
          go_wp2_with fail
          go_ret
          exact ⟨rfl, by assumption⟩
end Go.Proofs.YthdfadlniacdcaaDoor
