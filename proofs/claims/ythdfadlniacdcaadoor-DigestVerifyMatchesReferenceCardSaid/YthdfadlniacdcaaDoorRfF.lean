import Derived.Test.YthdfadlniacdcaaDoorRfE
namespace Go.Proofs.YthdfadlniacdcaaDoor
open Go.RowKit

theorem ProofR_bad (v : Value) (l : List Str) (i : Int) (w : World) (hv : SL w v l) (hm : l.length ≤ 1000) (hb1 : -9223372036854775808 ≤ i) (hb2 : i ≤ 9223372036854775807) (h : i < 0 ∨ (l.length : Int) ≤ i) :
    Calls Tryd.prog 23 #[v, .int .i64 i] w fun e w' => e = .returned (.tuple #[.slice none 0 0, .int .i64 2]) ∧ w = w' := by
  obtain ⟨a, c, rfl⟩ : ∃ a c, v = .slice a l.length c := by
    rcases hv with ⟨rfl, a, c, rfl⟩ | ⟨_, b, o, c, rfl, _⟩
    · exact ⟨_, _, rfl⟩
    · exact ⟨_, _, rfl⟩
  generalize l.length = N at *
  clear hv
  by_cases h0 : i < 0
  · go_enter Tryd.func23, Tryd.ntmps23
    go_wp2_with fail
    go_ret2
    exact ⟨rfl, rfl⟩
  · have h1 : (N : Int) ≤ i := by omega
    have d0 : decide (i < 0) = false := by simpa using h0
    go_enter Tryd.func23, Tryd.ntmps23
    go_wp2_with fail
    go_ret2
    exact ⟨rfl, rfl⟩

set_option maxRecDepth 100000 in
set_option maxHeartbeats 1000000 in
theorem ProofR_any (n : Nat) : ∀ (l : List Str) (v : Value) (i : Nat) (w : World), l.length ≤ n → 1 ≤ l.length → i < l.length → (∀ u ∈ l, List.length u ≤ 1000) → l.length ≤ 1000 → Tab w → SL w v l →
    Calls Tryd.prog 23 #[v, .int .i64 i] w (ProofPost (prfF (sha []) (leafH sha) (nodeH sha) (n + 1) l i) w) := by
  induction n with
  | zero => intro l v i w hn h1; omega
  | succ n ih =>
    intro l v i w hn hl1 hi hu hm hT hv
    rcases hv with ⟨rfl, _⟩ | ⟨h1, b, o, c, rfl, h3, h4, hL⟩
    · simp at hl1
    by_cases h2 : l.length = 1
    · have hp : prfF (sha []) (leafH sha) (nodeH sha) (n + 1 + 1) l i = [] := by rw [prfF, if_pos (by omega)]
      rw [hp, h2]
      have hi0 : i = 0 := by omega
      subst hi0
      clear ih hL hu hT hp
      go_enter Tryd.func23, Tryd.ntmps23
      go_wp2_with fail
      go_ret2
      exact ⟨_, rfl, World.ownsRow_nil _ _ _ _, Below.refl _ _⟩
    · have k1 := lf_lt l.length (by omega)
      have k2 := lf_pos l.length (by omega)
      have hh := leftR_any l.length w (by omega) (by omega)
      have d0 : decide ((i : Int) < 0) = false := by simp
      by_cases hik : i < lf l.length
      · have hp : prfF (sha []) (leafH sha) (nodeH sha) (n + 1 + 1) l i = prfF (sha []) (leafH sha) (nodeH sha) (n + 1) (l.take (lf l.length)) i ++ [rootS (l.drop (lf l.length))] := by rw [prfF, if_neg (by omega), if_pos hik]; rfl
        have hA := ih (l.take (lf l.length)) (.slice (some ⟨b, o, none⟩) (lf l.length) c) i w (by simp; omega) (by simp; omega) (by simp; omega) (fun u h => hu u (List.mem_of_mem_take h)) (by simp; omega) hT (SL.take h4 h3 hL _ (by omega))
        have hB : ∀ w', Below w.heap.size w w' → Calls Tryd.prog 28 #[.slice (some ⟨b, o + lf l.length, none⟩) (l.length - lf l.length) (c - lf l.length)] w' fun e w'' => e = .returned (.string ⟨(rootS (l.drop (lf l.length))).toArray⟩) ∧ Below w'.heap.size w' w'' := fun w' B =>
          RootR_any n (l.drop (lf l.length)) _ w' (by simp; omega) (fun u h => hu u (List.mem_of_mem_drop h)) (by simp; omega) (hT.below B) ((SL.drop h4 h3 hL _ k1).below B)
        have hpb := prf_small (n + 1) (l.take (lf l.length)) i (by simp; omega) (by simp; omega) (by simp; omega)
        rw [hp]
        generalize prfF (sha []) (leafH sha) (nodeH sha) (n + 1) (l.take (lf l.length)) i = p at *
        generalize rootS (l.drop (lf l.length)) = rB at *
        generalize lf l.length = k at *
        clear ih hL hu hT h1 hp
        generalize l.length = N at *
        have d1 : decide ((N : Int) ≤ (i : Int)) = false := by rw [decide_eq_false_iff_not]; omega
        have d1n : decide (N ≤ i) = false := by rw [decide_eq_false_iff_not]; omega
        have t1 : ((N : Int) == 1) = false := by rw [beq_eq_false_iff_ne]; omega
        have i0 : (0 : Int) ≤ (k : Int) := by omega
        have i1 : (k : Int) ≤ (N : Int) := by omega
        have i2 : (k : Int) ≤ (c : Int) := by omega
        have i3 : (N : Int) ≤ (c : Int) := by omega
        have i4 : ¬ c = k := by omega
        have hA2 := Lib.hid hA
        have hB2 := Lib.hid hB
        clear hA hB
        obtain ⟨f0, hf, hz0, hz1, hz2⟩ := info_parts info9
        go_enter Tryd.func23, Tryd.ntmps23
        go_wp2_with (go_at_call 44; refine hh.mono ?_; rintro e w' ⟨rfl, rfl⟩)
        refine hA2.out.mono ?_
        rintro e w2 ⟨v1, rfl, hown, hb1⟩
        go_wp2_with fail
        refine (hB2.out _ hb1).mono ?_
        rintro e w3 ⟨rfl, hb2⟩
        obtain ⟨g, cap, w4, r4, hown4, hgrow, _, _⟩ := run_append_lies (P := Tryd.prog) (w3.alloc (.cells #[.string ⟨rB.toArray⟩] 9)) 26 26 w.heap.size 9 f0 _ 1 16 Tryd.underlying26 hf hz0 hz1 hz2 rfl (by decide) v1 p.length (cT p) ((own_below hown hb2).alloc _) ⟨w3.heap.size, 0, none⟩ 1 1 [.string ⟨rB.toArray⟩] rfl (cell_one_new _ _ _) (by simp [Value.oneCell']) (by omega) (by unfold maxLen; omega) (by omega) (by have := hb1.size; have := hb2.size; simp at *; omega) (w3.heap.size + 1) (by simp)
        go_wp2_with (at_builtin; refine wpList_append_runB rfl (.tmp 36) (.tmp 41) 26 rfl v1 (.slice (some ⟨w3.heap.size, 0, none⟩) 1 1) rfl rfl _ _ r4 ?_)
        go_ret2
        exact ⟨_, rfl, own_snoc hown4, app_below hown (Nat.le_refl _) hb1 hb2 hgrow⟩
      · have hp : prfF (sha []) (leafH sha) (nodeH sha) (n + 1 + 1) l i = prfF (sha []) (leafH sha) (nodeH sha) (n + 1) (l.drop (lf l.length)) (i - lf l.length) ++ [rootS (l.take (lf l.length))] := by rw [prfF, if_neg (by omega), if_neg hik]; rfl
        have hA := ih (l.drop (lf l.length)) (.slice (some ⟨b, o + lf l.length, none⟩) (l.length - lf l.length) (c - lf l.length)) (i - lf l.length) w (by simp; omega) (by simp; omega) (by simp; omega) (fun u h => hu u (List.mem_of_mem_drop h)) (by simp; omega) hT (SL.drop h4 h3 hL _ k1)
        have hB : ∀ w', Below w.heap.size w w' → Calls Tryd.prog 28 #[.slice (some ⟨b, o, none⟩) (lf l.length) c] w' fun e w'' => e = .returned (.string ⟨(rootS (l.take (lf l.length))).toArray⟩) ∧ Below w'.heap.size w' w'' := fun w' B =>
          RootR_any n (l.take (lf l.length)) _ w' (by simp; omega) (fun u h => hu u (List.mem_of_mem_take h)) (by simp; omega) (hT.below B) ((SL.take h4 h3 hL _ (by omega)).below B)
        have hpb := prf_small (n + 1) (l.drop (lf l.length)) (i - lf l.length) (by simp; omega) (by simp; omega) (by simp; omega)
        rw [hp]
        generalize prfF (sha []) (leafH sha) (nodeH sha) (n + 1) (l.drop (lf l.length)) (i - lf l.length) = p at *
        generalize rootS (l.take (lf l.length)) = rB at *
        generalize lf l.length = k at *
        clear ih hL hu hT h1 hp
        generalize l.length = N at *
        have d1 : decide ((N : Int) ≤ (i : Int)) = false := by rw [decide_eq_false_iff_not]; omega
        have d1n : decide (N ≤ i) = false := by rw [decide_eq_false_iff_not]; omega
        have t1 : ((N : Int) == 1) = false := by rw [beq_eq_false_iff_ne]; omega
        have i0 : (0 : Int) ≤ (k : Int) := by omega
        have i1 : (k : Int) ≤ (N : Int) := by omega
        have i2 : (k : Int) ≤ (c : Int) := by omega
        have i3 : (N : Int) ≤ (c : Int) := by omega
        have i4 : ¬ c = k := by omega
        have i5 : IntKind.i64.wrap ((i : Int) - (k : Int)) = ((i - k : Nat) : Int) := by rw [IntWalk.i64_in _ (by omega)]; omega
        have hA2 := Lib.hid hA
        have hB2 := Lib.hid hB
        clear hA hB
        obtain ⟨f0, hf, hz0, hz1, hz2⟩ := info_parts info9
        go_enter Tryd.func23, Tryd.ntmps23
        go_wp2_with (go_at_call 44; refine hh.mono ?_; rintro e w' ⟨rfl, rfl⟩)
        refine hA2.out.mono ?_
        rintro e w2 ⟨v1, rfl, hown, hb1⟩
        go_wp2_with fail
        refine (hB2.out _ hb1).mono ?_
        rintro e w3 ⟨rfl, hb2⟩
        obtain ⟨g, cap, w4, r4, hown4, hgrow, _, _⟩ := run_append_lies (P := Tryd.prog) (w3.alloc (.cells #[.string ⟨rB.toArray⟩] 9)) 26 26 w.heap.size 9 f0 _ 1 16 Tryd.underlying26 hf hz0 hz1 hz2 rfl (by decide) v1 p.length (cT p) ((own_below hown hb2).alloc _) ⟨w3.heap.size, 0, none⟩ 1 1 [.string ⟨rB.toArray⟩] rfl (cell_one_new _ _ _) (by simp [Value.oneCell']) (by omega) (by unfold maxLen; omega) (by omega) (by have := hb1.size; have := hb2.size; simp at *; omega) (w3.heap.size + 1) (by simp)
        go_wp2_with (at_builtin; refine wpList_append_runB rfl (.tmp 53) (.tmp 58) 26 rfl v1 (.slice (some ⟨w3.heap.size, 0, none⟩) 1 1) rfl rfl _ _ r4 ?_)
        go_ret2
        exact ⟨_, rfl, own_snoc hown4, app_below hown (Nat.le_refl _) hb1 hb2 hgrow⟩
end Go.Proofs.YthdfadlniacdcaaDoor
