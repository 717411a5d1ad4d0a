import Derived.Test.YthdfadlniacdcaaDoorVal
namespace Go.Proofs.YthdfadlniacdcaaDoor
open Go.RowKit

theorem part_le (f : Nat) (l : List Str) (m j : Nat) (whole : Bool) (h : l.length < f) (h1 : 1 ≤ m) (hm : m ≤ l.length) (hj : l.length ≤ 2 ^ j) : (partF (sha []) (leafH sha) (nodeH sha) f l m whole).length ≤ j + 1 := by
  induction f generalizing l m j whole with
  | zero => omega
  | succ f ih =>
    unfold partF
    by_cases hml : m = l.length
    · rw [if_pos hml]; split <;> simp
    · rw [if_neg hml]
      have k1 := lf_lt l.length (by omega)
      have k2 := lf_pos l.length (by omega)
      have k3 := lf_half l.length (by omega)
      cases j with
      | zero => simp at hj; omega
      | succ j =>
        have k4 := lf_le_pow l.length j (by omega) hj
        split
        · have := ih (l.take (lf l.length)) m j whole (by simp; omega) h1 (by simp; omega) (by simp; omega)
          rw [List.length_append, List.length_singleton]; omega
        · have := ih (l.drop (lf l.length)) (m - lf l.length) j false (by simp; omega) (by omega) (by simp; omega) (by simp; omega)
          rw [List.length_append, List.length_singleton]; omega
theorem part_small (n : Nat) (l : List Str) (m : Nat) (whole : Bool) (h : l.length < n) (h1 : 1 ≤ m) (hi : m ≤ l.length) (hm : l.length ≤ 1000) : (partF (sha []) (leafH sha) (nodeH sha) n l m whole).length ≤ 11 :=
  part_le n l m 10 whole h h1 hi (by simp; omega)

set_option maxRecDepth 100000 in
theorem part_full (n : Nat) (l : List Str) (v : Value) (whole : Bool) (w : World) (h1 : 1 ≤ l.length) (hu : ∀ u ∈ l, List.length u ≤ 1000) (hm : l.length ≤ 1000) (hT : Tab w) (hv : SL w v l) :
    Calls Tryd.prog 45 #[v, .int .i64 l.length, .bool whole] w (RowPost (partF (sha []) (leafH sha) (nodeH sha) (n + 1) l l.length whole) w) := by
  have hR := Root_any l.length l v w (Nat.le_refl _) hu (by omega) hT hv
  have hp : partF (sha []) (leafH sha) (nodeH sha) (n + 1) l l.length whole = if whole then [] else [rootS l] := by rw [partF, if_pos rfl]; rfl
  rw [hp]
  obtain ⟨a, c, rfl⟩ := hv.shape
  clear hp hu hT hv
  generalize rootS l = r at *
  generalize l.length = N at *
  have hR2 := Lib.hid hR
  clear hR
  cases whole with
  | true =>
    go_enter Tryd.func45, Tryd.ntmps45
    go_wp2_with fail
    go_ret
    exact ⟨_, rfl, World.ownsRow_nil _ _ _ _, Below.refl _ _⟩
  | false =>
    go_enter Tryd.func45, Tryd.ntmps45
    go_wp2_with fail
    refine hR2.out.mono ?_
    rintro e w1 ⟨rfl, hb⟩
    go_wp2_with fail
    go_ret
    refine ⟨_, rfl, ?_, hb.trans ((Below.refl _ w1).alloc (by have := hb.size; omega) _)⟩
    refine ⟨by simp [cT], .inr ⟨w1.heap.size, 1, _, rfl, hb.size, heap_alloc_new _ _, by simp, by decide, by simp, by simp [cT]⟩⟩

set_option maxRecDepth 100000 in
set_option maxHeartbeats 1000000 in
theorem part_any (n : Nat) : ∀ (l : List Str) (v : Value) (i : Nat) (whole : Bool) (w : World), l.length ≤ n → 1 ≤ i → i ≤ l.length → (∀ u ∈ l, List.length u ≤ 1000) → l.length ≤ 1000 → Tab w → SL w v l →
    Calls Tryd.prog 45 #[v, .int .i64 i, .bool whole] w (RowPost (partF (sha []) (leafH sha) (nodeH sha) (n + 1) l i whole) w) := by
  induction n with
  | zero => intro l v i whole w hn h1 h2; omega
  | succ n ih =>
    intro l v i whole w hn hi1 hi hu hm hT hv
    by_cases h2 : i = l.length
    · rw [h2]; exact part_full _ l v whole w (by omega) hu hm hT hv
    rcases hv with ⟨rfl, _⟩ | ⟨h1, b, o, c, rfl, h3, h4, hL⟩
    · simp at hi; omega
    · have k1 := lf_lt l.length (by omega)
      have k2 := lf_pos l.length (by omega)
      have hh := half_w l.length w (by omega) (by omega)
      by_cases hik : i ≤ lf l.length
      · have hp : partF (sha []) (leafH sha) (nodeH sha) (n + 1 + 1) l i whole = partF (sha []) (leafH sha) (nodeH sha) (n + 1) (l.take (lf l.length)) i whole ++ [rootS (l.drop (lf l.length))] := by rw [partF, if_neg h2, if_pos hik]; rfl
        have hA : ∀ w', Below w.heap.size w w' → Calls Tryd.prog 45 #[.slice (some ⟨b, o, none⟩) (lf l.length) c, .int .i64 i, .bool whole] w' (RowPost (partF (sha []) (leafH sha) (nodeH sha) (n + 1) (l.take (lf l.length)) i whole) w') := fun w' B =>
          ih (l.take (lf l.length)) _ i whole w' (by simp; omega) hi1 (by simp; omega) (fun u h => hu u (List.mem_of_mem_take h)) (by simp; omega) (hT.below B) ((SL.take h4 h3 hL _ (by omega)).below B)
        have hB : ∀ w', Below w.heap.size w w' → Calls Tryd.prog 27 #[.slice (some ⟨b, o + lf l.length, none⟩) (l.length - lf l.length) (c - lf l.length)] w' fun e w'' => e = .returned (.string ⟨(rootS (l.drop (lf l.length))).toArray⟩) ∧ Below w'.heap.size w' w'' := fun w' B =>
          Root_any n (l.drop (lf l.length)) _ w' (by simp; omega) (fun u h => hu u (List.mem_of_mem_drop h)) (by simp; omega) (hT.below B) ((SL.drop h4 h3 hL _ k1).below B)
        have hpb := part_small (n + 1) (l.take (lf l.length)) i whole (by simp; omega) hi1 (by simp; omega) (by simp; omega)
        rw [hp]
        generalize partF (sha []) (leafH sha) (nodeH sha) (n + 1) (l.take (lf l.length)) i whole = p at *
        generalize rootS (l.drop (lf l.length)) = rB at *
        generalize lf l.length = k at *
        clear ih hL hu hT h1 hp
        generalize l.length = N at *
        have t1 : ((i : Int) == (N : Int)) = false := by rw [beq_eq_false_iff_ne]; omega
        have i0 : (0 : Int) ≤ (k : Int) := by omega
        have i1 : (k : Int) ≤ (N : Int) := by omega
        have i2 : (k : Int) ≤ (c : Int) := by omega
        have i3 : (N : Int) ≤ (c : Int) := by omega
        have i4 : ¬ c = k := by omega
        have hA2 := Lib.hid hA
        have hB2 := Lib.hid hB
        clear hA hB
        obtain ⟨f0, hf, hz0, hz1, hz2⟩ := info_parts info9
        go_enter Tryd.func45, Tryd.ntmps45
        go_wp2_with (go_at_call 47; refine hh.mono ?_; rintro e w' ⟨rfl, rfl⟩)
        go_region_law (first
          | (refine step_append_lies _ rfl (.tmp 27) (.tmp 32) 26 rfl w.heap.size 9 f0 _ 1 16 Tryd.underlying26 hf hz0 hz1 hz2 rfl (by decide) v1 p.length (cT p) rfl ((own_below hown hb2).alloc _) ⟨w3.heap.size, 0, none⟩ 1 1 [.string ⟨rB.toArray⟩] rfl rfl (cell_one_new _ _ _) (by simp [Value.oneCell']) (by omega) (by unfold maxLen; omega) (by omega) (by have := hb1.size; have := hb2.size; simp at *; omega) (w3.heap.size + 1) (by simp) ?_; intro g cap w4 hown4 hgrow hat hlt4)
          | (go_simp; go_at_call 45; (with_reducible refine (hA2.out _ ((Below.refl _ _).drew)).mono ?_); rintro e w2 ⟨v1, rfl, hown, hb0⟩; have hb1 : Below w.heap.size w w2 := (Below.refl _ w).drew.trans hb0; clear hb0)
          | (go_simp; go_at_call 27; (with_reducible refine (hB2.out _ hb1).mono ?_); rintro e w3 ⟨rfl, hb2⟩))
        go_wp2_with fail
        go_ret
        exact ⟨_, rfl, own_snoc hown4, app_below hown (Nat.le_refl _) hb1 hb2 hgrow⟩
      · have hp : partF (sha []) (leafH sha) (nodeH sha) (n + 1 + 1) l i whole = partF (sha []) (leafH sha) (nodeH sha) (n + 1) (l.drop (lf l.length)) (i - lf l.length) false ++ [rootS (l.take (lf l.length))] := by rw [partF, if_neg h2, if_neg hik]; rfl
        have hA : ∀ w', Below w.heap.size w w' → Calls Tryd.prog 45 #[.slice (some ⟨b, o + lf l.length, none⟩) (l.length - lf l.length) (c - lf l.length), .int .i64 ((i - lf l.length : Nat) : Int), .bool false] w' (RowPost (partF (sha []) (leafH sha) (nodeH sha) (n + 1) (l.drop (lf l.length)) (i - lf l.length) false) w') := fun w' B =>
          ih (l.drop (lf l.length)) _ (i - lf l.length) false w' (by simp; omega) (by omega) (by simp; omega) (fun u h => hu u (List.mem_of_mem_drop h)) (by simp; omega) (hT.below B) ((SL.drop h4 h3 hL _ k1).below B)
        have hB : ∀ w', Below w.heap.size w w' → Calls Tryd.prog 27 #[.slice (some ⟨b, o, none⟩) (lf l.length) c] w' fun e w'' => e = .returned (.string ⟨(rootS (l.take (lf l.length))).toArray⟩) ∧ Below w'.heap.size w' w'' := fun w' B =>
          Root_any n (l.take (lf l.length)) _ w' (by simp; omega) (fun u h => hu u (List.mem_of_mem_take h)) (by simp; omega) (hT.below B) ((SL.take h4 h3 hL _ (by omega)).below B)
        have hpb := part_small (n + 1) (l.drop (lf l.length)) (i - lf l.length) false (by simp; omega) (by omega) (by simp; omega) (by simp; omega)
        rw [hp]
        generalize partF (sha []) (leafH sha) (nodeH sha) (n + 1) (l.drop (lf l.length)) (i - lf l.length) false = p at *
        generalize rootS (l.take (lf l.length)) = rB at *
        generalize lf l.length = k at *
        clear ih hL hu hT h1 hp
        generalize l.length = N at *
        have t1 : ((i : Int) == (N : Int)) = false := by rw [beq_eq_false_iff_ne]; omega
        have i0 : (0 : Int) ≤ (k : Int) := by omega
        have i1 : (k : Int) ≤ (N : Int) := by omega
        have i2 : (k : Int) ≤ (c : Int) := by omega
        have i3 : (N : Int) ≤ (c : Int) := by omega
        have i4 : ¬ c = k := by omega
        have i5 : IntKind.i64.wrap ((i : Int) - (k : Int)) = ((i - k : Nat) : Int) := by rw [IntWalk.i64_in _ (by omega)]; omega
        have hA2 := Lib.hid hA
        have hB2 := Lib.hid hB
        clear hA hB
        obtain ⟨f0, hf, hz0, hz1, hz2⟩ := info_parts info9
        go_enter Tryd.func45, Tryd.ntmps45
        go_wp2_with (go_at_call 47; refine hh.mono ?_; rintro e w' ⟨rfl, rfl⟩)
        go_region_law (first
          | (refine step_append_lies _ rfl (.tmp 40) (.tmp 45) 26 rfl w.heap.size 9 f0 _ 1 16 Tryd.underlying26 hf hz0 hz1 hz2 rfl (by decide) v1 p.length (cT p) rfl ((own_below hown hb2).alloc _) ⟨w3.heap.size, 0, none⟩ 1 1 [.string ⟨rB.toArray⟩] rfl rfl (cell_one_new _ _ _) (by simp [Value.oneCell']) (by omega) (by unfold maxLen; omega) (by omega) (by have := hb1.size; have := hb2.size; simp at *; omega) (w3.heap.size + 1) (by simp) ?_; intro g cap w4 hown4 hgrow hat hlt4)
          | (go_simp; go_at_call 45; (with_reducible refine (hA2.out _ ((Below.refl _ _).drew)).mono ?_); rintro e w2 ⟨v1, rfl, hown, hb0⟩; have hb1 : Below w.heap.size w w2 := (Below.refl _ w).drew.trans hb0; clear hb0)
          | (go_simp; go_at_call 27; (with_reducible refine (hB2.out _ hb1).mono ?_); rintro e w3 ⟨rfl, hb2⟩))
        go_wp2_with fail
        go_ret
        exact ⟨_, rfl, own_snoc hown4, app_below hown (Nat.le_refl _) hb1 hb2 hgrow⟩
end Go.Proofs.YthdfadlniacdcaaDoor
