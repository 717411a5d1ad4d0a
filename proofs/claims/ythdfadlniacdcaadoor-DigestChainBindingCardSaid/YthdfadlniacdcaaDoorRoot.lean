import Derived.Test.YthdfadlniacdcaaDoorHsh
namespace Go.Proofs.YthdfadlniacdcaaDoor
open Go.RowKit

theorem half_w (n : Nat) (w : World) (h : 2 ≤ n) (h3 : n ≤ 9223372036854775807) :
    Calls Tryd.prog 47 #[.int .i64 n] w fun e w' => e = .returned (.int .i64 (lf n)) ∧ w = w' := (half_any n w h h3).mono fun _ _ h => ⟨h.1, h.2.symm⟩
def rootS (l : List Str) : Str := root (sha []) (leafH sha) (nodeH sha) l
theorem leafH_len (s : Str) : (leafH sha s).length = 32 := sha_len _
theorem nodeH_len (a b : Str) : (nodeH sha a b).length = 32 := sha_len _
theorem rootS_len (l : List Str) : (rootS l).length = 32 := by
  unfold rootS
  match l with
  | [] => exact sha_len _
  | [s] => exact sha_len _
  | a :: b :: t => rw [root_split _ _ _ _ (by simp)]; exact sha_len _
theorem Lie.take {W : World} {b o : Nat} {l : List Str} (h : Lie W b o l) (k : Nat) : Lie W b o (l.take k) := fun j u e => by
  by_cases hj : j < k
  · rw [List.getElem?_take_of_lt hj] at e; exact h j u e
  · rw [List.getElem?_eq_none (by simp; omega)] at e; cases e
theorem Lie.drop {W : World} {b o : Nat} {l : List Str} (h : Lie W b o l) (k : Nat) : Lie W b (o + k) (l.drop k) := fun j u e => by
  rw [List.getElem?_drop] at e
  have := h (k + j) u e
  rwa [← Nat.add_assoc] at this
theorem SL.take {W : World} {b o c : Nat} {l : List Str} (hb : b < W.heap.size) (hc : l.length ≤ c) (h : Lie W b o l) (k : Nat) (hk : k ≤ l.length) : SL W (.slice (some ⟨b, o, none⟩) k c) (l.take k) := by
  by_cases h0 : k = 0
  · subst h0; exact .inl ⟨by simp, _, _, rfl⟩
  · have e : (l.take k).length = k := by simp; omega
    refine .inr ⟨fun e2 => by rw [e2] at e; simp at e; omega, b, o, c, by rw [e], by omega, hb, h.take k⟩
theorem SL.drop {W : World} {b o c : Nat} {l : List Str} (hb : b < W.heap.size) (hc : l.length ≤ c) (h : Lie W b o l) (k : Nat) (hk : k < l.length) : SL W (.slice (some ⟨b, o + k, none⟩) (l.length - k) (c - k)) (l.drop k) := by
  have e : (l.drop k).length = l.length - k := by simp
  refine .inr ⟨fun e2 => by rw [e2] at e; simp at e; omega, b, o + k, c - k, by rw [e], by omega, hb, h.drop k⟩

set_option maxRecDepth 100000 in
set_option maxHeartbeats 1000000 in
theorem Root_any (n : Nat) : ∀ (l : List Str) (v : Value) (w : World), l.length ≤ n → (∀ u ∈ l, List.length u ≤ 1000) → l.length ≤ 100000 → Tab w → SL w v l →
    Calls Tryd.prog 27 #[v] w fun e w' => e = .returned (.string ⟨(rootS l).toArray⟩) ∧ Below w.heap.size w w' := by
  induction n with
  | zero =>
    intro l v w hn _ _ hT hv
    obtain rfl : l = [] := List.length_eq_zero_iff.1 (by omega)
    rcases hv with ⟨_, a, c, rfl⟩ | ⟨h, _⟩
    · have hs := Sum_any [] w (by simp) hT
      go_enter Tryd.func27, Tryd.ntmps27
      go_wp2_with (go_at_call 13; refine hs.mono ?_; rintro e w' ⟨rfl, hb⟩)
      go_ret
      exact ⟨rfl, hb⟩
    · exact absurd rfl h
  | succ n ih =>
    intro l v w hn hu hm hT hv
    rcases hv with ⟨rfl, a, c, rfl⟩ | ⟨h1, b, o, c, rfl, h3, h4, hL⟩
    · have hs := Sum_any [] w (by simp) hT
      go_enter Tryd.func27, Tryd.ntmps27
      go_wp2_with (go_at_call 13; refine hs.mono ?_; rintro e w' ⟨rfl, hb⟩)
      go_ret
      exact ⟨rfl, hb⟩
    · by_cases h2 : l.length = 1
      · obtain ⟨s, rfl⟩ := List.length_eq_one_iff.1 h2
        have c0 := hL 0 s rfl
        rw [Nat.add_zero] at c0
        have hs := Leaf_any s w (by have := hu s (by simp); omega) hT
        clear ih hL hu
        go_enter Tryd.func27, Tryd.ntmps27
        go_wp2_with (go_at_call 15; refine hs.mono ?_; rintro e w' ⟨rfl, hb⟩)
        go_ret
        exact ⟨rfl, hb⟩
      · have hl0 : l.length ≠ 0 := fun e => h1 (List.length_eq_zero_iff.1 e)
        have k1 := lf_lt l.length (by omega)
        have k2 := lf_pos l.length (by omega)
        have hh := half_w l.length w (by omega) (by omega)
        have hA : ∀ w', Below w.heap.size w w' → Calls Tryd.prog 27 #[.slice (some ⟨b, o, none⟩) (lf l.length) c] w' fun e w'' => e = .returned (.string ⟨(rootS (l.take (lf l.length))).toArray⟩) ∧ Below w'.heap.size w' w'' := fun w' B =>
          ih (l.take (lf l.length)) _ w' (by simp; omega) (fun u h => hu u (List.mem_of_mem_take h)) (by simp; omega) (hT.below B) ((SL.take h4 h3 hL _ (by omega)).below B)
        have hB : ∀ w', Below w.heap.size w w' → Calls Tryd.prog 27 #[.slice (some ⟨b, o + lf l.length, none⟩) (l.length - lf l.length) (c - lf l.length)] w' fun e w'' => e = .returned (.string ⟨(rootS (l.drop (lf l.length))).toArray⟩) ∧ Below w'.heap.size w' w'' := fun w' B =>
          ih (l.drop (lf l.length)) _ w' (by simp; omega) (fun u h => hu u (List.mem_of_mem_drop h)) (by simp; omega) (hT.below B) ((SL.drop h4 h3 hL _ k1).below B)
        have hN : ∀ w', Below w.heap.size w w' → Calls Tryd.prog 17 #[.string ⟨(rootS (l.take (lf l.length))).toArray⟩, .string ⟨(rootS (l.drop (lf l.length))).toArray⟩] w' fun e w'' => e = .returned (.string ⟨(rootS l).toArray⟩) ∧ Below w'.heap.size w' w'' := fun w' B => by
          have := Node_any (rootS (l.take (lf l.length))) (rootS (l.drop (lf l.length))) w' (by rw [rootS_len]; omega) (by rw [rootS_len]; omega) (hT.below B)
          have e : nodeH sha (rootS (l.take (lf l.length))) (rootS (l.drop (lf l.length))) = rootS l := (root_split _ _ _ l (by omega)).symm
          rwa [e] at this
        generalize rootS (l.take (lf l.length)) = rA at *
        generalize rootS (l.drop (lf l.length)) = rB at *
        generalize rootS l = rR at *
        generalize lf l.length = k at *
        clear ih hL hu hT h1
        generalize l.length = N at *
        have t0 : ((N : Int) == 0) = false := by rw [beq_eq_false_iff_ne]; omega
        have t1 : ((N : Int) == 1) = false := by rw [beq_eq_false_iff_ne]; omega
        have i0 : (0 : Int) ≤ (k : Int) := by omega
        have i1 : (k : Int) ≤ (N : Int) := by omega
        have i2 : (k : Int) ≤ (c : Int) := by omega
        have i3 : (N : Int) ≤ (c : Int) := by omega
        have i4 : ¬ c = k := by omega
        have hA2 := Lib.hid hA
        have hB2 := Lib.hid hB
        have hN2 := Lib.hid hN
        clear hA hB hN
        go_enter Tryd.func27, Tryd.ntmps27
        go_wp2_with (go_at_call 47; refine hh.mono ?_; rintro e w' ⟨rfl, rfl⟩)
        go_region_held3 (fun w' => Below w.heap.size w w')
          (first | exact (Below.refl _ _).drew | go_keep | exact Below.trans (by assumption) (Below.mono hb (Below.size (by assumption))))
          (first | (go_at_call 27; first | ((with_reducible refine (hA2.out _ (by assumption)).mono ?_); rintro e w2 ⟨rfl, hb⟩) | ((with_reducible refine (hB2.out _ (by assumption)).mono ?_); rintro e w2 ⟨rfl, hb⟩)) | (go_at_call 17; ((with_reducible refine (hN2.out _ (by assumption)).mono ?_); rintro e w2 ⟨rfl, hb⟩)))
        all_goals
          go_wp2_with fail
          go_ret
          exact ⟨rfl, by assumption⟩
end Go.Proofs.YthdfadlniacdcaaDoor
