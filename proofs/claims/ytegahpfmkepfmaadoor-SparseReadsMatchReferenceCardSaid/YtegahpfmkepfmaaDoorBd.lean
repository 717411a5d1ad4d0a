/- Plain facts: what is hashed for a part; whoever shows other values under the same digest has found two strings with the same digest, or one with 32 zero bytes. -/
import Derived.Test.YtegahpfmkepfmaaDoorSpTree
namespace Go.Proofs.YtegahpfmkepfmaaDoor
section
variable (H : Str → Str)
/-- the strings that are hashed for the part i, at the height h -/
def hsd (c v : Nat → Str) : Nat → Nat → List Str
  | 0, i => if c i = [] then (if v (i - 64) = [] then [] else [leafT (i - 64) (v (i - 64))]) else []
  | h + 1, i => if c i = [] then hsd c v h (2 * i) ++ hsd c v h (2 * i + 1) ++ (if E H c v (2 * i) = zero32 ∧ E H c v (2 * i + 1) = zero32 then [] else [9 :: (E H c v (2 * i) ++ E H c v (2 * i + 1))]) else []
def CollE (A B : List Str) : Prop := ∃ x ∈ A, ∃ y ∈ B, x ≠ y ∧ H x = H y
def ZeroE (A : List Str) : Prop := ∃ x ∈ A, H x = zero32
variable (hl : ∀ s, (H s).length = 32)
include hl
theorem Ec_len (c v : Nat → Str) (i : Nat) (h : 1 ≤ i) (hc : ∀ i, c i = [] ∨ (c i).length = 32) : (E H c v i).length = 32 := by
  by_cases h2 : 64 ≤ i
  · rw [E_leaf H _ v i h2]; split
    · exact leafD_len H hl _ _
    · exact (hc i).resolve_left ‹_›
  · rw [E_node H _ v i h (by omega)]; split
    · exact nodeD_len H hl _ _
    · exact (hc i).resolve_left ‹_›
theorem bind (c d m v : Nat → Str) (hc : ∀ i, c i = [] ∨ (c i).length = 32) (hd : ∀ i, d i = [] ∨ (d i).length = 32) : ∀ h i, h ≤ 6 → 1 ≤ i → 64 ≤ i * 2 ^ h → (i + 1) * 2 ^ h ≤ 128 → E H d m i = E H c v i →
    ¬ CollE H (hsd H d m h i) (hsd H c v h i) → ¬ ZeroE H (hsd H d m h i) → ¬ ZeroE H (hsd H c v h i) → ∀ k, k < 64 → (64 + k) / 2 ^ h = i → (∀ up, up ≤ h → c ((64 + k) / 2 ^ up) = []) → (∀ up, up ≤ h → d ((64 + k) / 2 ^ up) = []) → m k = v k := by
  intro h
  induction h with
  | zero =>
    intro i _ h1 h2 h3 he hco hz1 hz2 k hk hki hop hod
    have hi : i = 64 + k := by omega
    subst hi
    have c0 := hop 0 (by omega)
    have d0 := hod 0 (by omega)
    simp only [Nat.pow_zero, Nat.div_one] at c0 d0
    rw [E_leaf H _ _ _ (by omega), E_leaf H _ _ _ (by omega), if_pos c0, if_pos d0, Nat.add_sub_cancel_left] at he
    simp only [hsd, c0, d0, if_true, Nat.add_sub_cancel_left] at hco hz1 hz2
    unfold leafD at he
    by_cases a : m k = [] <;> by_cases b : v k = []
    · rw [a, b]
    · rw [if_pos a, if_neg b] at he
      rw [if_neg b] at hz2
      exact absurd ⟨_, List.mem_singleton.2 rfl, he.symm⟩ hz2
    · rw [if_neg a, if_pos b] at he
      rw [if_neg a] at hz1
      exact absurd ⟨_, List.mem_singleton.2 rfl, he⟩ hz1
    · rw [if_neg a, if_neg b] at he hco
      by_cases e : leafT k (m k) = leafT k (v k)
      · unfold leafT at e
        injection e with _ e
        injection e
      · exact absurd ⟨_, List.mem_singleton.2 rfl, _, List.mem_singleton.2 rfl, e, he⟩ hco
  | succ h ih =>
    intro i h6 h1 h2 h3 he hco hz1 hz2 k hk hki hop hod
    have e1 : i * 2 ^ (h + 1) = 2 * i * 2 ^ h := by rw [Nat.pow_succ, Nat.mul_comm 2 i, Nat.mul_assoc, Nat.mul_comm 2]
    have e : (i + 1) * 2 ^ (h + 1) = (2 * i + 1 + 1) * 2 ^ h := by rw [Nat.pow_succ, show 2 * i + 1 + 1 = 2 * (i + 1) by omega, Nat.mul_comm 2 (i + 1), Nat.mul_assoc, Nat.mul_comm 2]
    have m1 : (2 * i + 1) * 2 ^ h = 2 * i * 2 ^ h + 2 ^ h := by rw [Nat.add_mul, Nat.one_mul]
    have m2 : (2 * i + 1 + 1) * 2 ^ h = (2 * i + 1) * 2 ^ h + 2 ^ h := by rw [Nat.add_mul _ 1, Nat.one_mul]
    have p2 := Nat.pow_pos (n := h) (show 0 < 2 by omega)
    have i64 : i < 64 := by
      have : (i + 1) * 2 ≤ (i + 1) * 2 ^ (h + 1) := Nat.mul_le_mul_left _ (by rw [Nat.pow_succ]; have := Nat.pow_pos (n := h) (show 0 < 2 by omega); omega)
      omega
    have c0 := hop (h + 1) (by omega)
    have d0 := hod (h + 1) (by omega)
    rw [hki] at c0 d0
    rw [E_node H _ _ _ h1 i64, E_node H _ _ _ h1 i64, if_pos c0, if_pos d0] at he
    simp only [hsd, c0, d0, if_true] at hco hz1 hz2
    have la := Ec_len H hl d m (2 * i) (by omega) hd
    have lb := Ec_len H hl d m (2 * i + 1) (by omega) hd
    have la' := Ec_len H hl c v (2 * i) (by omega) hc
    have lb' := Ec_len H hl c v (2 * i + 1) (by omega) hc
    have both : E H d m (2 * i) = E H c v (2 * i) ∧ E H d m (2 * i + 1) = E H c v (2 * i + 1) := by
      generalize E H d m (2 * i) = a at *
      generalize E H d m (2 * i + 1) = b at *
      generalize E H c v (2 * i) = a' at *
      generalize E H c v (2 * i + 1) = b' at *
      unfold nodeD at he
      by_cases p : a = zero32 ∧ b = zero32 <;> by_cases q : a' = zero32 ∧ b' = zero32
      · exact ⟨p.1.trans q.1.symm, p.2.trans q.2.symm⟩
      · rw [if_pos p, if_neg q] at he
        rw [if_neg q] at hz2
        exact absurd ⟨_, List.mem_append_right _ (List.mem_singleton.2 rfl), he.symm⟩ hz2
      · rw [if_neg p, if_pos q] at he
        rw [if_neg p] at hz1
        exact absurd ⟨_, List.mem_append_right _ (List.mem_singleton.2 rfl), he⟩ hz1
      · rw [if_neg p, if_neg q] at he
        rw [if_neg p, if_neg q] at hco
        by_cases g : (9 :: (a ++ b) : Str) = 9 :: (a' ++ b')
        · injection g with _ g
          exact List.append_inj g (by omega)
        · exact absurd ⟨_, List.mem_append_right _ (List.mem_singleton.2 rfl), _, List.mem_append_right _ (List.mem_singleton.2 rfl), g, he⟩ hco
    have hdv : (64 + k) / 2 ^ h = 2 * i ∨ (64 + k) / 2 ^ h = 2 * i + 1 := by
      have : (64 + k) / 2 ^ (h + 1) = (64 + k) / 2 ^ h / 2 := by rw [Nat.div_div_eq_div_mul, Nat.pow_succ]
      omega
    rcases hdv with g | g
    · refine ih (2 * i) (by omega) (by omega) (by omega) (by omega) both.1 (fun ⟨x, hx, y, hy, p⟩ => hco ⟨x, ?_, y, ?_, p⟩) (fun ⟨x, hx, p⟩ => hz1 ⟨x, ?_, p⟩) (fun ⟨x, hx, p⟩ => hz2 ⟨x, ?_, p⟩) k hk g (fun up hu => hop up (by omega)) (fun up hu => hod up (by omega))
      all_goals exact List.mem_append_left _ (List.mem_append_left _ ‹_›)
    · refine ih (2 * i + 1) (by omega) (by omega) (by omega) (by omega) both.2 (fun ⟨x, hx, y, hy, p⟩ => hco ⟨x, ?_, y, ?_, p⟩) (fun ⟨x, hx, p⟩ => hz1 ⟨x, ?_, p⟩) (fun ⟨x, hx, p⟩ => hz2 ⟨x, ?_, p⟩) k hk g (fun up hu => hop up (by omega)) (fun up hu => hod up (by omega))
      all_goals exact List.mem_append_left _ (List.mem_append_right _ ‹_›)
end
end Go.Proofs.YtegahpfmkepfmaaDoor
