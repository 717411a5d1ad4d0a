/- Plain facts on maps from 64 keys to texts as trees of digests, most of which is empty. No program is spoken of: H is any function with values of 32 bytes. -/
import Derived.Test.YtegahpfmkepfmaaDoorDgTree
namespace Go.Proofs.YtegahpfmkepfmaaDoor

section
variable (H : Str → Str)

def leafT (k : Nat) (s : Str) : Str := 8 :: UInt8.ofNat (2 * k) :: s
def leafD (k : Nat) (s : Str) : Str := if s = [] then zero32 else H (leafT k s)
def nodeD (a b : Str) : Str := if a = zero32 ∧ b = zero32 then zero32 else H (9 :: (a ++ b))
/-- the digest of the part i, where c tells of closed parts, v of values -/
def G (c v : Nat → Str) : Nat → Nat → Str
  | 0, _ => []
  | f + 1, i => if c i = [] then (if 64 ≤ i then leafD H (i - 64) (v (i - 64)) else nodeD H (G c v f (2 * i)) (G c v f (2 * i + 1))) else c i
def E (c v : Nat → Str) (i : Nat) : Str := G H c v 7 i
theorem G_eq (c v : Nat → Str) (f g i : Nat) (h1 : 1 ≤ i) (hf : 64 ≤ i * 2 ^ f) (hg : 64 ≤ i * 2 ^ g) : G H c v (f + 1) i = G H c v (g + 1) i := by
  induction f generalizing g i with
  | zero =>
    have h : 64 ≤ i := by omega
    simp only [G, if_pos h]
  | succ f ih =>
    by_cases h : 64 ≤ i
    · cases g <;> simp only [G, if_pos h]
    · cases g with
      | zero => omega
      | succ g =>
        rw [Nat.pow_succ] at hf hg
        have e : ∀ f, (2 * i) * 2 ^ f = i * (2 ^ f * 2) := fun f => by rw [Nat.mul_comm 2 i, Nat.mul_assoc, Nat.mul_comm 2]
        have e2 : ∀ f, 64 ≤ i * (2 ^ f * 2) → 64 ≤ (2 * i + 1) * 2 ^ f := fun f h => by
          have : (2 * i) * 2 ^ f ≤ (2 * i + 1) * 2 ^ f := Nat.mul_le_mul_right _ (by omega)
          rw [e] at this; omega
        rw [G, if_neg h]
        conv => rhs; rw [G, if_neg h]
        rw [ih g (2 * i) (by omega) (by rw [e]; exact hf) (by rw [e]; exact hg), ih g (2 * i + 1) (by omega) (e2 f hf) (e2 g hg)]
theorem E_leaf (c v : Nat → Str) (i : Nat) (h : 64 ≤ i) : E H c v i = if c i = [] then leafD H (i - 64) (v (i - 64)) else c i := by
  unfold E; rw [G, if_pos h]
theorem E_node (c v : Nat → Str) (i : Nat) (h1 : 1 ≤ i) (h : i < 64) : E H c v i = if c i = [] then nodeD H (E H c v (2 * i)) (E H c v (2 * i + 1)) else c i := by
  unfold E
  have a : 64 ≤ i * 2 ^ 6 := by omega
  have e : G H c v 7 i = if c i = [] then (if 64 ≤ i then leafD H (i - 64) (v (i - 64)) else nodeD H (G H c v (5 + 1) (2 * i)) (G H c v (5 + 1) (2 * i + 1))) else c i := rfl
  rw [e, if_neg (show ¬ 64 ≤ i by omega), G_eq H c v 5 6 (2 * i) (by omega) (by omega) (by omega), G_eq H c v 5 6 (2 * i + 1) (by omega) (by omega) (by omega)]
/-- whatever meets the equations is E -/
theorem E_only (c v F : Nat → Str) (h1 : ∀ i, 64 ≤ i → i < 128 → F i = if c i = [] then leafD H (i - 64) (v (i - 64)) else c i)
    (h2 : ∀ i, 1 ≤ i → i < 64 → F i = if c i = [] then nodeD H (F (2 * i)) (F (2 * i + 1)) else c i) (i : Nat) (a : 1 ≤ i) (b : i < 128) : F i = E H c v i := by
  obtain ⟨n, hn⟩ : ∃ n, 128 - i ≤ n := ⟨_, Nat.le_refl _⟩
  induction n generalizing i with
  | zero => omega
  | succ n ih =>
    by_cases h : 64 ≤ i
    · rw [h1 i h b, E_leaf H c v i h]
    · rw [h2 i a (by omega), E_node H c v i a (by omega), ih (2 * i) (by omega) (by omega) (by omega), ih (2 * i + 1) (by omega) (by omega) (by omega)]

variable (hl : ∀ s, (H s).length = 32)
include hl
theorem leafD_len (k : Nat) (s : Str) : (leafD H k s).length = 32 := by
  unfold leafD; split
  · rfl
  · exact hl _
theorem nodeD_len (a b : Str) : (nodeD H a b).length = 32 := by
  unfold nodeD; split
  · rfl
  · exact hl _
theorem E_len (v : Nat → Str) (i : Nat) (h : 1 ≤ i) : (E H (fun _ => []) v i).length = 32 := by
  by_cases h2 : 64 ≤ i
  · rw [E_leaf H _ v i h2, if_pos rfl]; exact leafD_len H hl _ _
  · rw [E_node H _ v i h (by omega), if_pos rfl]; exact nodeD_len H hl _ _
omit hl

/-- the root of the map v -/
def rootV (v : Nat → Str) : Str := E H (fun _ => []) v 1

/-- is the part i responsible for one of the keys? -/
def op (ks : List Nat) (i : Nat) : Bool := ks.any fun k => (List.range 7).any fun up => (64 + k) / 2 ^ up == i
theorem op_iff (ks : List Nat) (i : Nat) : op ks i = true ↔ ∃ k ∈ ks, ∃ up, up < 7 ∧ (64 + k) / 2 ^ up = i := by
  simp [op, List.any_eq_true]
/-- the closed parts under the part i -/
def clF (ks : List Nat) : Nat → Nat → List Nat
  | 0, i => if op ks i then [] else [i]
  | h + 1, i => if op ks i then clF ks h (2 * i) ++ clF ks h (2 * i + 1) else [i]
def closedL (ks : List Nat) : List Nat := clF ks 6 1
theorem clF_ge (ks : List Nat) (h i p : Nat) (hi : 1 ≤ i) (hp : p ∈ clF ks h i) : i ≤ p := by
  induction h generalizing i with
  | zero => rw [clF] at hp; split at hp <;> simp at hp; omega
  | succ h ih =>
    rw [clF] at hp
    split at hp
    · rcases List.mem_append.1 hp with hp | hp
      · have := ih (2 * i) (by omega) hp; omega
      · have := ih (2 * i + 1) (by omega) hp; omega
    · simp at hp; omega
theorem clF_lt (ks : List Nat) (h i p : Nat) (hi : (i + 1) * 2 ^ h ≤ 128) (hp : p ∈ clF ks h i) : p < 128 := by
  induction h generalizing i with
  | zero => rw [clF] at hp; split at hp <;> simp at hp; omega
  | succ h ih =>
    have p2 := Nat.pow_pos (n := h) (show 0 < 2 by omega)
    have e : (i + 1) * 2 ^ (h + 1) = (2 * i + 1 + 1) * 2 ^ h := by rw [Nat.pow_succ, show 2 * i + 1 + 1 = 2 * (i + 1) by omega, Nat.mul_comm 2 (i + 1), Nat.mul_assoc, Nat.mul_comm 2]
    rw [clF] at hp
    split at hp
    · rcases List.mem_append.1 hp with hp | hp
      · refine ih (2 * i) ?_ hp
        have : (2 * i + 1) * 2 ^ h ≤ (2 * i + 1 + 1) * 2 ^ h := Nat.mul_le_mul_right _ (by omega)
        omega
      · refine ih (2 * i + 1) (by omega) hp
    · simp at hp; subst hp
      have : (p + 1) * 1 ≤ (p + 1) * 2 ^ (h + 1) := Nat.mul_le_mul_left _ (Nat.pow_pos (by omega))
      omega
theorem closedL_bd (ks : List Nat) (p : Nat) (hp : p ∈ closedL ks) : 1 ≤ p ∧ p < 128 := ⟨clF_ge ks 6 1 p (by omega) hp, clF_lt ks 6 1 p (by omega) hp⟩
theorem clF_op (ks : List Nat) (h i p : Nat) (hp : p ∈ clF ks h i) : op ks p = false := by
  induction h generalizing i with
  | zero => rw [clF] at hp; split at hp <;> simp at hp; subst hp; simp_all
  | succ h ih =>
    rw [clF] at hp
    split at hp
    · rcases List.mem_append.1 hp with hp | hp
      · exact ih _ hp
      · exact ih _ hp
    · simp at hp; subst hp; simp_all

/-- below a part with equal values everything is equal -/
theorem E_agree (u v : Nat → Str) (h i : Nat) (h1 : 64 ≤ i * 2 ^ h) (h2 : (i + 1) * 2 ^ h ≤ 128) (hi : 1 ≤ i) (hk : ∀ k, k < 64 → (64 + k) / 2 ^ h = i → u k = v k) : E H (fun _ => []) u i = E H (fun _ => []) v i := by
  induction h generalizing i with
  | zero =>
    rw [E_leaf H _ _ i (by omega), E_leaf H _ _ i (by omega), if_pos rfl, if_pos rfl, hk (i - 64) (by omega) (by omega)]
  | succ h ih =>
    have p2 := Nat.pow_pos (n := h) (show 0 < 2 by omega)
    have e1 : i * 2 ^ (h + 1) = 2 * i * 2 ^ h := by rw [Nat.pow_succ, Nat.mul_comm 2 i, Nat.mul_assoc, Nat.mul_comm 2]
    have e : (i + 1) * 2 ^ (h + 1) = (2 * i + 1 + 1) * 2 ^ h := by rw [Nat.pow_succ, show 2 * i + 1 + 1 = 2 * (i + 1) by omega, Nat.mul_comm 2 (i + 1), Nat.mul_assoc, Nat.mul_comm 2]
    have m1 : (2 * i + 1) * 2 ^ h = 2 * i * 2 ^ h + 2 ^ h := by rw [Nat.add_mul, Nat.one_mul]
    have m2 : (2 * i + 1 + 1) * 2 ^ h = (2 * i + 1) * 2 ^ h + 2 ^ h := by rw [Nat.add_mul _ 1, Nat.one_mul]
    have i64 : i < 64 := by
      have : (i + 1) * 2 ≤ (i + 1) * 2 ^ (h + 1) := Nat.mul_le_mul_left _ (by rw [Nat.pow_succ]; omega)
      omega
    have hd : ∀ k, (64 + k) / 2 ^ (h + 1) = (64 + k) / 2 ^ h / 2 := fun k => by rw [Nat.div_div_eq_div_mul, Nat.pow_succ]
    rw [E_node H _ _ i hi i64, E_node H _ _ i hi i64, if_pos rfl, if_pos rfl, ih (2 * i) (by omega) (by omega) (by omega) (fun k a b => hk k a (by rw [hd, b]; omega)),
      ih (2 * i + 1) (by omega) (by omega) (by omega) (fun k a b => hk k a (by rw [hd, b]; omega))]

/-- what an opening of the map u stands for with the values w, which are those of the map v at the keys -/
theorem E_open (c u v w : Nat → Str) (ks : List Nat) (hl : ∀ s, (H s).length = 32) (hk : ∀ k ∈ ks, k < 64)
    (hc : ∀ p, op ks p = true → c p = []) (hin : ∀ k ∈ ks, w k = v k) (hout : ∀ k, k ∉ ks → u k = v k)
    (h i : Nat) (h6 : h < 7) (h1 : 64 ≤ i * 2 ^ h) (h2 : (i + 1) * 2 ^ h ≤ 128) (hi : 1 ≤ i) (hcl : ∀ p ∈ clF ks h i, c p = E H (fun _ => []) u p) : E H c w i = E H (fun _ => []) v i := by
  have closed : ∀ h, h < 7 → 64 ≤ i * 2 ^ h → (i + 1) * 2 ^ h ≤ 128 → op ks i ≠ true → c i = E H (fun _ => []) u i → E H c w i = E H (fun _ => []) v i := by
    intro h h6 h1 h2 ho this
    have hne : c i ≠ [] := by
      rw [this]; intro hz
      have := E_len H hl u i hi
      rw [hz] at this; simp at this
    have ag := E_agree H u v h i h1 h2 hi (fun k a b => hout k fun hm => ho ((op_iff ks i).2 ⟨k, hm, h, h6, b⟩))
    by_cases h64 : 64 ≤ i
    · rw [E_leaf H c w i h64, if_neg hne, this, ag]
    · rw [E_node H c w i hi (by omega), if_neg hne, this, ag]
  induction h generalizing i with
  | zero =>
    rw [clF] at hcl
    by_cases ho : op ks i = true
    · rw [E_leaf H _ _ i (by omega), E_leaf H _ _ i (by omega), if_pos rfl, if_pos (hc i ho)]
      obtain ⟨k, hm, up, hup, he⟩ := (op_iff ks i).1 ho
      have : i - 64 ∈ ks := by
        cases up with
        | zero => rw [show i - 64 = k by omega]; exact hm
        | succ up =>
          exfalso
          have a := hk k hm
          have b : (64 + k) / 2 ^ (up + 1) ≤ (64 + k) / 2 := Nat.div_le_div_left (by rw [Nat.pow_succ]; have := Nat.pow_pos (n := up) (show 0 < 2 by omega); omega) (by omega)
          omega
      rw [hin _ this]
    · rw [if_neg ho] at hcl
      exact closed 0 h6 h1 h2 ho (hcl i (by simp))
  | succ h ih =>
    rw [clF] at hcl
    by_cases ho : op ks i = true
    · rw [if_pos ho] at hcl
      have p2 := Nat.pow_pos (n := h) (show 0 < 2 by omega)
      have e1 : i * 2 ^ (h + 1) = 2 * i * 2 ^ h := by rw [Nat.pow_succ, Nat.mul_comm 2 i, Nat.mul_assoc, Nat.mul_comm 2]
      have e : (i + 1) * 2 ^ (h + 1) = (2 * i + 1 + 1) * 2 ^ h := by rw [Nat.pow_succ, show 2 * i + 1 + 1 = 2 * (i + 1) by omega, Nat.mul_comm 2 (i + 1), Nat.mul_assoc, Nat.mul_comm 2]
      have m1 : (2 * i + 1) * 2 ^ h = 2 * i * 2 ^ h + 2 ^ h := by rw [Nat.add_mul, Nat.one_mul]
      have m2 : (2 * i + 1 + 1) * 2 ^ h = (2 * i + 1) * 2 ^ h + 2 ^ h := by rw [Nat.add_mul _ 1, Nat.one_mul]
      have i64 : i < 64 := by
        have : (i + 1) * 2 ≤ (i + 1) * 2 ^ (h + 1) := Nat.mul_le_mul_left _ (by rw [Nat.pow_succ]; omega)
        omega
      have sub : ∀ j, (j = 2 * i ∨ j = 2 * i + 1) → E H c w j = E H (fun _ => []) v j := fun j hj => by
        refine ih j (by omega) (by rcases hj with rfl | rfl <;> omega) (by rcases hj with rfl | rfl <;> omega) (by omega) (fun p hp => hcl p (List.mem_append.2 (by rcases hj with rfl | rfl; exact .inl hp; exact .inr hp))) ?_
        intro h' h6' h1' h2' ho' this'
        have hne : c j ≠ [] := by
          rw [this']; intro hz
          have := E_len H hl u j (by omega)
          rw [hz] at this; simp at this
        have ag := E_agree H u v h' j h1' h2' (by omega) (fun k a b => hout k fun hm => ho' ((op_iff ks j).2 ⟨k, hm, h', h6', b⟩))
        by_cases h64 : 64 ≤ j
        · rw [E_leaf H c w j h64, if_neg hne, this', ag]
        · rw [E_node H c w j (by omega) (by omega), if_neg hne, this', ag]
      rw [E_node H _ _ i hi i64, E_node H _ _ i hi i64, if_pos rfl, if_pos (hc i ho), sub _ (.inl rfl), sub _ (.inr rfl)]
    · rw [if_neg ho] at hcl
      exact closed (h + 1) h6 h1 h2 ho (hcl i (by simp))
end
end Go.Proofs.YtegahpfmkepfmaaDoor
