/- Plain facts for SparseComplete: how many closed parts a list of keys has. -/
import Derived.Test.YtegahpfmkepfmaaDoorPr
namespace Go.Proofs.YtegahpfmkepfmaaDoor
def cntU (ks : List Nat) (h i : Nat) : Nat := ks.countP fun k => (64 + k) / 2 ^ h == i
theorem cntU_split (ks : List Nat) (h i : Nat) : cntU ks (h + 1) i = cntU ks h (2 * i) + cntU ks h (2 * i + 1) := by
  unfold cntU
  induction ks with
  | nil => rfl
  | cons k t ih =>
    have e : (64 + k) / 2 ^ (h + 1) = ((64 + k) / 2 ^ h) / 2 := by rw [Nat.pow_succ, Nat.div_div_eq_div_mul]
    simp only [List.countP_cons, ih, e, beq_iff_eq]
    generalize (64 + k) / 2 ^ h = q
    by_cases h1 : q = 2 * i
    · have : q / 2 = i := by omega
      rw [if_pos h1, if_pos this, if_neg (by omega)]; omega
    · by_cases h2 : q = 2 * i + 1
      · have : q / 2 = i := by omega
        rw [if_neg h1, if_pos this, if_pos h2]; omega
      · rw [if_neg h1, if_neg h2, if_neg (by omega)]; omega
theorem up_eq (k up h i : Nat) (hk : k < 64) (h1 : 64 ≤ i * 2 ^ h) (h2 : (i + 1) * 2 ^ h ≤ 128) (e : (64 + k) / 2 ^ up = i) : up = h := by
  have hp : 0 < 2 ^ up := Nat.pow_pos (by omega)
  have a1 : i * 2 ^ up ≤ 64 + k := by rw [← e]; exact Nat.div_mul_le_self _ _
  have a2 : 64 + k < (i + 1) * 2 ^ up := by rw [← e, Nat.add_mul, Nat.one_mul]; exact Nat.lt_div_mul_add hp
  rcases Nat.lt_trichotomy up h with g | g | g
  · exfalso
    have : 2 ^ up * 2 ≤ 2 ^ h := by rw [← Nat.pow_succ]; exact Nat.pow_le_pow_right (by omega) g
    have := Nat.mul_le_mul_left (i + 1) this
    rw [← Nat.mul_assoc] at this
    omega
  · exact g
  · exfalso
    have : 2 ^ h * 2 ≤ 2 ^ up := by rw [← Nat.pow_succ]; exact Nat.pow_le_pow_right (by omega) g
    have := Nat.mul_le_mul_left i this
    rw [← Nat.mul_assoc] at this
    omega
theorem op_cnt (ks : List Nat) (h i : Nat) (hks : ∀ k ∈ ks, k < 64) (h1 : 64 ≤ i * 2 ^ h) (h2 : (i + 1) * 2 ^ h ≤ 128) (ho : op ks i = true) : 0 < cntU ks h i := by
  obtain ⟨k, hk, up, _, e⟩ := (op_iff ks i).1 ho
  obtain rfl := up_eq k up h i (hks k hk) h1 h2 e
  unfold cntU
  exact List.countP_pos_iff.2 ⟨k, hk, by simpa using e⟩
theorem clF_cnt (ks : List Nat) (hks : ∀ k ∈ ks, k < 64) (h i : Nat) (h1 : 64 ≤ i * 2 ^ h) (h2 : (i + 1) * 2 ^ h ≤ 128) (h6 : h < 7) :
    (clF ks h i).length ≤ 1 ∧ cntU ks h i = 0 ∨ 0 < cntU ks h i ∧ (clF ks h i).length ≤ h * cntU ks h i ∨ (clF ks h i).length ≤ 1 ∧ op ks i = false := by
  induction h generalizing i with
  | zero =>
    rw [clF]
    split
    · rename_i ho
      exact .inr (.inl ⟨op_cnt ks 0 i hks h1 h2 ho, by simp⟩)
    · rename_i ho
      exact .inr (.inr ⟨by simp, by simpa using ho⟩)
  | succ h ih =>
    rw [clF]
    split
    · rename_i ho
      have hc := op_cnt ks (h + 1) i hks h1 h2 ho
      have e := cntU_split ks h i
      rw [Nat.pow_succ] at h1 h2
      have e1 : 2 * i * 2 ^ h = i * (2 ^ h * 2) := by rw [Nat.mul_comm 2 i, Nat.mul_assoc, Nat.mul_comm 2]
      have e2 : (2 * i + 1 + 1) * 2 ^ h = (i + 1) * (2 ^ h * 2) := by
        rw [show 2 * i + 1 + 1 = (i + 1) * 2 by omega, Nat.mul_assoc, Nat.mul_comm 2]
      have m1 : (2 * i + 1) * 2 ^ h ≤ (2 * i + 1 + 1) * 2 ^ h := Nat.mul_le_mul_right _ (by omega)
      have m2 : 2 * i * 2 ^ h ≤ (2 * i + 1) * 2 ^ h := Nat.mul_le_mul_right _ (by omega)
      have l := ih (2 * i) (by omega) (by omega) (by omega)
      have r := ih (2 * i + 1) (by omega) (by omega) (by omega)
      have hn : ∀ j, 64 ≤ j * 2 ^ h → (j + 1) * 2 ^ h ≤ 128 → op ks j = false → cntU ks h j = 0 := fun j j1 j2 jo => by
        unfold cntU
        rw [List.countP_eq_zero]
        intro k hk he
        have : op ks j = true := (op_iff ks j).2 ⟨k, hk, h, by omega, by simpa using he⟩
        rw [jo] at this; cases this
      right; left
      refine ⟨hc, ?_⟩
      rw [List.length_append, e, Nat.add_mul, Nat.one_mul, Nat.mul_add]
      have l' : (clF ks h (2 * i)).length ≤ 1 ∧ cntU ks h (2 * i) = 0 ∨ 0 < cntU ks h (2 * i) ∧ (clF ks h (2 * i)).length ≤ h * cntU ks h (2 * i) := by
        rcases l with l | l | l
        · exact .inl l
        · exact .inr l
        · exact .inl ⟨l.1, hn _ (by omega) (by omega) l.2⟩
      have r' : (clF ks h (2 * i + 1)).length ≤ 1 ∧ cntU ks h (2 * i + 1) = 0 ∨ 0 < cntU ks h (2 * i + 1) ∧ (clF ks h (2 * i + 1)).length ≤ h * cntU ks h (2 * i + 1) := by
        rcases r with r | r | r
        · exact .inl r
        · exact .inr r
        · exact .inl ⟨r.1, hn _ (by omega) (by omega) r.2⟩
      generalize (clF ks h (2 * i)).length = a at *
      generalize (clF ks h (2 * i + 1)).length = b at *
      generalize cntU ks h (2 * i) = x at *
      generalize cntU ks h (2 * i + 1) = y at *
      rw [e] at hc
      clear ih l r hn e e1 e2 m1 m2 h1 h2
      rcases l' with ⟨la, lb⟩ | ⟨la, lb⟩ <;> rcases r' with ⟨ra, rb⟩ | ⟨ra, rb⟩
      · omega
      · subst lb; simp; omega
      · subst rb; simp; omega
      · omega
    · rename_i ho
      exact .inr (.inr ⟨by simp, by simpa using ho⟩)
/-- a proof of n keys bears at most 6 n digests, and one of no key one -/
theorem closedL_cnt (ks : List Nat) (hks : ∀ k ∈ ks, k < 64) : (closedL ks).length ≤ max 1 (6 * ks.length) := by
  have h := clF_cnt ks hks 6 1 (by omega) (by omega) (by omega)
  have hc : cntU ks 6 1 ≤ ks.length := List.countP_le_length
  unfold closedL
  rcases h with h | h | h
  · omega
  · have := Nat.mul_le_mul_left 6 hc; omega
  · omega
theorem pathL_cnt (l : List Ent) (ks : List Int) (hks : ∀ k ∈ ks, 0 ≤ k ∧ k < 64) : (pathL l ks).length ≤ max 1 (6 * ks.length) := by
  have h := closedL_cnt (tN ks) (fun k hk => by
    obtain ⟨x, hx, rfl⟩ := List.mem_map.1 hk
    have := hks x hx; omega)
  unfold pathL
  rw [List.length_map]
  simpa [tN] using h
end Go.Proofs.YtegahpfmkepfmaaDoor
