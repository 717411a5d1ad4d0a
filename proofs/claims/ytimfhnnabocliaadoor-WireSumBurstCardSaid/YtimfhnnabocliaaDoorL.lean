import Derived.Test.YtimfhnnabocliaaDoorK
import Derived.Lib.ConvBytes
namespace Go.Proofs.YtimfhnnabocliaaDoor
open Go.RowKit

/-- the row's cells are the bytes of t -/
def Bts (W : World) (B : Nat) (t : List UInt8) : Prop := ∀ j, j < t.length → W.cell? ⟨B, j, none⟩ = some (.int .u8 ((t.getD j 0).toNat : Int)) ∧ W.frozen? ⟨B, j, none⟩ = false
theorem Bts.bytes {W : World} {B : Nat} {l : List UInt8} (h : Bts W B l) (j : Nat) (hj : j < l.length) : W.cell? (Addr.add ⟨B, 0, none⟩ j) = some (.int .u8 (l[j].toNat : Int)) := by
  have e : (Addr.add ⟨B, 0, none⟩ j) = ⟨B, j, none⟩ := by
    unfold Addr.add
    split
    · rename_i e; rw [e]
    · simp
  rw [e, (h j hj).1]
  simp [List.getD, hj]
theorem Bts.drewN {W : World} {B : Nat} {l : List UInt8} (h : Bts W B l) (q : Nat) : Bts (W.drewN q) B l := fun j hj => by
  have := h j hj
  simpa using this
theorem Bts.start (w : World) (s : ByteArray) : Bts (Lib.bytesWorld w 5 s) w.heap.size s.data.toList := by
  intro j hj
  rw [data_len] at hj
  refine ⟨by rw [Lib.bytesWorld_cell w 5 s j hj], ?_⟩
  have h := Lib.bytesWorld_at_new w 5 s
  have hsz : s.size ≤ (Lib.bytesCells w 5 s).size := by unfold Lib.bytesCells; simp
  unfold World.frozen?
  simp [h]
  omega
theorem Bts.below (w : World) (s : ByteArray) : Below w.heap.size w (Lib.bytesWorld w 5 s) :=
  ⟨rfl, rfl, rfl, by rw [Lib.bytesWorld_size]; omega, fun k hk => Lib.bytesWorld_at_old w 5 s k hk⟩

/-- bit k of t turned -/
def turn (t : List UInt8) (k : Nat) : List UInt8 := t.set (k / 8) (t.getD (k / 8) 0 ^^^ UInt8.ofNat (2 ^ (k % 8)))
theorem turn_len (t : List UInt8) (k : Nat) : (turn t k).length = t.length := by simp [turn]
theorem turn_bit (t : List UInt8) (k j : Nat) (hk : k < 8 * t.length) : bitAt (turn t k) j = (bitAt t j ^^ decide (j = k)) := by
  have hp : 2 ^ (k % 8) < 256 := Nat.lt_of_lt_of_le (Nat.pow_lt_pow_right (by omega) (show k % 8 < 8 by omega)) (by decide)
  have h1 : k / 8 < t.length := by omega
  unfold bitAt turn
  by_cases h : j / 8 = k / 8
  · rw [h]
    have e : (t.set (k / 8) (t.getD (k / 8) 0 ^^^ UInt8.ofNat (2 ^ (k % 8)))).getD (k / 8) 0 = t.getD (k / 8) 0 ^^^ UInt8.ofNat (2 ^ (k % 8)) := by simp [List.getD, h1]
    rw [e, UInt8.toNat_xor, toNat_of _ hp, Nat.testBit_xor, Nat.testBit_two_pow]
    congr 1
    by_cases e2 : j = k
    · subst e2; simp
    · rw [decide_eq_false e2, decide_eq_false (by omega)]
  · have e : (t.set (k / 8) (t.getD (k / 8) 0 ^^^ UInt8.ofNat (2 ^ (k % 8)))).getD (j / 8) 0 = t.getD (j / 8) 0 := by
      simp only [List.getD, List.getElem?_set]
      rw [if_neg (by omega)]
    rw [e, decide_eq_false (by omega)]; simp
theorem Turned.yes {s t : List UInt8} {a i p : Nat} (h : Turned s t a i p) (hi : a + i < 8 * s.length) (hp : p / 2 ^ i % 2 = 1) : Turned s (turn t (a + i)) a (i + 1) p := by
  obtain ⟨hl, hb⟩ := h
  refine ⟨by rw [turn_len, hl], fun j hj => ?_⟩
  rw [turn_bit t _ _ (by omega), hb j hj]
  have hp' : p.testBit i = true := by rw [Nat.testBit_eq_decide_div_mod_eq]; simpa using hp
  by_cases e : j = a + i
  · subst e
    rw [decide_eq_false (by omega : ¬ (a ≤ a + i ∧ a + i < a + i)), decide_eq_true (by omega : a ≤ a + i ∧ a + i < a + (i + 1)), decide_eq_true rfl, show a + i - a = i by omega, hp']; simp
  · rw [decide_eq_false e]
    by_cases e2 : a ≤ j ∧ j < a + i
    · rw [decide_eq_true e2, decide_eq_true (by omega : a ≤ j ∧ j < a + (i + 1))]; simp
    · rw [decide_eq_false e2, decide_eq_false (by omega : ¬ (a ≤ j ∧ j < a + (i + 1)))]; simp
theorem Turned.no {s t : List UInt8} {a i p : Nat} (h : Turned s t a i p) (hp : ¬ p / 2 ^ i % 2 = 1) : Turned s t a (i + 1) p := by
  obtain ⟨hl, hb⟩ := h
  refine ⟨hl, fun j hj => ?_⟩
  rw [hb j hj]
  have hp' : p.testBit i = false := by rw [Nat.testBit_eq_decide_div_mod_eq]; simpa using hp
  by_cases e : j = a + i
  · subst e
    rw [decide_eq_false (by omega : ¬ (a ≤ a + i ∧ a + i < a + i)), show a + i - a = i by omega, hp']; simp
  · by_cases e2 : a ≤ j ∧ j < a + i
    · rw [decide_eq_true e2, decide_eq_true (by omega : a ≤ j ∧ j < a + (i + 1))]
    · rw [decide_eq_false e2, decide_eq_false (by omega : ¬ (a ≤ j ∧ j < a + (i + 1)))]
/-- has a bit been turned in the first i -/
def ch (p i : Nat) : Bool := decide (p % 2 ^ i ≠ 0)
theorem ch_yes (p i : Nat) (h : p / 2 ^ i % 2 = 1) : ch p (i + 1) = true := by
  unfold ch
  rw [decide_eq_true_iff, Nat.mod_pow_succ, h]
  have := Nat.two_pow_pos i
  omega
theorem ch_no (p i : Nat) (h : ¬ p / 2 ^ i % 2 = 1) : ch p (i + 1) = ch p i := by
  unfold ch
  rw [Nat.mod_pow_succ, show p / 2 ^ i % 2 = 0 by omega]
  simp
/-- what was turned differs in its checksum just if a bit was turned -/
theorem burst_end (s t : List UInt8) (a m p : Nat) (hm : m ≤ 32) (ham : a + m ≤ 8 * s.length) (h : Turned s t a m p) : (ch p m == (crc t != crc s)) = true := by
  have hp : p % 2 ^ m < 2 ^ m := Nat.mod_lt _ (Nat.two_pow_pos m)
  have h' : Turned s t a m (p % 2 ^ m) := by
    refine ⟨h.1, fun j hj => ?_⟩
    rw [h.2 j hj]
    by_cases e : a ≤ j ∧ j < a + m
    · rw [decide_eq_true e, Nat.testBit_mod_two_pow, decide_eq_true (by omega : j - a < m)]; simp
    · rw [decide_eq_false e]; simp
  have h1 := burst s t a m (p % 2 ^ m) 4294967295#32 hm ham h' hp
  rw [← crc_eq] at h1
  unfold ch
  by_cases e : p % 2 ^ m = 0
  · rw [decide_eq_false (by simpa using e)]
    have := h1.2 e
    simp [this]
  · rw [decide_eq_true (by simpa using e)]
    have : crc t ≠ crc s := fun h2 => e (h1.1 h2.symm)
    simpa using this
end Go.Proofs.YtimfhnnabocliaaDoor
