import Derived.Test.YtimfhnnabocliaaDoorU
namespace Go.Proofs.YtimfhnnabocliaaDoor
open Go.RowKit

theorem RString_none (s : ByteArray) (k : Nat) (w : World) (hs : s.size ≤ 140737488351232) (hk : k ≤ s.size) (h : getT s.data.toList k = none) :
    Calls Tryd.prog 18 #[.string s, .int .i64 k] w fun e w' => e = .returned (.tuple #[.string ⟨#[]⟩, .int .i64 0, .int .i64 10]) ∧ Below w.heap.size w w' := by
  cases hq : getL s.data.toList k with
  | none =>
    go_enter Tryd.func18, Tryd.ntmps18
    go_wp2_with fail
    refine (RInt_none _ _ _ hs hk hq).mono ?_
    rintro e w' ⟨rfl, hb⟩
    go_wp2
    go_ret3
    exact ⟨rfl, hb⟩
  | some p =>
    obtain ⟨n, m⟩ := p
    have hb := getL_sound _ _ _ _ hq
    obtain ⟨b1, b2, b3, b4, _⟩ := hb
    have b3 := b3 (by simpa using hk)
    have b3' : m ≤ s.size := by simpa using b3
    have hc : n < 0 ∨ 65536 < n ∨ (0 ≤ n ∧ n ≤ 65536 ∧ (s.size : Int) - m < n) := by
      unfold getT at h
      rw [hq] at h
      simp only at h
      split at h
      · cases h
      · rename_i hh
        have e : s.data.toList.length = s.size := by simp
        rw [e] at hh
        omega
    clear b3
    rcases hc with hc | hc | ⟨hc1, hc2, hc3⟩
    all_goals
      go_enter Tryd.func18, Tryd.ntmps18
      go_wp2_with fail
      refine (RInt_ok _ _ _ _ _ hs hk hq).mono ?_
      rintro e w' ⟨rfl, hb⟩
      go_wp2
      go_ret3
      exact ⟨rfl, hb⟩
theorem RString_ok (s : ByteArray) (k : Nat) (t : List UInt8) (m : Nat) (w : World) (hs : s.size ≤ 140737488351232) (hk : k ≤ s.size) (h : getT s.data.toList k = some (t, m)) :
    Calls Tryd.prog 18 #[.string s, .int .i64 k] w fun e w' => e = .returned (.tuple #[.string ⟨t.toArray⟩, .int .i64 m, .int .i64 0]) ∧ Below w.heap.size w w' := by
  cases hq : getL s.data.toList k with
  | none => unfold getT at h; rw [hq] at h; cases h
  | some p =>
    obtain ⟨n, f⟩ := p
    have hb := getL_sound _ _ _ _ hq
    obtain ⟨b1, b2, b3, b4, _⟩ := hb
    have b3 := b3 (by simpa using hk)
    have b3' : f ≤ s.size := by simpa using b3
    obtain ⟨c1, c2, c3, ht, hm'⟩ : 0 ≤ n ∧ n ≤ 65536 ∧ f + n.toNat ≤ s.size ∧ (s.data.toList.drop f).take n.toNat = t ∧ f + n.toNat = m := by
      unfold getT at h
      rw [hq] at h
      simp only at h
      split at h
      · rename_i hh
        simp only [Option.some.injEq, Prod.mk.injEq] at h
        have e : s.data.toList.length = s.size := by simp
        rw [e] at hh
        exact ⟨hh.1, hh.2.1, hh.2.2, h.1, h.2⟩
      · cases h
    obtain ⟨n, rfl⟩ := Int.eq_ofNat_of_zero_le c1
    rw [Int.toNat_natCast] at c3 ht hm'
    have hx : (⟨t.toArray⟩ : ByteArray) = s.extract f (f + n) := by
      rw [Lib.extract_eq, ← ht]; congr 2; congr 1; omega
    rw [hx]
    subst hm'
    clear b3 hx h ht
    have hq2 := Lib.hid hq
    clear hq
    go_enter Tryd.func18, Tryd.ntmps18
    go_wp2_with fail
    refine (RInt_ok _ _ _ _ _ hs hk hq2.out).mono ?_
    rintro e w' ⟨rfl, hb⟩
    go_wp2
    go_ret3
    exact ⟨by simp, hb⟩
end Go.Proofs.YtimfhnnabocliaaDoor
