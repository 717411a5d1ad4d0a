import Derived.Test.YthdfadlniacdcaaDoorSpl
namespace Go.Proofs.YthdfadlniacdcaaDoor
open Go.RowKit

theorem own_parts {W : World} {base : Nat} {a : Option Addr} {c : Nat} {l : List Str} (h : OwnS W base (.slice a l.length c) l) : (a = none ∧ l.length = 0 ∧ c = 0) ∨ ∃ g, a = some ⟨g, 0, none⟩ ∧ l.length ≤ c := by
  rcases h.2 with ⟨e, h0⟩ | ⟨g, cap, cur, e, _, _, hc, _⟩
  · simp at e; exact .inl ⟨e.1, h0, e.2.2⟩
  · simp at e; exact .inr ⟨g, e.1, by omega⟩
theorem own_take {W : World} {base : Nat} {a : Option Addr} {c : Nat} {l : List Str} (h : OwnS W base (.slice a l.length c) l) : ∀ k, k ≤ l.length → SL W (.slice a k c) (l.take k) := fun k hk => by
  by_cases hl : l = []
  · subst hl
    obtain rfl : k = 0 := by simpa using hk
    exact .inl ⟨by simp, _, _, rfl⟩
  · obtain ⟨b, o, c', e, h1, h2, h3⟩ := (own_SL h).own hl
    obtain ⟨e1, e2⟩ : a = some ⟨b, o, none⟩ ∧ c = c' := by simpa using e
    subst e1 e2
    exact SL.take h2 h1 h3 k hk

set_option maxRecDepth 100000 in
set_option maxHeartbeats 4000000 in
theorem ExtensionAccepted_any (v : Value) (l : List Str) (i : Int) (w : World) (hv : ArgS w v l) (hi1 : -9223372036854775808 ≤ i) (hi2 : i ≤ 9223372036854775807) (hT : Tab w) :
    Calls Tryd.prog 7 #[v, .int .i64 i] w fun e w' => e = .returned (.bool true) ∧ Below w.heap.size w w' := by
  have c1 := Lib.hid (sane_any w hT)
  have c2 := Lib.hid (fun w' (B : Below w.heap.size w w') => few_any v l 25 w' (hv.below B) (by omega))
  obtain ⟨a, c, rfl, hlen, _, _⟩ := hv
  have hT2 := Lib.hid hT
  clear hT
  have hL1 := fewS_len l 25
  have hL2 := fewS_small l 25
  generalize fewS l 25 = L at *
  have hN : L.length ≤ 25 := by omega
  have hLu := Lib.hid (show ∀ u ∈ L, List.length u ≤ 1000 from fun u hu => by have := hL2 u hu; omega)
  clear hL1 hlen hL2
  go_enter Tryd.func7, Tryd.ntmps7
  go_wp2_with fail
  refine c1.out.mono ?_
  rintro e w1 ⟨rfl, B1⟩
  go_wp2_with fail
  refine (c2.out _ B1).mono ?_
  rintro e w2 ⟨v0, rfl, o0, b2⟩
  have B2 := B1.trans (b2.mono B1.size)
  have s0 := own_SL o0
  have hT3 := hT2.out.below B2
  obtain ⟨a0, k0, rfl⟩ := s0.shape
  have hA := own_parts o0
  have hS := Lib.hid (own_take o0)
  clear o0 b2 B1
  have kR := Root_any L.length L _ w2 (Nat.le_refl _) hLu.out (by omega) hT3 s0
  have hb1 := Lib.hid (fun w' => binary_any L.length w' (by omega))
  have bdN : bd L.length ≤ 6 := bd_le _ 6 (by omega)
  have kP := Lib.hid (fun (k : Nat) (hk : k ≤ L.length) w' (B : Below w2.heap.size w2 w') => Extension_any _ L k w' (s0.below B) hLu.out (by omega) hk (hT3.below B))
  have sm := Lib.hid (fun (k : Nat) (hk : k ≤ L.length) => extS_small L k hk (by omega))
  have sh := Lib.hid (fun (k : Nat) (hk : k ≤ L.length) => extS_short L k hk)
  have kV := Lib.hid (fun (k : Nat) (hk : k ≤ L.length) (z : Value) w' (B : Below w2.heap.size w2 w') (hz : SL w' z (extS L k)) => by
    have h := VerifyExtension_any (rootS (L.take k)) k (rootS L) L.length (extS L k) z w' (by omega) (by omega) (by omega) (by omega) (by have := sm.out k hk; omega) (fun u hu => by have := extS_dig L k u hu; omega) (hT3.below B) hz
    rw [vere_ok L k hk] at h
    exact h)
  have kO := Lib.hid (fun (h : i < 0 ∨ (L.length : Int) < i) w' (B : Below w2.heap.size w2 w') => by
    have h := VerifyExtension_any (rootS L) i (rootS L) L.length [] (.slice none 0 0) w' (by omega) (by omega) (by omega) (by omega) (by simp) (by simp) (hT3.below B) (.inl ⟨rfl, _, _, rfl⟩)
    rw [vere_out _ _ _ _ _ (by assumption)] at h
    exact h)
  have kB := Lib.hid (fun (h : i < 0 ∨ (L.length : Int) < i) w' (B : Below w2.heap.size w2 w') => Extension_bad _ L i w' (s0.below B) hi1 hi2 h)
  have kT := Lib.hid (fun (k : Nat) (hk : k ≤ L.length) w' (B : Below w2.heap.size w2 w') (hs : SL w' (.slice a0 k k0) (L.take k)) => Root_any L.length (L.take k) _ w' (by simp; omega) (fun u h => hLu.out u (List.mem_of_mem_take h)) (by simp; omega) (hT3.below B) hs)
  have fin := Lib.hid (fun w' (B : Below w2.heap.size w2 w') => B2.trans (B.mono B2.size))
  have kR2 := Lib.hid kR
  clear kR s0 hLu c1 c2 B2 hT3
  generalize rootS L = R at *
  obtain ⟨N, hNe⟩ : ∃ N, Hid (N = L.length) := ⟨_, rfl⟩
  simp only [← hNe.out] at hN hb1 bdN kP kV kO kB kT sm sh hA hS kR2 ⊢
  go_wp2_with fail
  refine kR2.out.mono ?_
  rintro e w3 ⟨rfl, b3⟩
  clear kR2
  go_wp2_with fail
  go_loopw [7] (fun iv wr => ∃ k : Nat, k ≤ N + 1 ∧ iv = .int .i64 k ∧ Below w2.heap.size w2 wr) (fun iv _ => N + 1 - (intOf iv).toNat)
  case atStart => exact ⟨0, by omega, rfl, b3⟩
  case round =>
    obtain ⟨k, hk, rfl, B⟩ := hrel
    by_cases hlt : k ≤ N
    · have q1 := kP.out k hlt wr B
      have q2 := Lib.hid (kT.out k hlt)
      have q3 := Lib.hid (kV.out k hlt)
      have q4 := Lib.hid (hS.out k hlt)
      have q5 := sh.out k hlt
      have q6 := sm.out k hlt
      generalize extS L k = X at *
      generalize bd N = D at *
      generalize rootS (L.take k) = T at *
      go_wp2_with fail
      refine q1.mono ?_
      rintro e w4 ⟨v5, rfl, o5, b5⟩
      have s5 := own_SL o5
      have B4 := B.trans (b5.mono B.size)
      clear o5 b5
      obtain ⟨a5, k5, rfl⟩ := s5.shape
      have q7 := Lib.hid (q2.out w4 B4 (q4.out.below B4))
      have q8 := Lib.hid (fun w' (b : Below w4.heap.size w4 w') => q3.out _ w' (B4.trans (b.mono B4.size)) (s5.below b))
      have i0 : (0 : Int) ≤ (k : Int) := by omega
      have i1 : (k : Int) ≤ (N : Int) := by omega
      have i4 : ¬ 2 * (D : Int) < (X.length : Int) := by omega
      clear s5 q2 q3
      generalize X.length = Y at *
      rcases hA with ⟨rfl, h0, rfl⟩ | ⟨g, rfl, hc⟩
      · obtain rfl : k = 0 := by omega
        subst h0
        clear hN
        simp only [show ((0 : Nat) : Int) = 0 from rfl] at hb1 q8 i0 i1 ⊢
        go_wp2_with fail
        refine (hb1.out _).mono ?_
        rintro e w' ⟨rfl, rfl⟩
        go_wp2_with fail
        refine q7.out.mono ?_
        rintro e w5 ⟨rfl, b5⟩
        go_wp2_with fail
        refine (q8.out _ b5).mono ?_
        rintro e w6 ⟨rfl, b6⟩
        have B6 := B4.trans ((b5.trans (b6.mono b5.size)).mono B4.size)
        go_wp2_with fail
        go_roundw
        case rel => exact ⟨1, by omega, rfl, B6⟩
        case measure => simp [intOf]
      · have i2 : (k : Int) ≤ (k0 : Int) := by omega
        go_wp2_with fail
        refine (hb1.out _).mono ?_
        rintro e w' ⟨rfl, rfl⟩
        go_wp2_with fail
        refine q7.out.mono ?_
        rintro e w5 ⟨rfl, b5⟩
        go_wp2_with fail
        refine (q8.out _ b5).mono ?_
        rintro e w6 ⟨rfl, b6⟩
        have B6 := B4.trans ((b5.trans (b6.mono b5.size)).mono B4.size)
        go_wp2_with fail
        go_roundw
        case rel => exact ⟨k + 1, by omega, by go_num, B6⟩
        case measure => simp [intOf]; omega
    · obtain rfl : k = N + 1 := by omega
      have hNk : ¬ ((N : Int) + 1 ≤ (N : Int)) := by omega
      by_cases hin : 0 ≤ i ∧ i ≤ (N : Int)
      · obtain ⟨j, rfl⟩ := Int.eq_ofNat_of_zero_le hin.1
        have hj : j ≤ N := by omega
        have q1 := kP.out j hj wr B
        generalize extS L j = X at *
        have i0 : (0 : Int) ≤ (j : Int) := by omega
        have i1 : (j : Int) ≤ (N : Int) := by omega
        go_wp2_with fail
        refine q1.mono ?_
        rintro e w4 ⟨v5, rfl, o5, b5⟩
        have B4 := B.trans (b5.mono B.size)
        go_wp2_with fail
        go_ret
        exact ⟨rfl, fin.out _ B4⟩
      · have ho : i < 0 ∨ (N : Int) < i := by omega
        have q1 := kB.out ho wr B
        have q2 := Lib.hid (kO.out ho wr B)
        go_wp2_with fail
        refine q1.mono ?_
        rintro e w' ⟨rfl, rfl⟩
        by_cases h0 : 0 ≤ i
        · have h1 : decide (i ≤ (N : Int)) = false := by rw [decide_eq_false_iff_not]; omega
          go_wp2_with fail
          refine q2.out.mono ?_
          rintro e w5 ⟨rfl, b5⟩
          go_wp2_with fail
          go_ret
          exact ⟨rfl, fin.out _ (B.trans (b5.mono B.size))⟩
        · go_wp2_with fail
          refine q2.out.mono ?_
          rintro e w5 ⟨rfl, b5⟩
          go_wp2_with fail
          go_ret
          exact ⟨rfl, fin.out _ (B.trans (b5.mono B.size))⟩
end Go.Proofs.YthdfadlniacdcaaDoor
