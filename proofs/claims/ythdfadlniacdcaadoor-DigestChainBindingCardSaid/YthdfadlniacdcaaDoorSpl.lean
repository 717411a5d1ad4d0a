import Derived.Test.YthdfadlniacdcaaDoorCpy
import Derived.Test.YthdfadlniacdcaaDoorFew
namespace Go.Proofs.YthdfadlniacdcaaDoor
open Go.RowKit
theorem SL.own {W : World} {v : Value} {l : List Str} (h : SL W v l) (hl : l ≠ []) : ∃ b o c, v = .slice (some ⟨b, o, none⟩) l.length c ∧ l.length ≤ c ∧ b < W.heap.size ∧ Lie W b o l := by
  rcases h with ⟨h, _⟩ | ⟨_, h⟩
  · exact absurd h hl
  · exact h

set_option maxRecDepth 100000 in
set_option maxHeartbeats 4000000 in
theorem Split_any (v : Value) (l : List Str) (s : Str) (w : World) (hv : ArgS w v l) (hs0 : s.length ≤ maxLen) (hT : Tab w) :
    Calls Tryd.prog 11 #[v, .string ⟨s.toArray⟩] w fun e w' => e = .returned (.bool true) ∧ Below w.heap.size w w' := by
  have c1 := Lib.hid (sane_any w hT)
  have c2 := Lib.hid (fun w' (B : Below w.heap.size w w') => few_any v l 40 w' (hv.below B) (by omega))
  obtain ⟨a, c, rfl, hlen, _, _⟩ := hv
  have hT2 := Lib.hid hT
  clear hT
  have hL1 := fewS_len l 40
  have hL2 := fewS_small l 40
  generalize fewS l 40 = L at *
  have hN : L.length ≤ 40 := by omega
  clear hL1 hlen
  -- the cut
  have hcut := ext_take s (min s.length 60)
  have hcut2 : s.take (min s.length 60) = s.take 60 := by rw [List.take_eq_take_iff]; omega
  rw [hcut2] at hcut
  have hS : (s.take 60).length ≤ 60 := by simp; omega
  obtain ⟨m, hm2, m1, m2⟩ : ∃ m, Hid (m = min s.length 60) ∧ m ≤ 60 ∧ m ≤ s.length := ⟨_, rfl, by omega, by omega⟩
  have r2 : ∀ ts ty w, (Builtin.min_ ts ty #[.int .i64 (s.length : Int), .int .i64 60]).run Tryd.prog w = .ok (.int .i64 (m : Int)) w := fun ts ty w => by rw [hm2.out]; exact min_run _ 60 _ _ _ _ rfl
  rw [← hm2.out] at hcut
  generalize s.take 60 = S at *
  clear hcut2
  have hs : s.length ≤ 9223372036854775807 := hs0
  clear hs0
  have i2 : (0 : Int) ≤ (m : Int) := by omega
  have i3 : (m : Int) ≤ (s.length : Int) := by omega
  go_enter Tryd.func11, Tryd.ntmps11
  go_wp2_with fail
  refine c1.out.mono ?_
  rintro e w1 ⟨rfl, B1⟩
  go_wp2_with fail
  refine (c2.out _ B1).mono ?_
  rintro e w2 ⟨v0, rfl, o0, b2⟩
  have B2 := B1.trans (b2.mono B1.size)
  have s0 := own_SL o0
  clear o0 b2 B1
  obtain ⟨a0, k0, rfl⟩ := s0.shape
  obtain ⟨v1, w3, r3, o3, b3⟩ := copy_run w2 _ L s0 (by omega)
  have B3 := B2.trans (b3.mono B2.size)
  obtain ⟨v2, w4, r4, o4, b4⟩ := snoc_run w3 w2.heap.size v1 L ⟨S.toArray⟩ o3 b3.size (by omega)
  have B4 := b4 _ _ B3 B2.size B3.size
  have b4 := b4 _ _ b3 (Nat.le_refl _) b3.size
  have s4 := s0.below b4
  have s5 : SL w4 v2 (L ++ [S]) := own_SL o4
  clear o3 o4 b3 b4 s0
  obtain ⟨M, hM⟩ : ∃ M, Hid (M = L ++ [S]) := ⟨_, rfl⟩
  rw [← hM.out] at s5
  have hMl : M.length = L.length + 1 := by rw [hM.out]; simp
  have hMt : Hid (M.take L.length = L) := by unfold Hid; rw [hM.out]; simp
  have hMu : ∀ u ∈ M, List.length u ≤ 1000 := fun u hu => by
    rw [hM.out] at hu
    rcases List.mem_append.1 hu with h | h
    · have := hL2 u h; omega
    · rw [List.mem_singleton.1 h]; omega
  have hLu : ∀ u ∈ L, List.length u ≤ 1000 := fun u hu => by have := hL2 u hu; omega
  have d5 := Extension_any v2 M L.length w4 s5 hMu (by omega) (by omega) (hT2.out.below B4)
  have sx := extS_small M L.length (by omega) (by omega)
  have sd := extS_dig M L.length
  have ve := vere_ok M L.length (by omega)
  rw [hMt.out] at ve
  have j0 := rootS_len L
  have j1 := rootS_len M
  generalize extS M L.length = X at *
  have xu : Hid (∀ u ∈ X, List.length u ≤ 1000) := fun u hu => by have := sd u hu; omega
  obtain ⟨a2, k2, rfl⟩ := s5.shape
  clear sd
  obtain ⟨K, hK, hK1⟩ : ∃ K, Hid (K = L.length + 1) ∧ K ≤ 41 := ⟨_, rfl, by omega⟩
  rw [← hK.out] at hMl
  rw [hMl] at d5 r4 s5 ve
  have d5 := Lib.hid d5
  have hMu := Lib.hid hMu
  have hLu := Lib.hid hLu
  have s4 := Lib.hid s4
  have s5 := Lib.hid s5
  rename_i q1 q2 q3 q4 q5
  clear q1 q2 q3 q4 q5 hL2 B2 B3
  go_wp2_with (at_builtin; first | (refine wpList_append_run rfl (.tmp 18) (.tmp 19) 26 rfl (.slice (some ⟨w2.heap.size, 0, none⟩) 0 0) (.slice a0 L.length k0) rfl rfl v1 w3 r3 ?_) | (refine wpList_append_run rfl (.tmp 20) (.tmp 22) 26 rfl v1 (.slice (some ⟨w3.heap.size, 0, none⟩) 1 1) rfl rfl (.slice a2 K k2) w4 r4 ?_))
  refine d5.out.mono ?_
  rintro e w5 ⟨v5, rfl, o5, b5⟩
  have s6 := own_SL o5
  have B5 := B4.trans (b5.mono B4.size)
  have s4 := s4.out.below b5
  have s5 := s5.out.below b5
  have hT5 := hT2.out.below B5
  clear o5 b5 d5 B4
  obtain ⟨a5, k5, rfl⟩ := s6.shape
  have fin : ∀ w', Below w5.heap.size w5 w' → Below w.heap.size w w' := fun w' B => B5.trans (B.mono B5.size)
  have kR0 := fun w' (B : Below w5.heap.size w5 w') => Root_any L.length L _ w' (Nat.le_refl _) hLu.out (by omega) (hT5.below B) (s4.below B)
  have kR1 := fun w' (B : Below w5.heap.size w5 w') => Root_any M.length M _ w' (Nat.le_refl _) hMu.out (by omega) (hT5.below B) (s5.below B)
  have kV := fun w' (B : Below w5.heap.size w5 w') => VerifyExtension_any (rootS L) L.length (rootS M) K X _ w' (by omega) (by omega) (by omega) (by omega) (by omega) xu.out (hT5.below B) (s6.below B)
  rw [ve] at kV
  by_cases h0 : L.length = 0
  · have hL0 : L = [] := List.length_eq_zero_iff.1 h0
    have kL := fun w' (B : Below w5.heap.size w5 w') => Leaf_any S w' (by omega) (hT5.below B)
    have kS := fun w' (B : Below w5.heap.size w5 w') => Sum_any [] w' (by simp) (hT5.below B)
    have hM0 : M = [S] := by rw [hM.out, hL0]; rfl
    have e1 : rootS M = leafH sha S := by rw [hM0]; rfl
    have e2 : rootS L = sha [] := by rw [hL0]; rfl
    rw [e1] at kR1 kV
    rw [e2] at kR0 kV
    rw [h0] at kR0 kV
    clear e1 e2 hM0 hL0 j0 j1
    generalize leafH sha S = RL at *
    generalize sha [] = R0 at *
    generalize X.length = Y at *
    have fin := Lib.hid fin
    have kR0 := Lib.hid kR0
    have kR1 := Lib.hid kR1
    have kV := Lib.hid kV
    have kL := Lib.hid kL
    have kS := Lib.hid kS
    have bb := Below.refl w5.heap.size w5
    clear ve hMl hN
    go_wp2_with fail
    refine (kR0.out _ bb).mono ?_
    rintro e w6 ⟨rfl, b⟩
    have bb := bb.trans (b.mono bb.size)
    clear b
    go_wp2_with fail
    refine (kR1.out _ bb).mono ?_
    rintro e w7 ⟨rfl, b⟩
    have bb := bb.trans (b.mono bb.size)
    clear b
    go_wp2_with fail
    refine (kV.out _ bb).mono ?_
    rintro e w8 ⟨rfl, b⟩
    have bb := bb.trans (b.mono bb.size)
    clear b
    go_wp2_with fail
    refine (kR1.out _ bb).mono ?_
    rintro e w9 ⟨rfl, b⟩
    have bb := bb.trans (b.mono bb.size)
    clear b
    go_wp2_with fail
    refine (kL.out _ bb).mono ?_
    rintro e w10 ⟨rfl, b⟩
    have bb := bb.trans (b.mono bb.size)
    clear b
    go_wp2_with fail
    refine (kR0.out _ bb).mono ?_
    rintro e w11 ⟨rfl, b⟩
    have bb := bb.trans (b.mono bb.size)
    clear b
    go_wp2_with fail
    refine (kS.out _ bb).mono ?_
    rintro e w12 ⟨rfl, b⟩
    have bb := bb.trans (b.mono bb.size)
    clear b
    go_wp2_with fail
    go_ret
    exact ⟨rfl, fin.out _ bb⟩
  · have h1 : 1 ≤ L.length := by omega
    have h2 : ¬ (L.length : Int) = 0 := by omega
    have hK2 : 2 ≤ K := by have := hK.out; omega
    have k1 := lf_lt K hK2
    have k2' := lf_pos K hK2
    have hM1 : M ≠ [] := fun e => by rw [e] at hMl; simp at hMl; omega
    obtain ⟨b2, o2, c2', e2, q1, q2, q3⟩ := s5.own hM1
    rw [hMl] at e2 q1
    obtain ⟨e3, e4⟩ : a2 = some ⟨b2, o2, none⟩ ∧ k2 = c2' := by simpa using e2
    subst e3 e4
    have kL := Lib.hid (fun w' => left_any K w' hK2 (by omega))
    have kT := fun w' (B : Below w5.heap.size w5 w') => Root_any M.length (M.take (lf K)) _ w' (by simp; omega) (fun u h => hMu.out u (List.mem_of_mem_take h)) (by simp; omega) (hT5.below B) ((SL.take (c := k2) q2 (by omega) q3 (lf K) (by omega)).below B)
    have kD := fun w' (B : Below w5.heap.size w5 w') => Root_any M.length (M.drop (lf K)) _ w' (by simp) (fun u h => hMu.out u (List.mem_of_mem_drop h)) (by simp; omega) (hT5.below B) ((SL.drop (c := k2) q2 (by omega) q3 (lf K) (by omega)).below B)
    have sp := rootS_split M (by omega)
    rw [hMl] at kD sp
    have kN := fun w' (B : Below w5.heap.size w5 w') => Node_any (rootS (M.take (lf K))) (rootS (M.drop (lf K))) w' (by rw [rootS_len]; omega) (by rw [rootS_len]; omega) (hT5.below B)
    rw [← sp] at kN
    generalize rootS (M.take (lf K)) = RT at *
    generalize rootS (M.drop (lf K)) = RD at *
    generalize rootS M = RM at *
    generalize rootS L = R0 at *
    generalize lf K = k at *
    generalize X.length = Y at *
    have i4 : (0 : Int) ≤ (k : Int) := by omega
    have i5 : (k : Int) ≤ (K : Int) := by omega
    have i6 : (k : Int) ≤ (k2 : Int) := by omega
    have i7 : (K : Int) ≤ (k2 : Int) := by omega
    have i8 : ¬ k2 = k := by omega
    have fin := Lib.hid fin
    have kR0 := Lib.hid kR0
    have kR1 := Lib.hid kR1
    have kV := Lib.hid kV
    have kT := Lib.hid kT
    have kD := Lib.hid kD
    have kN := Lib.hid kN
    have bb := Below.refl w5.heap.size w5
    clear ve hMl hN sp h0 q1 q2 q3
    go_wp2_with fail
    refine (kR0.out _ bb).mono ?_
    rintro e w6 ⟨rfl, b⟩
    have bb := bb.trans (b.mono bb.size)
    clear b
    go_wp2_with fail
    refine (kR1.out _ bb).mono ?_
    rintro e w7 ⟨rfl, b⟩
    have bb := bb.trans (b.mono bb.size)
    clear b
    go_wp2_with fail
    refine (kV.out _ bb).mono ?_
    rintro e w8 ⟨rfl, b⟩
    have bb := bb.trans (b.mono bb.size)
    clear b
    go_wp2_with fail
    refine (kL.out _).mono ?_
    rintro e w9 ⟨rfl, rfl⟩
    go_wp2_with fail
    go_region_held3 (fun w' => Below w5.heap.size w5 w')
      (first | exact (Below.trans bb (Below.refl _ _).drew.mono bb.size) | exact bb.drew | go_keep | exact Below.trans (by assumption) (Below.mono hb (Below.size (by assumption))))
      (first | (go_at_call 27; first | ((with_reducible refine (kR1.out _ (by assumption)).mono ?_); rintro e w2 ⟨rfl, hb⟩) | ((with_reducible refine (kT.out _ (by assumption)).mono ?_); rintro e w2 ⟨rfl, hb⟩) | ((with_reducible refine (kD.out _ (by assumption)).mono ?_); rintro e w2 ⟨rfl, hb⟩)) | (go_at_call 17; ((with_reducible refine (kN.out _ (by assumption)).mono ?_); rintro e w2 ⟨rfl, hb⟩)))
    all_goals
      go_wp2_with fail
      go_ret
      exact ⟨rfl, fin.out _ (by assumption)⟩
end Go.Proofs.YthdfadlniacdcaaDoor
