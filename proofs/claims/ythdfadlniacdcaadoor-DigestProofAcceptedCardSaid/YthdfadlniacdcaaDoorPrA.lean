import Derived.Test.YthdfadlniacdcaaDoorSpl
import Derived.Test.YthdfadlniacdcaaDoorStp
namespace Go.Proofs.YthdfadlniacdcaaDoor
open Go.RowKit
theorem getD_at (L : List Str) (k : Nat) (h : k < L.length) : L.getD k [] = L[k] := by rw [List.getD_eq_getElem?_getD, List.getElem?_eq_getElem h]; rfl

set_option maxRecDepth 100000 in
set_option maxHeartbeats 4000000 in
theorem ProofAccepted_any (v : Value) (l : List Str) (i : Int) (w : World) (hv : ArgS w v l) (hi1 : -9223372036854775808 ≤ i) (hi2 : i ≤ 9223372036854775807) (hT : Tab w) :
    Calls Tryd.prog 6 #[v, .int .i64 i] w fun e w' => e = .returned (.bool true) ∧ Below w.heap.size w w' := by
  have c1 := Lib.hid (sane_any w hT)
  have c2 := Lib.hid (fun w' (B : Below w.heap.size w w') => few_any v l 40 w' (hv.below B) (by omega))
  obtain ⟨a, c, rfl, hlen, _, _⟩ := hv
  have hT2 := Lib.hid hT
  clear hT
  have hL1 := fewS_len l 40
  have hL2 := fewS_small l 40
  generalize fewS l 40 = L at *
  have hN : L.length ≤ 40 := by omega
  have hLu := Lib.hid (show ∀ u ∈ L, List.length u ≤ 1000 from fun u hu => by have := hL2 u hu; omega)
  clear hL1 hlen hL2
  go_enter Tryd.func6, Tryd.ntmps6
  go_wp2_with fail
  refine c1.out.mono ?_
  rintro e w1 ⟨rfl, B1⟩
  go_wp2_with fail
  refine (c2.out _ B1).mono ?_
  rintro e w2 ⟨v0, rfl, o0, b2⟩
  have B2 := B1.trans (b2.mono B1.size)
  have s0 := own_SL o0
  have hT3 := hT2.out.below B2
  clear o0 b2 B1
  obtain ⟨a0, k0, rfl⟩ := s0.shape
  have kR := Root_any L.length L _ w2 (Nat.le_refl _) hLu.out (by omega) hT3 s0
  have j0 := rootS_len L
  have hb1 := Lib.hid (fun w' => binary_any L.length w' (by omega))
  have kP := Lib.hid (fun (k : Nat) (hk : k < L.length) w' (B : Below w2.heap.size w2 w') => Proof_any _ L k w' (s0.below B) hLu.out (by omega) hk (hT3.below B))
  have kV := Lib.hid (fun (k : Nat) (hk : k < L.length) (p : List Str) (z : Value) w' (B : Below w2.heap.size w2 w') (hp : p.length ≤ 1000) (hu : ∀ u ∈ p, List.length u ≤ 1000) (hz : SL w' z p) =>
    Verify_any (rootS L) L.length k (L.getD k []) p z w' (by omega) (by omega) (by omega) (by omega) (by rw [getD_at L k hk]; exact hLu.out _ (List.getElem_mem hk)) hp hu (hT3.below B) hz)
  have kO := Lib.hid (fun (h : i < 0 ∨ (L.length : Int) ≤ i) w' (B : Below w2.heap.size w2 w') => Verify_any (rootS L) L.length i [] [] (.slice none 0 0) w' (by omega) (by omega) (by omega) (by omega) (by simp) (by simp) (by simp) (hT3.below B) (.inl ⟨rfl, _, _, rfl⟩))
  have kB := Lib.hid (fun (h : i < 0 ∨ (L.length : Int) ≤ i) w' (B : Below w2.heap.size w2 w') => Proof_bad _ L i w' (s0.below B) (by omega) hi1 hi2 h)
  have ok := Lib.hid (fun (k : Nat) (hk : k < L.length) => ver_ok L k (L.getD k []) hk (by rw [getD_at L k hk]; exact List.getElem?_eq_getElem hk))
  have kC := Lib.hid (fun (k : Nat) (hk : k < L.length) w' (B : Below w2.heap.size w2 w') => (show ∃ b o, a0 = some ⟨b, o, none⟩ ∧ w'.cell? ⟨b, o + k, none⟩ = some (.string ⟨(L.getD k []).toArray⟩) ∧ b < w2.heap.size ∧ L.length ≤ k0 from by
    obtain ⟨b, o, c', e, h1, h2, h3⟩ := s0.own (fun e => by rw [e] at hk; simp at hk)
    obtain ⟨e3, e4⟩ : a0 = some ⟨b, o, none⟩ ∧ k0 = c' := by simpa using e
    refine ⟨b, o, e3, ?_, h2, by omega⟩
    rw [B.cell (p := ⟨b, o + k, none⟩) h2, getD_at L k hk]
    exact h3 k _ (List.getElem?_eq_getElem hk)))
  have sh := Lib.hid (fun (k : Nat) (hk : k < L.length) => prfS_short L k hk)
  have sm := Lib.hid (fun (k : Nat) (hk : k < L.length) => (show (prfS L k).length ≤ 10 from prf_small (L.length + 1) L k (by omega) hk (by omega)))
  have dg := Lib.hid (fun (k : Nat) => (show ∀ u ∈ prfS L k, List.length u ≤ 1000 from fun u hu => by have := prfS_dig L k u hu; omega))
  have fin := Lib.hid (fun w' (B : Below w2.heap.size w2 w') => B2.trans (B.mono B2.size))
  have lo := Lib.hid (fun (k : Nat) (hk : k < L.length) => ver_longer L k (rootS L) (L.getD k []) (rootS L) hk)
  have so := Lib.hid (fun (k : Nat) (hk : k < L.length) => ver_shorter L k (rootS L) (L.getD k []) hk)
  have ou := Lib.hid (fun (h : i < 0 ∨ (L.length : Int) ≤ i) => ver_out (rootS L) L.length i [] [] h)
  have kR2 := Lib.hid kR
  clear kR s0 hLu c1 c2 B2 hT3
  generalize rootS L = R at *
  obtain ⟨N, hNe⟩ : ∃ N, Hid (N = L.length) := ⟨_, rfl⟩
  simp only [← hNe.out] at hN hb1 kP kV kO kB ok kC sh sm lo so ou kR2 ⊢
  go_wp2_with fail
  refine kR2.out.mono ?_
  rintro e w3 ⟨rfl, b3⟩
  clear kR2
  go_wp2_with fail
  go_loopw [7] (fun iv wr => ∃ k : Nat, k ≤ N ∧ iv = .int .i64 k ∧ Below w2.heap.size w2 wr) (fun iv _ => N - (intOf iv).toNat)
  case atStart => exact ⟨0, by omega, rfl, b3⟩
  case round =>
    obtain ⟨k, hk, rfl, B⟩ := hrel
    by_cases hlt : k < N
    · have q1 := kP.out k hlt wr B
      have q2 := Lib.hid (kC.out k hlt)
      have q3 := Lib.hid (kV.out k hlt (prfS L k))
      have q4 := ok.out k hlt
      have q5 := sh.out k hlt
      have q6 := sm.out k hlt
      have q7 := Lib.hid (dg.out k)
      rw [q4] at q3
      clear q4
      generalize prfS L k = P at *
      generalize L.getD k [] = u at *
      generalize bd N = D at *
      go_wp2_with fail
      refine q1.mono ?_
      rintro e w4 ⟨v5, rfl, o5, b5⟩
      have s5 := own_SL o5
      have B4 := B.trans (b5.mono B.size)
      clear o5 b5
      obtain ⟨a5, k5, rfl⟩ := s5.shape
      obtain ⟨b, o, rfl, hc, _, hcap⟩ := q2.out w4 B4
      have q8 := Lib.hid (q3.out _ w4 B4 (by omega) q7.out s5)
      have i0 : (0 : Int) ≤ (k : Int) := by omega
      have i1 : (k : Int) < (N : Int) := by omega
      have i4 : ¬ (D : Int) < (P.length : Int) := by omega
      clear s5 q2 q3 q7
      generalize P.length = Y at *
      go_wp2_with fail
      refine (hb1.out _).mono ?_
      rintro e w' ⟨rfl, rfl⟩
      go_wp2_with fail
      refine q8.out.mono ?_
      rintro e w5 ⟨rfl, b5⟩
      go_wp2_with fail
      go_roundw
      case rel => exact ⟨k + 1, by omega, by go_num, B4.trans (b5.mono B4.size)⟩
      case measure => simp [intOf]; omega
    · obtain rfl : k = N := by omega
      have q1 := kP.out
      by_cases hin : 0 ≤ i ∧ i < (k : Int)
      · obtain ⟨j, rfl⟩ := Int.eq_ofNat_of_zero_le hin.1
        have hj : j < k := by omega
        have q1 := kP.out j hj wr B
        have q2 := Lib.hid (kC.out j hj)
        have q3 := Lib.hid (kV.out j hj)
        have q6 := sm.out j hj
        have q7 := Lib.hid (dg.out j)
        have q8 := Lib.hid (lo.out j hj)
        have q9 := Lib.hid (so.out j hj)
        generalize prfS L j = P at *
        generalize L.getD j [] = u at *
        go_wp2_with fail
        refine q1.mono ?_
        rintro e w4 ⟨v5, rfl, o5, b5⟩
        have s5 := own_SL o5
        have B4 := B.trans (b5.mono B.size)
        clear o5 b5
        obtain ⟨a5, k5, rfl⟩ := s5.shape
        obtain ⟨b, o, rfl, hc, hb, hcap⟩ := q2.out w4 B4
        have i0 : (0 : Int) ≤ (j : Int) := by omega
        have i1 : (j : Int) < (k : Int) := by omega
        have hPR := Lib.hid (show ∀ x ∈ P ++ [R], List.length x ≤ 1000 from fun x hx => by
          rcases List.mem_append.1 hx with h | h
          · exact q7.out x h
          · rw [List.mem_singleton.1 h]; omega)
        have hx := Lib.hid (fun z w' (B : Below w4.heap.size w4 w') hz => q3.out (P ++ [R]) z w' (B4.trans (B.mono B4.size)) (by simp; omega) hPR.out hz)
        rw [q8.out] at hx
        have z4 := B4.size
        have hb4 : b < w4.heap.size := by omega
        have fin2 := Lib.hid (fun w' (B : Below w4.heap.size w4 w') => fin.out w' (B4.trans (B.mono B4.size)))
        by_cases hp : P = []
        · have hY : P.length = 0 := by rw [hp]; rfl
          have hy1 : decide ((0 : Int) < (P.length : Int)) = false := by rw [decide_eq_false_iff_not]; omega
          have hy2 : decide (0 < P.length) = false := by rw [decide_eq_false_iff_not]; omega
          clear hp hY
          go_wp2_with fail
          go_region_held3 (fun w' => w'.cell? ⟨b, o + j, none⟩ = some (.string ⟨u.toArray⟩))
            (first | go_keep | (rw [hg.cell_far _ (by simp; omega) (by simp; omega)]; assumption) | (rw [hg7.cell_far _ (by simp; omega) (Ne.symm e6)]; assumption) | (rw [b8.cell (p := ⟨b, o + j, none⟩) (by have := B7.size; simp; omega)]; assumption))
            (first
              | (refine step_copy rfl (.tmp 105) (.tmp 106) rfl _ w4.heap.size _ P rfl rfl (World.ownsRow_made _ #[] 0 (by simp) (Nat.zero_le _) rfl) (s5.below ((Below.refl _ w4).drew.alloc (by simp) _)) (by omega) (by simp) ?_; intro v6 w6 o6 hg; have B6 : Below w4.heap.size w4 w6 := ((Below.refl w4.heap.size w4).drew.alloc (Nat.le_refl _) _).grown hg (by simp <;> omega) (fun k hk => by simp at hk; omega); have e6 : v6.ownBlock ≠ some b := (fun e => by have := (o6.lt b e).1; omega); have z6 : w4.heap.size + 1 ≤ w6.heap.size := by have := hg.size; simpa using this)
              | (refine step_copy rfl (.tmp 105) (.tmp 106) rfl w4.heap.size w4.heap.size _ P rfl rfl ((World.ownsRow_made w4.drew #[] 0 (by simp) (Nat.zero_le _) rfl).alloc _) (s5.below (((Below.refl _ w4).drew.alloc (by simp) _).alloc (by simp) _)) (by omega) (by simp; omega) ?_; intro v6 w6 o6 hg; have B6 : Below w4.heap.size w4 w6 := (((Below.refl w4.heap.size w4).drew.alloc (Nat.le_refl _) _).alloc (by simp) _).grown hg (by simp <;> omega) (fun k hk => by simp at hk; omega); have e6 : v6.ownBlock ≠ some b := (fun e => by have := (o6.lt b e).1; omega); have z6 : w4.heap.size + 2 ≤ w6.heap.size := (by have := hg.size; simpa using this); have hcR : w6.cell? ⟨w4.heap.size + 1, 0, none⟩ = some (.string ⟨R.toArray⟩) := ((hg.cell_far _ (by simp) (by simp)).trans (show ((w4.alloc (.cells #[] 9)).alloc (.cells #[.string ⟨R.toArray⟩] 9)).cell? ⟨w4.heap.size + 1, 0, none⟩ = some (.string ⟨R.toArray⟩) from (World.cell?_alloc_at (w := w4.alloc (.cells #[] 9)) _ _ (w4.heap.size + 1) 0 (by simp)))))
              | (refine step_copy rfl (.tmp 105) (.tmp 106) rfl (w4.heap.size + 1) w4.heap.size _ P rfl rfl (by have := (World.ownsRow_made (base := w4.heap.size) (e := 9) (size := 1) (w := w4.alloc (.cells #[.string ⟨R.toArray⟩] 9)) #[] 0 (by simp) (Nat.zero_le _) rfl).drew; simpa using this) (s5.below (((Below.refl _ w4).drew.alloc (by simp) _).alloc (by simp) _)) (by omega) (by simp; omega) ?_; intro v6 w6 o6 hg; have B6 : Below w4.heap.size w4 w6 := (((Below.refl w4.heap.size w4).drew.alloc (Nat.le_refl _) _).alloc (by simp) _).grown hg (by simp <;> omega) (fun k hk => by simp at hk; omega); have e6 : v6.ownBlock ≠ some b := (fun e => by have := (o6.lt b e).1; omega); have z6 : w4.heap.size + 2 ≤ w6.heap.size := (by have := hg.size; simpa using this); have hcR : w6.cell? ⟨w4.heap.size, 0, none⟩ = some (.string ⟨R.toArray⟩) := ((hg.cell_far _ (by simp; omega) (by simp)).trans (show ((w4.alloc (.cells #[.string ⟨R.toArray⟩] 9)).alloc (.cells #[] 9)).cell? ⟨w4.heap.size, 0, none⟩ = some (.string ⟨R.toArray⟩) from (World.cell?_alloc_past (w := w4.alloc (.cells #[.string ⟨R.toArray⟩] 9)) _ w4.heap.size 0 (by simp)).trans (World.cell?_alloc_at (w := w4) _ _ w4.heap.size 0 rfl))))
              | (refine step_snoc rfl (.tmp 107) (.tmp 109) rfl _ w4.heap.size v6 P R rfl rfl o6 hcR (by omega) (by omega) ?_; intro g cap w7 o7 hg7; have B7 : Below w4.heap.size w4 w7 := B6.grown hg7 (by have := B6.size; simp; omega) (fun k hk => by have := (o6.lt k hk).1; omega))
              | (refine step_snoc rfl (.tmp 107) (.tmp 109) rfl w6.heap.size w4.heap.size v6 P R rfl rfl (o6.alloc _) (by rw [World.cell?_alloc_at _ _ _ _ rfl]; rfl) (by omega) (by simp; omega) ?_; intro g cap w7 o7 hg7; have B7 : Below w4.heap.size w4 w7 := (B6.alloc B6.size _).grown hg7 (by have := B6.size; simp; omega) (fun k hk => by have := (o6.lt k hk).1; omega))
              | (go_at_call 29; (with_reducible refine (hx.out _ _ B7 (own_SL o7)).mono ?_); rintro e w8 ⟨rfl, b8⟩))
          all_goals
            have B8 := B7.trans (b8.mono B7.size)
            have hc8 : w8.cell? ⟨b, o + j, none⟩ = some (.string ⟨u.toArray⟩) := by assumption
            go_wp2_with fail
            go_quiet (fail)
            all_goals
              go_wp2_with fail
              go_ret
              exact ⟨rfl, fin2.out _ (below_drewN B8 _)⟩
        · have hY : 0 < P.length := Nat.pos_of_ne_zero (fun e => hp (List.length_eq_zero_iff.1 e))
          obtain ⟨b5', of5, c5, e5, q10, q11, q12⟩ := s5.own hp
          obtain ⟨e51, e52⟩ : a5 = some ⟨b5', of5, none⟩ ∧ k5 = c5 := by simpa using e5
          subst e51 e52
          have hy1 : decide ((0 : Int) < (P.length : Int)) = true := by rw [decide_eq_true_iff]; omega
          have sd : SL w4 (.slice (if k5 = 1 then some ⟨b5', of5, none⟩ else some ⟨b5', of5 + 1, none⟩) (P.length - 1) (k5 - 1)) (P.drop 1) := by
            by_cases h1 : P.length = 1
            · exact .inl ⟨List.drop_eq_nil_iff.2 (by omega), _, _, by rw [h1]⟩
            · rw [if_neg (by omega)]
              exact SL.drop (c := k5) q11 q10 q12 1 (by omega)
          have hy := Lib.hid (fun w' (B : Below w4.heap.size w4 w') => q3.out (P.drop 1) _ w' (B4.trans (B.mono B4.size)) (by simp; omega) (fun x hx => q7.out x (List.mem_of_mem_drop hx)) (sd.below B))
          rw [q9.out hY] at hy
          have i6 : (1 : Int) ≤ (P.length : Int) := by omega
          have i7 : (P.length : Int) ≤ (k5 : Int) := by omega
          have i8 : (1 : Int) ≤ (k5 : Int) := by omega
          go_wp2_with fail
          go_region_held3 (fun w' => w'.cell? ⟨b, o + j, none⟩ = some (.string ⟨u.toArray⟩))
            (first | go_keep | (rw [hg.cell_far _ (by simp; omega) (by simp; omega)]; assumption) | (rw [hg7.cell_far _ (by simp; omega) (Ne.symm e6)]; assumption) | (rw [b8.cell (p := ⟨b, o + j, none⟩) (by have := B7.size; simp; omega)]; assumption))
            (first
              | (refine step_copy rfl (.tmp 105) (.tmp 106) rfl _ w4.heap.size _ P rfl rfl (World.ownsRow_made _ #[] 0 (by simp) (Nat.zero_le _) rfl) (s5.below ((Below.refl _ w4).drew.alloc (by simp) _)) (by omega) (by simp) ?_; intro v6 w6 o6 hg; have B6 : Below w4.heap.size w4 w6 := ((Below.refl w4.heap.size w4).drew.alloc (Nat.le_refl _) _).grown hg (by simp <;> omega) (fun k hk => by simp at hk; omega); have e6 : v6.ownBlock ≠ some b := (fun e => by have := (o6.lt b e).1; omega); have z6 : w4.heap.size + 1 ≤ w6.heap.size := by have := hg.size; simpa using this)
              | (refine step_copy rfl (.tmp 105) (.tmp 106) rfl w4.heap.size w4.heap.size _ P rfl rfl ((World.ownsRow_made w4.drew #[] 0 (by simp) (Nat.zero_le _) rfl).alloc _) (s5.below (((Below.refl _ w4).drew.alloc (by simp) _).alloc (by simp) _)) (by omega) (by simp; omega) ?_; intro v6 w6 o6 hg; have B6 : Below w4.heap.size w4 w6 := (((Below.refl w4.heap.size w4).drew.alloc (Nat.le_refl _) _).alloc (by simp) _).grown hg (by simp <;> omega) (fun k hk => by simp at hk; omega); have e6 : v6.ownBlock ≠ some b := (fun e => by have := (o6.lt b e).1; omega); have z6 : w4.heap.size + 2 ≤ w6.heap.size := (by have := hg.size; simpa using this); have hcR : w6.cell? ⟨w4.heap.size + 1, 0, none⟩ = some (.string ⟨R.toArray⟩) := ((hg.cell_far _ (by simp) (by simp)).trans (show ((w4.alloc (.cells #[] 9)).alloc (.cells #[.string ⟨R.toArray⟩] 9)).cell? ⟨w4.heap.size + 1, 0, none⟩ = some (.string ⟨R.toArray⟩) from (World.cell?_alloc_at (w := w4.alloc (.cells #[] 9)) _ _ (w4.heap.size + 1) 0 (by simp)))))
              | (refine step_copy rfl (.tmp 105) (.tmp 106) rfl (w4.heap.size + 1) w4.heap.size _ P rfl rfl (by have := (World.ownsRow_made (base := w4.heap.size) (e := 9) (size := 1) (w := w4.alloc (.cells #[.string ⟨R.toArray⟩] 9)) #[] 0 (by simp) (Nat.zero_le _) rfl).drew; simpa using this) (s5.below (((Below.refl _ w4).drew.alloc (by simp) _).alloc (by simp) _)) (by omega) (by simp; omega) ?_; intro v6 w6 o6 hg; have B6 : Below w4.heap.size w4 w6 := (((Below.refl w4.heap.size w4).drew.alloc (Nat.le_refl _) _).alloc (by simp) _).grown hg (by simp <;> omega) (fun k hk => by simp at hk; omega); have e6 : v6.ownBlock ≠ some b := (fun e => by have := (o6.lt b e).1; omega); have z6 : w4.heap.size + 2 ≤ w6.heap.size := (by have := hg.size; simpa using this); have hcR : w6.cell? ⟨w4.heap.size, 0, none⟩ = some (.string ⟨R.toArray⟩) := ((hg.cell_far _ (by simp; omega) (by simp)).trans (show ((w4.alloc (.cells #[.string ⟨R.toArray⟩] 9)).alloc (.cells #[] 9)).cell? ⟨w4.heap.size, 0, none⟩ = some (.string ⟨R.toArray⟩) from (World.cell?_alloc_past (w := w4.alloc (.cells #[.string ⟨R.toArray⟩] 9)) _ w4.heap.size 0 (by simp)).trans (World.cell?_alloc_at (w := w4) _ _ w4.heap.size 0 rfl))))
              | (refine step_snoc rfl (.tmp 107) (.tmp 109) rfl _ w4.heap.size v6 P R rfl rfl o6 hcR (by omega) (by omega) ?_; intro g cap w7 o7 hg7; have B7 : Below w4.heap.size w4 w7 := B6.grown hg7 (by have := B6.size; simp; omega) (fun k hk => by have := (o6.lt k hk).1; omega))
              | (refine step_snoc rfl (.tmp 107) (.tmp 109) rfl w6.heap.size w4.heap.size v6 P R rfl rfl (o6.alloc _) (by rw [World.cell?_alloc_at _ _ _ _ rfl]; rfl) (by omega) (by simp; omega) ?_; intro g cap w7 o7 hg7; have B7 : Below w4.heap.size w4 w7 := (B6.alloc B6.size _).grown hg7 (by have := B6.size; simp; omega) (fun k hk => by have := (o6.lt k hk).1; omega))
              | (go_at_call 29; (with_reducible refine (hx.out _ _ B7 (own_SL o7)).mono ?_); rintro e w8 ⟨rfl, b8⟩))
          all_goals
            have B8 := B7.trans (b8.mono B7.size)
            have hc8 : w8.cell? ⟨b, o + j, none⟩ = some (.string ⟨u.toArray⟩) := by assumption
            have hsh0 := hy.out w8.drew B8.drew
            have hs2 : (if k5 = 1 then (some ⟨b5', of5, none⟩ : Option Addr) else some ⟨b5', of5 + 1, none⟩) = some ⟨b5', of5, none⟩ ∨ ¬ k5 = 1 := by
              by_cases hk5 : k5 = 1
              · exact .inl (if_pos hk5)
              · exact .inr hk5
            rcases hs2 with hs2 | hs2
            all_goals
              first | rw [hs2] at hsh0 | rw [if_neg hs2] at hsh0
              have hsh := Lib.hid hsh0
              clear hsh0
              go_wp2_with fail
              go_region_held3 (fun w' => w'.cell? ⟨b, o + j, none⟩ = some (.string ⟨u.toArray⟩))
                (first | go_keep | (rw [b9.cell (p := ⟨b, o + j, none⟩) (by have := B8.size; simp; omega)]; assumption))
                ((go_at_call 29; (with_reducible refine (hsh.out).mono ?_); rintro e w9 ⟨rfl, b9⟩))
              all_goals
                go_wp2_with fail
                go_ret
                exact ⟨rfl, fin2.out _ (B8.drew.trans (b9.mono B8.drew.size))⟩
      · have ho : i < 0 ∨ (k : Int) ≤ i := by omega
        have q1 := kB.out ho wr B
        have q2 := kO.out ho wr B
        rw [ou.out ho] at q2
        have q2 := Lib.hid q2
        have d1 : decide (0 ≤ i) = true → decide (i < (k : Int)) = false := by simp; omega
        go_wp2_with fail
        refine q1.mono ?_
        rintro e w' ⟨rfl, rfl⟩
        by_cases h0 : 0 ≤ i
        · have h1 : ¬ i < (k : Int) := by omega
          go_wp2_with fail
          refine q2.out.mono ?_
          rintro e w5 ⟨rfl, b5⟩
          go_wp2_with fail
          go_ret
          exact ⟨rfl, fin.out _ (B.trans (b5.mono B.size))⟩
        · go_wp2_with fail
          refine q2.out.mono ?_
          rintro e w5 ⟨rfl, b5⟩
          go_wp2_with fail
          go_ret
          exact ⟨rfl, fin.out _ (B.trans (b5.mono B.size))⟩
end Go.Proofs.YthdfadlniacdcaaDoor
