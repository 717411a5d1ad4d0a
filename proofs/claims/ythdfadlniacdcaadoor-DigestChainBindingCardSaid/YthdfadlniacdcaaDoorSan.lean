import Derived.Test.YthdfadlniacdcaaDoorSaf
namespace Go.Proofs.YthdfadlniacdcaaDoor
open Go.RowKit
theorem L3_SL (w : World) : SL (w.alloc (.cells #[.string ⟨#[97]⟩, .string ⟨#[98]⟩, .string ⟨#[99]⟩] 9)) (.slice (some ⟨w.heap.size, 0, none⟩) 3 3) L3 :=
  .inr ⟨by simp [L3], w.heap.size, 0, 3, rfl, by simp [L3], by simp, fun j u e => by
    rw [World.cell?_alloc_at _ _ _ _ rfl]
    match j, e with
    | 0, e => simp [L3] at e; simp [← e]
    | 1, e => simp [L3] at e; simp [← e]
    | 2, e => simp [L3] at e; simp [← e]⟩
theorem L3_Lie (w : World) : Lie (w.alloc (.cells #[.string ⟨#[97]⟩, .string ⟨#[98]⟩, .string ⟨#[99]⟩] 9)) w.heap.size 0 L3 := fun j u e => by
    rw [World.cell?_alloc_at _ _ _ _ rfl]
    match j, e with
    | 0, e => simp [L3] at e; simp [← e]
    | 1, e => simp [L3] at e; simp [← e]
    | 2, e => simp [L3] at e; simp [← e]
theorem L3_small : ∀ u ∈ L3, List.length u ≤ 1000 := by simp [L3]
theorem own_len {W : World} {base : Nat} {v : Value} {l : List Str} (h : OwnS W base v l) : ∃ a c, v = .slice a l.length c := (own_SL h).shape

set_option maxRecDepth 100000 in
set_option maxHeartbeats 4000000 in
theorem sane_any (w : World) (hT : Tab w) :
    Calls Tryd.prog 12 #[] w fun e w' => e = .returned (.bool true) ∧ Below w.heap.size w w' := by
  have B1 : Below w.heap.size w (w.alloc (.cells #[.string ⟨#[97]⟩, .string ⟨#[98]⟩, .string ⟨#[99]⟩] 9)) := (Below.refl _ w).alloc (Nat.le_refl _) _
  have all : ∀ w', Below (w.heap.size + 1) (w.alloc (.cells #[.string ⟨#[97]⟩, .string ⟨#[98]⟩, .string ⟨#[99]⟩] 9)) w' →
      Tab w' ∧ SL w' (.slice (some ⟨w.heap.size, 0, none⟩) 3 3) L3 ∧ Lie w' w.heap.size 0 L3 ∧ w.heap.size < w'.heap.size ∧ Below w.heap.size w w' := fun w' B => by
    have hz : (w.alloc (.cells #[.string ⟨#[97]⟩, .string ⟨#[98]⟩, .string ⟨#[99]⟩] 9)).heap.size = w.heap.size + 1 := by simp
    have B' : Below (w.alloc (.cells #[.string ⟨#[97]⟩, .string ⟨#[98]⟩, .string ⟨#[99]⟩] 9)).heap.size (w.alloc (.cells #[.string ⟨#[97]⟩, .string ⟨#[98]⟩, .string ⟨#[99]⟩] 9)) w' := by rw [hz]; exact B
    exact ⟨(hT.below B1).below B', (L3_SL w).below B', (L3_Lie w).below (by simp) B', by have := B'.size; simp at this; omega, B1.trans (B'.mono (by simp))⟩
  have lq : (L3 : List Str).length = 3 := rfl
  have e1 := f7
  have e2 := f8
  have e3 := f3
  have e4 := f4
  have e5 := f5
  have e6 := f6
  have r1 := rootS_len L3
  have x1 := prf_small 4 L3 2 (by decide) (by decide) (by decide)
  have xb : ∀ u ∈ prfS L3 2, List.length u ≤ 1000 := by decide +kernel
  have xc : ∀ u ∈ extS L3 1, List.length u ≤ 1000 := by decide +kernel
  have t1 : L3.take 1 = [[97]] := rfl
  have t2 : L3.take 2 = [[97], [98]] := rfl
  have x1 : (prfS L3 2).length ≤ 1000 := by rw [e1]; omega
  have x2 : (extS L3 1).length ≤ 1000 := by rw [e2]; omega
  have c1 := fun w' B => Proof_any _ L3 2 w' (all w' B).2.1 L3_small (by decide) (by decide) (all w' B).1
  have c2 := fun w' B => Extension_any _ L3 1 w' (all w' B).2.1 L3_small (by decide) (by decide) (all w' B).1
  have c3 := fun w' B => Proof_bad _ L3 3 w' (all w' B).2.1 (by decide) (by decide) (by decide) (.inr (by decide))
  have c4 := fun w' B => Root_any 3 L3 _ w' (by decide) L3_small (by decide) (all w' B).1 (all w' B).2.1
  have c5 := fun w' B => Sum_any [] w' (by simp) (all w' B).1
  have c6 := fun w' B => Sum_any [97, 98, 99] w' (by simp) (all w' B).1
  have h5 := fun w' => hex_any ⟨(sha []).toArray⟩ w' (by show (sha []).length ≤ 1000; rw [sha_len]; omega)
  have h6 := fun w' => hex_any ⟨(sha [97, 98, 99]).toArray⟩ w' (by show (sha [97, 98, 99]).length ≤ 1000; rw [sha_len]; omega)
  have q5 : (⟨(sha []).toArray⟩ : ByteArray).size = 32 := by show (sha []).length = 32; exact sha_len _
  have q6 : (⟨(sha [97, 98, 99]).toArray⟩ : ByteArray).size = 32 := by show (sha [97, 98, 99]).length = 32; exact sha_len _
  rw [q5, f1] at h5
  rw [q6, f2] at h6
  have c7 := fun w' (B : Below (w.heap.size + 1) (w.alloc (.cells #[.string ⟨#[97]⟩, .string ⟨#[98]⟩, .string ⟨#[99]⟩] 9)) w') v (h : SL w' v (prfS L3 2)) => Verify_any (rootS L3) 3 2 [99] (prfS L3 2) v w' (by decide) (by decide) (by decide) (by decide) (by decide) x1 xb (all w' B).1 h
  have c8 := fun w' (B : Below (w.heap.size + 1) (w.alloc (.cells #[.string ⟨#[97]⟩, .string ⟨#[98]⟩, .string ⟨#[99]⟩] 9)) w') v (h : SL w' v (prfS L3 2)) => Verify_any (rootS L3) 3 2 [100] (prfS L3 2) v w' (by decide) (by decide) (by decide) (by decide) (by decide) x1 xb (all w' B).1 h
  have c9 := fun w' B => Root_any 3 [[97]] (.slice (some ⟨w.heap.size, 0, none⟩) 1 3) w' (by decide) (by decide) (by decide) (all w' B).1 (SL.take (all w' B).2.2.2.1 (c := 3) (by decide) (all w' B).2.2.1 1 (by decide))
  have c10 := fun w' B => Root_any 3 [[97], [98]] (.slice (some ⟨w.heap.size, 0, none⟩) 2 3) w' (by decide) (by decide) (by decide) (all w' B).1 (SL.take (all w' B).2.2.2.1 (c := 3) (by decide) (all w' B).2.2.1 2 (by decide))
  have c11 := fun w' (B : Below (w.heap.size + 1) (w.alloc (.cells #[.string ⟨#[97]⟩, .string ⟨#[98]⟩, .string ⟨#[99]⟩] 9)) w') v (h : SL w' v (extS L3 1)) => VerifyExtension_any (rootS [[97]]) 1 (rootS L3) 3 (extS L3 1) v w' (by decide) (by decide) (by decide) (by decide) x2 xc (all w' B).1 h
  have c12 := fun w' (B : Below (w.heap.size + 1) (w.alloc (.cells #[.string ⟨#[97]⟩, .string ⟨#[98]⟩, .string ⟨#[99]⟩] 9)) w') v (h : SL w' v (extS L3 1)) => VerifyExtension_any (rootS [[97], [98]]) 1 (rootS L3) 3 (extS L3 1) v w' (by decide) (by decide) (by decide) (by decide) x2 xc (all w' B).1 h
  simp only [e3] at c7
  simp only [e4] at c8
  simp only [e5] at c11
  simp only [e6] at c12
  clear e3 e4 e5 e6 x1 x2 xb xc t1 t2 lq r1
  generalize prfS L3 2 = P at *
  generalize extS L3 1 = E at *
  generalize rootS L3 = R at *
  generalize rootS [[97]] = R1 at *
  generalize rootS [[97], [98]] = R2 at *
  generalize sha [] = D1 at *
  generalize sha [97, 98, 99] = D2 at *
  clear q5 q6 hT
  -- how a world goes on
  have go : ∀ w' w'', Below (w.heap.size + 1) (w.alloc (.cells #[.string ⟨#[97]⟩, .string ⟨#[98]⟩, .string ⟨#[99]⟩] 9)) w' → Below w'.heap.size w' w'' → Below (w.heap.size + 1) (w.alloc (.cells #[.string ⟨#[97]⟩, .string ⟨#[98]⟩, .string ⟨#[99]⟩] 9)) w'' := fun w' w'' a b => a.trans (b.mono (by have := (all w' a).2.2.2.1; omega))
  have fin := fun w' B => (all w' B).2.2.2.2
  have g1 : Below (w.heap.size + 1) (w.alloc (.cells #[.string ⟨#[97]⟩, .string ⟨#[98]⟩, .string ⟨#[99]⟩] 9)) (w.alloc (.cells #[.string ⟨#[97]⟩, .string ⟨#[98]⟩, .string ⟨#[99]⟩] 9)) := Below.refl _ _
  obtain ⟨V, hV⟩ : ∃ V, Hid (V = w.alloc (.cells #[.string ⟨#[97]⟩, .string ⟨#[98]⟩, .string ⟨#[99]⟩] 9)) := ⟨_, rfl⟩
  clear all B1
  rw [← hV.out] at g1
  simp only [← hV.out] at c1 c2 c3 c4 c5 c6 c7 c8 c9 c10 c11 c12 go fin
  have c1 := Lib.hid c1
  have c2 := Lib.hid c2
  have c3 := Lib.hid c3
  have c4 := Lib.hid c4
  have c5 := Lib.hid c5
  have c6 := Lib.hid c6
  have c7 := Lib.hid c7
  have c8 := Lib.hid c8
  have c9 := Lib.hid c9
  have c10 := Lib.hid c10
  have c11 := Lib.hid c11
  have c12 := Lib.hid c12
  have h5 := Lib.hid h5
  have h6 := Lib.hid h6
  have fin := Lib.hid fin
  have go := Lib.hid go
  have e1 := Lib.hid e1
  have e2 := Lib.hid e2
  rename_i o1 o2 o3 o4 o5 o6 o7 o8 o9 o10 o11 o12 o13 o14 o15 o16 o17 o18
  clear o1 o2 o3 o4 o5 o6 o7 o8 o9 o10 o11 o12 o13 o14 o15 o16 o17 o18
  go_enter Tryd.func12, Tryd.ntmps12
  go_wp2_with fail
  rw [← hV.out]
  refine (c1.out _ g1).mono ?_
  rintro e w2 ⟨v1, rfl, o1, b2⟩
  have g2 := go.out _ _ g1 b2
  have s1 := own_SL o1
  clear o1 b2
  obtain ⟨a1, k1, rfl⟩ := s1.shape
  rw [e1.out] at s1 ⊢
  go_wp2_with fail
  refine (c2.out _ g2).mono ?_
  rintro e w3 ⟨v2, rfl, o2, b3⟩
  have g3 := go.out _ _ g2 b3
  have s2 := own_SL o2
  have s1 := s1.below b3
  clear o2 b3
  obtain ⟨a2, k2, rfl⟩ := s2.shape
  rw [e2.out] at s2 ⊢
  go_wp2_with fail
  refine (c3.out _ g3).mono ?_
  rintro e w' ⟨rfl, rfl⟩
  go_wp2_with fail
  refine (c4.out _ g3).mono ?_
  rintro e w4 ⟨rfl, bb⟩
  have g4 := go.out _ _ g3 bb
  have s1 := s1.below bb
  have s2 := s2.below bb
  clear bb
  go_wp2_with fail
  refine (c5.out _ g4).mono ?_
  rintro e w5 ⟨rfl, bb⟩
  have g5 := go.out _ _ g4 bb
  have s1 := s1.below bb
  have s2 := s2.below bb
  clear bb
  go_wp2_with fail
  refine (h5.out _).mono ?_
  rintro e w6 ⟨rfl, bb⟩
  have g6 := go.out _ _ g5 bb
  have s1 := s1.below bb
  have s2 := s2.below bb
  clear bb
  go_wp2_with fail
  refine (c6.out _ g6).mono ?_
  rintro e w7 ⟨rfl, bb⟩
  have g7 := go.out _ _ g6 bb
  have s1 := s1.below bb
  have s2 := s2.below bb
  clear bb
  go_wp2_with fail
  refine (h6.out _).mono ?_
  rintro e w8 ⟨rfl, bb⟩
  have g8 := go.out _ _ g7 bb
  have s1 := s1.below bb
  have s2 := s2.below bb
  clear bb
  go_wp2_with fail
  refine (c7.out _ g8 _ s1).mono ?_
  rintro e w9 ⟨rfl, bb⟩
  have g9 := go.out _ _ g8 bb
  have s1 := s1.below bb
  have s2 := s2.below bb
  clear bb
  go_wp2_with fail
  refine (c8.out _ g9 _ s1).mono ?_
  rintro e w10 ⟨rfl, bb⟩
  have g10 := go.out _ _ g9 bb
  have s1 := s1.below bb
  have s2 := s2.below bb
  clear bb
  go_wp2_with fail
  refine (c9.out _ g10).mono ?_
  rintro e w11 ⟨rfl, bb⟩
  have g11 := go.out _ _ g10 bb
  have s1 := s1.below bb
  have s2 := s2.below bb
  clear bb
  go_wp2_with fail
  refine (c11.out _ g11 _ s2).mono ?_
  rintro e w12 ⟨rfl, bb⟩
  have g12 := go.out _ _ g11 bb
  have s1 := s1.below bb
  have s2 := s2.below bb
  clear bb
  go_wp2_with fail
  refine (c10.out _ g12).mono ?_
  rintro e w13 ⟨rfl, bb⟩
  have g13 := go.out _ _ g12 bb
  have s1 := s1.below bb
  have s2 := s2.below bb
  clear bb
  go_wp2_with fail
  refine (c12.out _ g13 _ s2).mono ?_
  rintro e w14 ⟨rfl, bb⟩
  have g14 := go.out _ _ g13 bb
  have s1 := s1.below bb
  have s2 := s2.below bb
  clear bb
  go_wp2_with fail
  go_ret
  exact ⟨rfl, fin.out _ g14⟩
end Go.Proofs.YthdfadlniacdcaaDoor
