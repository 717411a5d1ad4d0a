import Derived.Test.YthdfadlniacdcaaDoorWay
import Derived.Test.YthdfadlniacdcaaDoorCol
namespace Go.Proofs.YthdfadlniacdcaaDoor
open Go.RowKit
theorem cut60 (s : Str) (hs0 : s.length ≤ maxLen) : ∃ m : Nat, m ≤ 60 ∧ m ≤ s.length ∧ s.length ≤ 9223372036854775807 ∧ (⟨s.toArray⟩ : ByteArray).extract 0 m = ⟨(s.take 60).toArray⟩ ∧
    ∀ ts ty w, (Builtin.min_ ts ty #[.int .i64 (s.length : Int), .int .i64 60]).run Tryd.prog w = .ok (.int .i64 (m : Int)) w := by
  refine ⟨min s.length 60, by omega, by omega, hs0, ?_, fun ts ty w => min_run _ 60 _ _ _ _ rfl⟩
  rw [ext_take s (min s.length 60)]
  have : s.take (min s.length 60) = s.take 60 := by rw [List.take_eq_take_iff]; omega
  rw [this]

set_option maxRecDepth 100000 in
set_option maxHeartbeats 4000000 in
theorem Binding_any (r : Str) (n i : Int) (s t : Str) (vp vq : Value) (p q : List Str) (w : World) (hn1 : -9223372036854775808 ≤ n) (hn2 : n ≤ 9223372036854775807) (hi1 : -9223372036854775808 ≤ i) (hi2 : i ≤ 9223372036854775807)
    (hs : s.length ≤ maxLen) (ht : t.length ≤ maxLen) (hp : ArgS w vp p) (hq : ArgS w vq q) (hT : Tab w) :
    Calls Tryd.prog 8 #[.string ⟨r.toArray⟩, .int .i64 n, .int .i64 i, .string ⟨s.toArray⟩, vp, .string ⟨t.toArray⟩, vq] w fun e w' => e = .returned (.bool true) ∧ Below w.heap.size w w' := by
  have c1 := Lib.hid (sane_any w hT)
  have c2 := Lib.hid (fun w' (B : Below w.heap.size w w') => few_any vp p 70 w' (hp.below B) (by omega))
  have c3 := Lib.hid (fun w' (B : Below w.heap.size w w') => few_any vq q 70 w' (hq.below B) (by omega))
  have hT2 := Lib.hid hT
  have hP1 := fewS_len p 70
  have hP2 := fewS_small p 70
  have hQ1 := fewS_len q 70
  have hQ2 := fewS_small q 70
  generalize fewS p 70 = P at *
  generalize fewS q 70 = Q at *
  have hPl : P.length ≤ 70 := by omega
  have hQl : Q.length ≤ 70 := by omega
  obtain ⟨m1, a1, a2, a3, a4, a5⟩ := cut60 s hs
  obtain ⟨m2, b1, b2, b3, b4, b5⟩ := cut60 t ht
  have hS : (s.take 60).length ≤ 60 := by simp; omega
  have hTt : (t.take 60).length ≤ 60 := by simp; omega
  generalize s.take 60 = S at *
  generalize t.take 60 = U at *
  have i2 : (0 : Int) ≤ (m1 : Int) := by omega
  have i3 : (m1 : Int) ≤ (s.length : Int) := by omega
  have i4 : (0 : Int) ≤ (m2 : Int) := by omega
  have i5 : (m2 : Int) ≤ (t.length : Int) := by omega
  have hPu := Lib.hid (show ∀ u ∈ P, List.length u ≤ 1000 from fun u hu => by have := hP2 u hu; omega)
  have hQu := Lib.hid (show ∀ u ∈ Q, List.length u ≤ 1000 from fun u hu => by have := hQ2 u hu; omega)
  -- what an accepted pair means
  have key := Lib.hid (show verS r n i S P = true → verS r n i U Q = true → S ≠ U → ∃ N I : Nat, n = N ∧ i = I ∧ I < N ∧ Coll sha (wayF sha (N + 1) N I S P).1 (wayF sha (N + 1) N I U Q).1 from fun h1 h2 h3 => by
    unfold verS valS at h1 h2
    rw [decide_eq_true_iff] at h1 h2
    obtain ⟨N, rfl⟩ := Int.eq_ofNat_of_zero_le (show 0 ≤ n by omega)
    obtain ⟨I, rfl⟩ := Int.eq_ofNat_of_zero_le h1.1
    exact ⟨N, I, rfl, rfl, by omega, binding sha sha_len (N + 1) N I S U r P Q (by omega) h3 ((digB_iff _).1 h1.2.2.1) ((digB_iff _).1 h2.2.2.1) h1.2.2.2 h2.2.2.2⟩)
  clear hT hs ht hp hq hP1 hP2 hQ1 hQ2
  go_enter Tryd.func8, Tryd.ntmps8
  go_wp2_with fail
  refine c1.out.mono ?_
  rintro e w1 ⟨rfl, B1⟩
  go_wp2_with fail
  refine (c2.out _ B1).mono ?_
  rintro e w2 ⟨v2, rfl, o2, d2⟩
  have B2 := B1.trans (d2.mono B1.size)
  have s2 := own_SL o2
  clear o2 d2
  go_wp2_with fail
  refine (c3.out _ B2).mono ?_
  rintro e w3 ⟨v3, rfl, o3, d3⟩
  have B3 := B2.trans (d3.mono B2.size)
  have s3 := own_SL o3
  have s2 := s2.below d3
  have hT3 := hT2.out.below B3
  clear o3 d3
  have k1 := Lib.hid (fun w' (B : Below w3.heap.size w3 w') => Verify_any r n i S P v2 w' hn1 hn2 hi1 hi2 (by omega) (by omega) hPu.out (hT3.below B) (s2.below B))
  have k2 := Lib.hid (fun w' (B : Below w3.heap.size w3 w') => Verify_any r n i U Q v3 w' hn1 hn2 hi1 hi2 (by omega) (by omega) hQu.out (hT3.below B) (s3.below B))
  have fin := Lib.hid (fun w' (B : Below w3.heap.size w3 w') => B3.trans (B.mono B3.size))
  have s2h := Lib.hid s2
  have s3h := Lib.hid s3
  have hT4 := Lib.hid hT3
  clear s2 s3 hT3 B3 B2 B1 c1 c2 c3
  have bb := Below.refl w3.heap.size w3
  generalize hv1 : verS r n i S P = x1 at *
  generalize hv2 : verS r n i U Q = x2 at *
  have hd : (x1 = true ∧ x2 = true ∧ (S == U) = false ∧ ∃ N I : Nat, n = N ∧ i = I ∧ I < N ∧ Coll sha (wayF sha (N + 1) N I S P).1 (wayF sha (N + 1) N I U Q).1) ∨ (x1 = false) ∨ (x1 = true ∧ x2 = false) ∨ (x1 = true ∧ x2 = true ∧ (S == U) = true) := by
    cases x1 with
    | false => exact .inr (.inl rfl)
    | true =>
      cases x2 with
      | false => exact .inr (.inr (.inl ⟨rfl, rfl⟩))
      | true =>
        by_cases e : S = U
        · exact .inr (.inr (.inr ⟨rfl, rfl, by simpa using e⟩))
        · exact .inl ⟨rfl, rfl, by simpa using e, key.out rfl rfl e⟩
  clear key hv1 hv2
  rcases hd with ⟨rfl, rfl, hne, N, I, rfl, rfl, hIN, hC⟩ | rfl | ⟨rfl, rfl⟩ | ⟨rfl, rfl, heq⟩
  · have y1 := Lib.hid (fun w' (B : Below w3.heap.size w3 w') => way_any P.length (N + 1) N I S P v2 w' (Nat.le_refl _) (by omega) (by omega) hIN (by omega) (by omega) hPu.out (by omega) (hT4.out.below B) (s2h.out.below B))
    have y2 := Lib.hid (fun w' (B : Below w3.heap.size w3 w') => way_any Q.length (N + 1) N I U Q v3 w' (Nat.le_refl _) (by omega) (by omega) hIN (by omega) (by omega) hQu.out (by omega) (hT4.out.below B) (s3h.out.below B))
    have z1 := way_small (N + 1) N I S P (by omega) hPu.out
    have z2 := way_small (N + 1) N I U Q (by omega) hQu.out
    have z3 := way_size (N + 1) N I S P
    generalize wayF sha (N + 1) N I S P = V at *
    generalize wayF sha (N + 1) N I U Q = X at *
    obtain ⟨V1, V2⟩ := V
    obtain ⟨X1, X2⟩ := X
    have kc := Lib.hid (fun va vb w' (B : Below w3.heap.size w3 w') ha hb => collide_any va vb V1 X1 w' ha hb (by have z4 : V1.length ≤ P.length + 1 := z3; omega) z1 z2 hC (hT4.out.below B))
    clear z1 z2 z3 hC
    go_wp2_with fail
    refine (k1.out _ bb).mono ?_
    rintro e w4 ⟨rfl, d⟩
    have bb := bb.trans (d.mono bb.size)
    clear d
    go_wp2_with fail
    refine (k2.out _ bb).mono ?_
    rintro e w5 ⟨rfl, d⟩
    have bb := bb.trans (d.mono bb.size)
    clear d
    go_wp2_with fail
    refine (y1.out _ bb).mono ?_
    rintro e w6 ⟨va, rfl, sa, d⟩
    have bb := bb.trans (d.mono bb.size)
    have sah := Lib.hid sa
    clear d sa
    go_wp2_with fail
    refine (y2.out _ bb).mono ?_
    rintro e w7 ⟨vb, rfl, sb, d⟩
    have sah2 := Lib.hid (sah.out.below d)
    have bb := bb.trans (d.mono bb.size)
    have sbh := Lib.hid sb
    clear d sb sah
    go_wp2_with fail
    refine (kc.out _ _ _ bb sah2.out sbh.out).mono ?_
    rintro e w8 ⟨rfl, d⟩
    go_wp2_with fail
    go_ret
    exact ⟨rfl, fin.out _ (bb.trans (d.mono bb.size))⟩
  all_goals
    clear hT4 s2h s3h hPu hQu
    go_wp2_with fail
    refine (k1.out _ bb).mono ?_
    rintro e w4 ⟨rfl, d⟩
    have bb := bb.trans (d.mono bb.size)
    clear d
    go_wp2_with fail
    refine (k2.out _ bb).mono ?_
    rintro e w5 ⟨rfl, d⟩
    have bb := bb.trans (d.mono bb.size)
    clear d
    go_wp2_with fail
    go_ret
    exact ⟨rfl, fin.out _ bb⟩
end Go.Proofs.YthdfadlniacdcaaDoor
