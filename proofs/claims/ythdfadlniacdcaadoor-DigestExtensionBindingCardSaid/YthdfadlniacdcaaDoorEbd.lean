import Derived.Test.YthdfadlniacdcaaDoorSid
namespace Go.Proofs.YthdfadlniacdcaaDoor
open Go.RowKit
theorem ext_key (a b r : Str) (m n : Int) (P Q : List Str) (h1 : verE a m r n P = true) (h2 : verE b m r n Q = true) (h3 : a ≠ b) :
    ∃ M N : Nat, m = M ∧ n = N ∧ 1 ≤ M ∧ M ≤ N ∧ a.length = 32 ∧ b.length = 32 ∧ (∀ u ∈ P, List.length u = 32) ∧ (∀ u ∈ Q, List.length u = 32) ∧ Coll sha (sidesF sha (N + 1) a M N P true).1 (sidesF sha (N + 1) b M N Q true).1 := by
  unfold verE at h1 h2
  rw [decide_eq_true_iff] at h1 h2
  obtain ⟨M, rfl⟩ := Int.eq_ofNat_of_zero_le h1.1
  obtain ⟨N, rfl⟩ := Int.eq_ofNat_of_zero_le (show 0 ≤ n by omega)
  obtain ⟨_, g2, g3, _, g5, g6⟩ := h1
  obtain ⟨_, _, k3, _, k5, k6⟩ := h2
  by_cases h0 : (M : Int) = 0
  · rw [if_pos h0] at g6 k6
    exact absurd (g6.2.trans k6.2.symm) h3
  · rw [if_neg h0] at g6 k6
    have g7 := (digB_iff _).1 g5
    have k7 := (digB_iff _).1 k5
    refine ⟨M, N, rfl, rfl, by omega, by omega, g3, k3, g7, k7, ?_⟩
    exact binding2 sha sha_len (N + 1) M N a b a b r P Q true (by omega) (by omega) (by omega) h3 g3 k3 g7 k7 (by simpa using g6) (by simpa using k6)

set_option maxRecDepth 100000 in
set_option maxHeartbeats 4000000 in
theorem ExtensionBinding_any (a b r : Str) (m n : Int) (vp vq : Value) (p q : List Str) (w : World) (hn1 : -9223372036854775808 ≤ n) (hn2 : n ≤ 9223372036854775807) (hm1 : -9223372036854775808 ≤ m) (hm2 : m ≤ 9223372036854775807)
    (hp : ArgS w vp p) (hq : ArgS w vq q) (hT : Tab w) :
    Calls Tryd.prog 10 #[.string ⟨a.toArray⟩, vp, .string ⟨b.toArray⟩, vq, .int .i64 m, .string ⟨r.toArray⟩, .int .i64 n] w fun e w' => e = .returned (.bool true) ∧ Below w.heap.size w w' := by
  have c1 := Lib.hid (sane_any w hT)
  have c2 := Lib.hid (fun w' (B : Below w.heap.size w w') => few_any vp p 70 w' (hp.below B) (by omega))
  have c3 := Lib.hid (fun w' (B : Below w.heap.size w w') => few_any vq q 70 w' (hq.below B) (by omega))
  have hT2 := Lib.hid hT
  have hP1 := fewS_len p 70
  have hP2 := fewS_small p 70
  have hQ1 := fewS_len q 70
  have hQ2 := fewS_small q 70
  generalize fewS p 70 = P at *
  generalize fewS q 70 = Q at *
  have hPl : P.length ≤ 70 := by omega
  have hQl : Q.length ≤ 70 := by omega
  have hPu := Lib.hid (show ∀ u ∈ P, List.length u ≤ 1000 from fun u hu => by have := hP2 u hu; omega)
  have hQu := Lib.hid (show ∀ u ∈ Q, List.length u ≤ 1000 from fun u hu => by have := hQ2 u hu; omega)
  have key := Lib.hid (ext_key a b r m n P Q)
  clear hT hp hq hP1 hP2 hQ1 hQ2
  go_enter Tryd.func10, Tryd.ntmps10
  go_wp2_with fail
  refine c1.out.mono ?_
  rintro e w1 ⟨rfl, B1⟩
  go_wp2_with fail
  refine (c2.out _ B1).mono ?_
  rintro e w2 ⟨v2, rfl, o2, d2⟩
  have B2 := B1.trans (d2.mono B1.size)
  have s2 := own_SL o2
  clear o2 d2
  go_wp2_with fail
  refine (c3.out _ B2).mono ?_
  rintro e w3 ⟨v3, rfl, o3, d3⟩
  have B3 := B2.trans (d3.mono B2.size)
  have s3 := own_SL o3
  have s2 := s2.below d3
  have hT3 := hT2.out.below B3
  clear o3 d3
  have k1 := Lib.hid (fun w' (B : Below w3.heap.size w3 w') => VerifyExtension_any a m r n P v2 w' hn1 hn2 hm1 hm2 (by omega) hPu.out (hT3.below B) (s2.below B))
  have k2 := Lib.hid (fun w' (B : Below w3.heap.size w3 w') => VerifyExtension_any b m r n Q v3 w' hn1 hn2 hm1 hm2 (by omega) hQu.out (hT3.below B) (s3.below B))
  have fin := Lib.hid (fun w' (B : Below w3.heap.size w3 w') => B3.trans (B.mono B3.size))
  have s2h := Lib.hid s2
  have s3h := Lib.hid s3
  have hT4 := Lib.hid hT3
  clear s2 s3 hT3 B3 B2 B1 c1 c2 c3
  have bb := Below.refl w3.heap.size w3
  generalize hv1 : verE a m r n P = x1 at *
  generalize hv2 : verE b m r n Q = x2 at *
  have hd : (x1 = true ∧ x2 = true ∧ (a == b) = false ∧ ∃ M N : Nat, m = M ∧ n = N ∧ 1 ≤ M ∧ M ≤ N ∧ a.length = 32 ∧ b.length = 32 ∧ (∀ u ∈ P, List.length u = 32) ∧ (∀ u ∈ Q, List.length u = 32) ∧ Coll sha (sidesF sha (N + 1) a M N P true).1 (sidesF sha (N + 1) b M N Q true).1) ∨ (x1 = false) ∨ (x1 = true ∧ x2 = false) ∨ (x1 = true ∧ x2 = true ∧ (a == b) = true) := by
    cases x1 with
    | false => exact .inr (.inl rfl)
    | true =>
      cases x2 with
      | false => exact .inr (.inr (.inl ⟨rfl, rfl⟩))
      | true =>
        by_cases e : a = b
        · exact .inr (.inr (.inr ⟨rfl, rfl, by simpa using e⟩))
        · exact .inl ⟨rfl, rfl, by simpa using e, key.out rfl rfl e⟩
  clear key hv1 hv2
  rcases hd with ⟨rfl, rfl, hne, M, N, rfl, rfl, hM1, hMN, ha32, hb32, hP32, hQ32, hC⟩ | rfl | ⟨rfl, rfl⟩ | ⟨rfl, rfl, heq⟩
  · have y1 := Lib.hid (fun w' (B : Below w3.heap.size w3 w') => sides_any P.length (N + 1) M N a P true v2 w' (Nat.le_refl _) (by omega) hM1 hMN (by omega) ha32 hP32 (by omega) (hT4.out.below B) (s2h.out.below B))
    have y2 := Lib.hid (fun w' (B : Below w3.heap.size w3 w') => sides_any Q.length (N + 1) M N b Q true v3 w' (Nat.le_refl _) (by omega) hM1 hMN (by omega) hb32 hQ32 (by omega) (hT4.out.below B) (s3h.out.below B))
    have z1 := sides_small (N + 1) M N a P true ha32 hP32
    have z2 := sides_small (N + 1) M N b Q true hb32 hQ32
    have z3 := sides_size (N + 1) M N a P true
    generalize sidesF sha (N + 1) a M N P true = V at *
    generalize sidesF sha (N + 1) b M N Q true = X at *
    obtain ⟨V1, V2⟩ := V
    obtain ⟨X1, X2⟩ := X
    have kc := Lib.hid (fun va vb w' (B : Below w3.heap.size w3 w') ha hb => collide_any va vb V1 X1 w' ha hb (by have z4 : V1.length ≤ P.length := z3; omega) z1 z2 hC (hT4.out.below B))
    clear z1 z2 z3 hC ha32 hb32 hP32 hQ32
    go_wp2_with fail
    refine (k1.out _ bb).mono ?_
    rintro e w4 ⟨rfl, d⟩
    have bb := bb.trans (d.mono bb.size)
    clear d
    go_wp2_with fail
    refine (k2.out _ bb).mono ?_
    rintro e w5 ⟨rfl, d⟩
    have bb := bb.trans (d.mono bb.size)
    clear d
    go_wp2_with fail
    refine (y1.out _ bb).mono ?_
    rintro e w6 ⟨va, rfl, sa, d⟩
    have bb := bb.trans (d.mono bb.size)
    have sah := Lib.hid sa
    clear d sa
    go_wp2_with fail
    refine (y2.out _ bb).mono ?_
    rintro e w7 ⟨vb, rfl, sb, d⟩
    have sah2 := Lib.hid (sah.out.below d)
    have bb := bb.trans (d.mono bb.size)
    have sbh := Lib.hid sb
    clear d sb sah
    go_wp2_with fail
    refine (kc.out _ _ _ bb sah2.out sbh.out).mono ?_
    rintro e w8 ⟨rfl, d⟩
    go_wp2_with fail
    go_ret
    exact ⟨rfl, fin.out _ (bb.trans (d.mono bb.size))⟩
  all_goals
    clear hT4 s2h s3h hPu hQu
    go_wp2_with fail
    refine (k1.out _ bb).mono ?_
    rintro e w4 ⟨rfl, d⟩
    have bb := bb.trans (d.mono bb.size)
    clear d
    go_wp2_with fail
    refine (k2.out _ bb).mono ?_
    rintro e w5 ⟨rfl, d⟩
    have bb := bb.trans (d.mono bb.size)
    clear d
    go_wp2_with fail
    go_ret
    exact ⟨rfl, fin.out _ bb⟩
end Go.Proofs.YthdfadlniacdcaaDoor
