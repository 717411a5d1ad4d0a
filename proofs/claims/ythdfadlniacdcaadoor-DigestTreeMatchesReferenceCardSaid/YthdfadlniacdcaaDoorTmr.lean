import Derived.Test.YthdfadlniacdcaaDoorRfJ
import Derived.Test.YthdfadlniacdcaaDoorSam
namespace Go.Proofs.YthdfadlniacdcaaDoor
open Go.RowKit
/-- a list and an error come back, in whatever memory of the call's own -/
def PairPost (l : List Str) (er : Int) (w : World) (e : Ending) (w' : World) : Prop := ∃ v, e = .returned (.tuple #[v, .int .i64 er]) ∧ SL w' v l ∧ Below w.heap.size w w'
theorem ProofPost.pair {l : List Str} {w w' : World} {e : Ending} (h : ProofPost l w e w') : PairPost l 0 w e w' := by
  obtain ⟨v, h1, h2, h3⟩ := h
  exact ⟨v, h1, own_SL h2, h3⟩
theorem bad_pair {w w' : World} {e : Ending} (h : e = .returned (.tuple #[.slice none 0 0, .int .i64 2]) ∧ w = w') : PairPost [] 2 w e w' := by
  obtain ⟨h1, rfl⟩ := h
  exact ⟨_, h1, .inl ⟨rfl, _, _, rfl⟩, Below.refl _ _⟩
/-- what Proof answers at any index -/
theorem Proof_all (l : List Str) (i : Int) (hb1 : -9223372036854775808 ≤ i) (hb2 : i ≤ 9223372036854775807) (hu : ∀ u ∈ l, List.length u ≤ 1000) (hm : l.length ≤ 100) : ∃ (p : List Str) (er : Int), p.length ≤ 1000 ∧
    (∀ (v : Value) (w : World), SL w v l → Tab w → Calls Tryd.prog 22 #[v, .int .i64 i] w (PairPost p er w)) ∧ (∀ (v : Value) (w : World), SL w v l → Tab w → Calls Tryd.prog 23 #[v, .int .i64 i] w (PairPost p er w)) := by
  by_cases h : 0 ≤ i ∧ i < l.length
  · obtain ⟨I, rfl⟩ := Int.eq_ofNat_of_zero_le h.1
    have hI : I < l.length := by omega
    refine ⟨prfS l I, 0, ?_, fun v w hv hT => (Proof_any v l I w hv hu (by omega) hI hT).mono fun _ _ h => h.pair, fun v w hv hT => (ProofR_any l.length l v I w (Nat.le_refl _) (by omega) hI hu (by omega) hT hv).mono fun _ _ h => h.pair⟩
    have := prf_small (l.length + 1) l I (by omega) hI (by omega)
    unfold prfS
    omega
  · have hb : i < 0 ∨ (l.length : Int) ≤ i := by omega
    exact ⟨[], 2, by simp, fun v w hv _ => (Proof_bad v l i w hv (by omega) hb1 hb2 hb).mono fun _ _ h => bad_pair h, fun v w hv _ => (ProofR_bad v l i w hv (by omega) hb1 hb2 hb).mono fun _ _ h => bad_pair h⟩
theorem Ext_all (l : List Str) (i : Int) (hb1 : -9223372036854775808 ≤ i) (hb2 : i ≤ 9223372036854775807) (hu : ∀ u ∈ l, List.length u ≤ 1000) (hm : l.length ≤ 100) : ∃ (p : List Str) (er : Int), p.length ≤ 1000 ∧
    (∀ (v : Value) (w : World), SL w v l → Tab w → Calls Tryd.prog 24 #[v, .int .i64 i] w (PairPost p er w)) ∧ (∀ (v : Value) (w : World), SL w v l → Tab w → Calls Tryd.prog 25 #[v, .int .i64 i] w (PairPost p er w)) := by
  by_cases h : 0 ≤ i ∧ i ≤ l.length
  · obtain ⟨I, rfl⟩ := Int.eq_ofNat_of_zero_le h.1
    have hI : I ≤ l.length := by omega
    refine ⟨extS l I, 0, ?_, fun v w hv hT => (Extension_any v l I w hv hu (by omega) hI hT).mono fun _ _ h => h.pair, fun v w hv hT => (ExtensionR_any v l I w hv hu (by omega) hI hT).mono fun _ _ h => h.pair⟩
    unfold extS
    split
    · simp
    · have := part_small (l.length + 1) l I true (by omega) (by omega) hI (by omega)
      omega
  · have hb : i < 0 ∨ (l.length : Int) < i := by omega
    exact ⟨[], 2, by simp, fun v w hv _ => (Extension_bad v l i w hv hb1 hb2 hb).mono fun _ _ h => bad_pair h, fun v w hv _ => (ExtensionR_bad v l i w hv hb1 hb2 hb).mono fun _ _ h => bad_pair h⟩

set_option maxRecDepth 100000 in
set_option maxHeartbeats 4000000 in
theorem TreeMatches_any (va : Value) (a : List Str) (i m : Int) (w : World) (hi1 : -9223372036854775808 ≤ i) (hi2 : i ≤ 9223372036854775807) (hm1 : -9223372036854775808 ≤ m) (hm2 : m ≤ 9223372036854775807) (ha : ArgS w va a) (hT : Tab w) :
    Calls Tryd.prog 4 #[va, .int .i64 i, .int .i64 m] w fun e w' => e = .returned (.bool true) ∧ Below w.heap.size w w' := by
  have c1 := Lib.hid (sane_any w hT)
  have c2 := Lib.hid (fun w' (B : Below w.heap.size w w') => few_any va a 40 w' (ha.below B) (by omega))
  have hT2 := Lib.hid hT
  have hP1 := fewS_len a 40
  have hP2 := fewS_small a 40
  generalize fewS a 40 = A at *
  have hPl : A.length ≤ 40 := by omega
  have hu : ∀ u ∈ A, List.length u ≤ 1000 := fun u hu => by have := hP2 u hu; omega
  obtain ⟨p, er, hpl, q1, q2⟩ := Proof_all A i hi1 hi2 hu (by omega)
  obtain ⟨x, es, hxl, q3, q4⟩ := Ext_all A m hm1 hm2 hu (by omega)
  have q1 := Lib.hid q1
  have q2 := Lib.hid q2
  have q3 := Lib.hid q3
  have q4 := Lib.hid q4
  have hu2 := Lib.hid hu
  rename_i o1 o2 o3 o4
  clear o1 o2 o3 o4 ha hP1 hP2 hT hu
  go_enter Tryd.func4, Tryd.ntmps4
  go_wp2_with fail
  refine c1.out.mono ?_
  rintro e w1 ⟨rfl, B1⟩
  go_wp2_with fail
  refine (c2.out _ B1).mono ?_
  rintro e w2 ⟨v2, rfl, o2, d2⟩
  have B2 := B1.trans (d2.mono B1.size)
  have s2 := own_SL o2
  have hT3 := hT2.out.below B2
  clear o2 d2
  have k1 := Lib.hid (fun w' (B : Below w2.heap.size w2 w') => q1.out v2 w' (s2.below B) (hT3.below B))
  have k2 := Lib.hid (fun w' (B : Below w2.heap.size w2 w') => q2.out v2 w' (s2.below B) (hT3.below B))
  have k3 := Lib.hid (fun w' (B : Below w2.heap.size w2 w') => q3.out v2 w' (s2.below B) (hT3.below B))
  have k4 := Lib.hid (fun w' (B : Below w2.heap.size w2 w') => q4.out v2 w' (s2.below B) (hT3.below B))
  have k5 := Lib.hid (fun w' (B : Below w2.heap.size w2 w') => Root_any A.length A v2 w' (Nat.le_refl _) hu2.out (by omega) (hT3.below B) (s2.below B))
  have k6 := Lib.hid (fun w' (B : Below w2.heap.size w2 w') => RootR_any A.length A v2 w' (Nat.le_refl _) hu2.out (by omega) (hT3.below B) (s2.below B))
  generalize rootS A = rt at *
  have fin := Lib.hid (fun w' (B : Below w2.heap.size w2 w') => B2.trans (B.mono B2.size))
  clear s2 hT3 B1 B2 c1 c2 q1 q2 q3 q4 hu2
  have bb := Below.refl w2.heap.size w2
  go_wp2_with fail
  refine (k1.out _ bb).mono ?_
  rintro e w3 ⟨v3, rfl, s3, d⟩
  have bb := bb.trans (d.mono bb.size)
  clear d
  go_wp2_with fail
  refine (k2.out _ bb).mono ?_
  rintro e w4 ⟨v4, rfl, s4, d⟩
  have s3 := s3.below d
  have bb := bb.trans (d.mono bb.size)
  clear d
  go_wp2_with fail
  refine (k3.out _ bb).mono ?_
  rintro e w5 ⟨v5, rfl, s5, d⟩
  have s3 := s3.below d
  have s4 := s4.below d
  have bb := bb.trans (d.mono bb.size)
  clear d
  go_wp2_with fail
  refine (k4.out _ bb).mono ?_
  rintro e w6 ⟨v6, rfl, s6, d⟩
  have s3 := s3.below d
  have s4 := s4.below d
  have s5 := s5.below d
  have bb := bb.trans (d.mono bb.size)
  clear d
  have e1 := Lib.hid (same_any v3 v4 p p w6 s3 s4 hpl hpl)
  have hpp : (p == p) = true := by simp
  rw [hpp] at e1
  have hxx : (x == x) = true := by simp
  have e2 := Lib.hid (fun w' (B : Below w6.heap.size w6 w') => same_any v5 v6 x x w' (s5.below B) (s6.below B) hxl hxl)
  rw [hxx] at e2
  clear hpp hxx s3 s4 s5 s6
  go_wp2_with fail
  refine e1.out.mono ?_
  rintro e w7 ⟨rfl, d⟩
  have bb := bb.trans (d.mono bb.size)
  go_wp2_with fail
  refine (e2.out _ d).mono ?_
  rintro e w8 ⟨rfl, d8⟩
  have bb := bb.trans (d8.mono bb.size)
  clear d d8
  go_wp2_with fail
  refine (k5.out _ bb).mono ?_
  rintro e w9 ⟨rfl, d⟩
  have bb := bb.trans (d.mono bb.size)
  clear d
  go_wp2_with fail
  refine (k6.out _ bb).mono ?_
  rintro e w10 ⟨rfl, d⟩
  have bb := bb.trans (d.mono bb.size)
  clear d
  go_wp2_with fail
  go_ret
  exact ⟨rfl, fin.out _ bb⟩
end Go.Proofs.YthdfadlniacdcaaDoor
