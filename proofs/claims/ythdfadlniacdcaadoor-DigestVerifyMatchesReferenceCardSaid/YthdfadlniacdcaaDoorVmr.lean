import Derived.Test.YthdfadlniacdcaaDoorRfL
namespace Go.Proofs.YthdfadlniacdcaaDoor
open Go.RowKit

set_option maxRecDepth 100000 in
set_option maxHeartbeats 4000000 in
theorem VerifyMatches_any (old r : Str) (n i : Int) (s : Str) (vp : Value) (p : List Str) (w : World) (hn1 : -9223372036854775808 ≤ n) (hn2 : n ≤ 9223372036854775807) (hi1 : -9223372036854775808 ≤ i) (hi2 : i ≤ 9223372036854775807)
    (ho : old.length ≤ maxLen) (hrl : r.length ≤ maxLen) (hs : s.length ≤ maxLen) (hp : ArgS w vp p) (hT : Tab w) :
    Calls Tryd.prog 5 #[.string ⟨old.toArray⟩, .string ⟨r.toArray⟩, .int .i64 n, .int .i64 i, .string ⟨s.toArray⟩, vp] w fun e w' => e = .returned (.bool true) ∧ Below w.heap.size w w' := by
  have c1 := Lib.hid (sane_any w hT)
  have c2 := Lib.hid (fun w' (B : Below w.heap.size w w') => few_any vp p 70 w' (hp.below B) (by omega))
  have hT2 := Lib.hid hT
  have hP1 := fewS_len p 70
  have hP2 := fewS_small p 70
  generalize fewS p 70 = P at *
  have hPl : P.length ≤ 70 := by omega
  obtain ⟨m1, a1, a2, a3, a4, a5⟩ := cut60 s hs
  have hS : (s.take 60).length ≤ 60 := by simp; omega
  generalize s.take 60 = S at *
  have i2 : (0 : Int) ≤ (m1 : Int) := by omega
  have i3 : (m1 : Int) ≤ (s.length : Int) := by omega
  have hu := Lib.hid (show ∀ u ∈ P, List.length u ≤ 1000 from fun u hu => by have := hP2 u hu; omega)
  unfold maxLen at ho hrl
  clear hT hs hp hP1 hP2
  go_enter Tryd.func5, Tryd.ntmps5
  go_wp2_with fail
  refine c1.out.mono ?_
  rintro e w1 ⟨rfl, B1⟩
  go_wp2_with fail
  refine (c2.out _ B1).mono ?_
  rintro e w2 ⟨v2, rfl, o2, d2⟩
  have B2 := B1.trans (d2.mono B1.size)
  have s2 := own_SL o2
  have hT3 := hT2.out.below B2
  clear o2 d2
  have k1 := Lib.hid (fun w' (B : Below w2.heap.size w2 w') => Verify_any r n i S P v2 w' hn1 hn2 hi1 hi2 (by omega) (by omega) hu.out (hT3.below B) (s2.below B))
  have k2 := Lib.hid (fun w' (B : Below w2.heap.size w2 w') => VerifyR_any r n i S P v2 w' hn1 hn2 hi1 hi2 (by omega) (by omega) hu.out (hT3.below B) (s2.below B))
  have k3 := Lib.hid (fun w' (B : Below w2.heap.size w2 w') => VerifyExtension_any old i r n P v2 w' hn1 hn2 hi1 hi2 (by omega) hu.out (hT3.below B) (s2.below B))
  have k4 := Lib.hid (fun w' (B : Below w2.heap.size w2 w') => VerifyExtensionR_any old i r n P v2 w' hn1 hn2 hi1 hi2 (by omega) hu.out ho hrl (hT3.below B) (s2.below B))
  generalize verS r n i S P = x1 at *
  generalize verE old i r n P = x2 at *
  have fin := Lib.hid (fun w' (B : Below w2.heap.size w2 w') => B2.trans (B.mono B2.size))
  clear s2 hT3 B1 B2 c1 c2 hu
  have bb := Below.refl w2.heap.size w2
  go_wp2_with fail
  refine (k1.out _ bb).mono ?_
  rintro e w3 ⟨rfl, d⟩
  have bb := bb.trans (d.mono bb.size)
  clear d
  go_wp2_with fail
  refine (k2.out _ bb).mono ?_
  rintro e w4 ⟨rfl, d⟩
  have bb := bb.trans (d.mono bb.size)
  clear d
  go_wp2_with fail
  refine (k3.out _ bb).mono ?_
  rintro e w5 ⟨rfl, d⟩
  have bb := bb.trans (d.mono bb.size)
  clear d
  go_wp2_with fail
  refine (k4.out _ bb).mono ?_
  rintro e w6 ⟨rfl, d⟩
  have bb := bb.trans (d.mono bb.size)
  clear d
  go_wp2_with fail
  go_ret
  exact ⟨rfl, fin.out _ bb⟩
end Go.Proofs.YthdfadlniacdcaaDoor
