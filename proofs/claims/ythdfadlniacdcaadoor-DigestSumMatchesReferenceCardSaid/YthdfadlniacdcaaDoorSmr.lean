import Derived.Test.YthdfadlniacdcaaDoorRfD
namespace Go.Proofs.YthdfadlniacdcaaDoor
open Go.RowKit
theorem cut500 (s : Str) (hs0 : s.length ≤ maxLen) : ∃ m : Nat, m ≤ 500 ∧ m ≤ s.length ∧ s.length ≤ 9223372036854775807 ∧ (⟨s.toArray⟩ : ByteArray).extract 0 m = ⟨(s.take 500).toArray⟩ ∧
    ∀ ts ty w, (Builtin.min_ ts ty #[.int .i64 (s.length : Int), .int .i64 500]).run Tryd.prog w = .ok (.int .i64 (m : Int)) w := by
  refine ⟨min s.length 500, by omega, by omega, hs0, ?_, fun ts ty w => min_run _ 500 _ _ _ _ rfl⟩
  rw [ext_take s (min s.length 500)]
  have : s.take (min s.length 500) = s.take 500 := by rw [List.take_eq_take_iff]; omega
  rw [this]

set_option maxRecDepth 100000 in
set_option maxHeartbeats 4000000 in
theorem SumMatches_any (s t : Str) (w : World) (hs : s.length ≤ maxLen) (ht : t.length ≤ maxLen) (hT : Tab w) :
    Calls Tryd.prog 3 #[.string ⟨s.toArray⟩, .string ⟨t.toArray⟩] w fun e w' => e = .returned (.bool true) ∧ Below w.heap.size w w' := by
  have c1 := Lib.hid (sane_any w hT)
  obtain ⟨m1, a1, a2, a3, a4, a5⟩ := cut500 s hs
  obtain ⟨m2, b1, b2, b3, b4, b5⟩ := cut500 t ht
  have hS : (s.take 500).length ≤ 500 := by simp; omega
  have hU : (t.take 500).length ≤ 500 := by simp; omega
  generalize s.take 500 = S at *
  generalize t.take 500 = U at *
  have i2 : (0 : Int) ≤ (m1 : Int) := by omega
  have i3 : (m1 : Int) ≤ (s.length : Int) := by omega
  have i4 : (0 : Int) ≤ (m2 : Int) := by omega
  have i5 : (m2 : Int) ≤ (t.length : Int) := by omega
  have k1 := Lib.hid (fun w' (B : Below w.heap.size w w') => Sum_any S w' (by omega) (hT.below B))
  have k2 := Lib.hid (fun w' => SumR_any S w' (by omega))
  have k3 := Lib.hid (fun w' (B : Below w.heap.size w w') => Leaf_any U w' (by omega) (hT.below B))
  have k4 := Lib.hid (fun w' => LeafR_any U w' (by omega))
  have k5 := Lib.hid (fun w' (B : Below w.heap.size w w') => Node_any S U w' (by omega) (by omega) (hT.below B))
  have k6 := Lib.hid (fun w' => NodeR_any S U w' (by omega) (by omega))
  have k7 := Lib.hid (fun w' (B : Below w.heap.size w w') => Chain_any U S w' (by omega) (by omega) (hT.below B))
  have k8 := Lib.hid (fun w' => ChainR_any U S w' (by omega) (by omega))
  generalize sha S = r1 at *
  generalize leafH sha U = r2 at *
  generalize nodeH sha S U = r3 at *
  generalize sha (2 :: (U ++ S)) = r4 at *
  clear hT hs ht hS hU
  go_enter Tryd.func3, Tryd.ntmps3
  go_wp2_with fail
  refine c1.out.mono ?_
  rintro e w1 ⟨rfl, bb⟩
  go_wp2_with fail
  refine (k1.out _ bb).mono ?_
  rintro e w2 ⟨rfl, d⟩
  have bb := bb.trans (d.mono bb.size)
  clear d
  go_wp2_with fail
  refine (k2.out _).mono ?_
  rintro e w3 ⟨rfl, d⟩
  have bb := bb.trans (d.mono bb.size)
  clear d
  go_wp2_with fail
  refine (k3.out _ bb).mono ?_
  rintro e w4 ⟨rfl, d⟩
  have bb := bb.trans (d.mono bb.size)
  clear d
  go_wp2_with fail
  refine (k4.out _).mono ?_
  rintro e w5 ⟨rfl, d⟩
  have bb := bb.trans (d.mono bb.size)
  clear d
  go_wp2_with fail
  refine (k5.out _ bb).mono ?_
  rintro e w6 ⟨rfl, d⟩
  have bb := bb.trans (d.mono bb.size)
  clear d
  go_wp2_with fail
  refine (k6.out _).mono ?_
  rintro e w7 ⟨rfl, d⟩
  have bb := bb.trans (d.mono bb.size)
  clear d
  go_wp2_with fail
  refine (k7.out _ bb).mono ?_
  rintro e w8 ⟨rfl, d⟩
  have bb := bb.trans (d.mono bb.size)
  clear d
  go_wp2_with fail
  refine (k8.out _).mono ?_
  rintro e w9 ⟨rfl, d⟩
  have bb := bb.trans (d.mono bb.size)
  clear d
  go_wp2_with fail
  go_ret
  exact ⟨rfl, bb⟩
end Go.Proofs.YthdfadlniacdcaaDoor
