import Derived.Test.YthdfadlniacdcaaDoorRfE
namespace Go.Proofs.YthdfadlniacdcaaDoor
open Go.RowKit

set_option maxRecDepth 100000 in
theorem valueR_one (f i : Nat) (s : Str) (p : List Str) (v : Value) (w : World) (hs : s.length ≤ 1000) (hpl : p.length ≤ 1000) (_ : Tab w) (hv : SL w v p) :
    Calls Tryd.prog 51 #[.int .i64 1, .int .i64 i, .string ⟨s.toArray⟩, v] w (ValPost (val (leafH sha) (nodeH sha) (f + 1) 1 i s p) w) := by
  obtain ⟨a, c, rfl⟩ := hv.shape
  have hl := LeafR_any s w (by omega)
  have hll := leafH_len s
  by_cases hp : p = []
  · subst hp
    have hval : val (leafH sha) (nodeH sha) (f + 1) 1 i s [] = some (leafH sha s) := by rw [val, if_pos (Nat.le_refl _), if_pos rfl]
    rw [hval]
    generalize leafH sha s = r at *
    clear hval hv
    have hl2 := Lib.hid hl
    have hll2 := Lib.hid hll
    clear hl hll
    go_enter Tryd.func51, Tryd.ntmps51
    go_wp2_with fail
    refine hl2.out.mono ?_
    rintro e w1 ⟨rfl, hb⟩
    go_wp2_with fail
    go_ret2
    exact ⟨r, rfl, by rw [hll2.out]; omega, (fun x h => by injection h), hb⟩
  · have hval : val (leafH sha) (nodeH sha) (f + 1) 1 i s p = none := by rw [val, if_pos (Nat.le_refl _), if_neg hp]
    have hp1 : 1 ≤ p.length := Nat.pos_of_ne_zero (fun e => hp (List.length_eq_zero_iff.1 e))
    rw [hval]
    generalize leafH sha s = r at *
    generalize p.length = N at *
    clear hval hv hp
    have t0 : decide ((N : Int) - 1 < 0) = false := by rw [decide_eq_false_iff_not]; omega
    have t0w : IntKind.i64.wrap ((N : Int) - 1) = (N : Int) - 1 := IntWalk.i64_in _ (by omega)
    have hl2 := Lib.hid hl
    have hll2 := Lib.hid hll
    clear hl hll
    go_enter Tryd.func51, Tryd.ntmps51
    go_wp2_with fail
    refine hl2.out.mono ?_
    rintro e w1 ⟨rfl, hb⟩
    go_wp2_with fail
    go_ret2
    exact ⟨r, rfl, by rw [hll2.out]; omega, (fun x h => by cases h), hb⟩

set_option maxRecDepth 100000 in
theorem valueR_nil (f n i : Nat) (s : Str) (v : Value) (w : World) (h1 : 2 ≤ n) (hn : n ≤ 9223372036854775807) (hv : SL w v []) :
    Calls Tryd.prog 51 #[.int .i64 n, .int .i64 i, .string ⟨s.toArray⟩, v] w (ValPost (val (leafH sha) (nodeH sha) (f + 1) n i s []) w) := by
  obtain ⟨a, c, rfl⟩ := hv.shape
  have hval : val (leafH sha) (nodeH sha) (f + 1) n i s [] = none := by rw [val, if_neg (by omega)]; rfl
  rw [hval]
  clear hval hv
  have t1 : ((n : Int) == 1) = false := by rw [beq_eq_false_iff_ne]; omega
  go_enter Tryd.func51, Tryd.ntmps51
  go_wp2_with fail
  go_ret2
  exact ⟨[], rfl, by simp, (fun x h => by cases h), Below.refl _ _⟩

set_option maxRecDepth 100000 in
set_option maxHeartbeats 1000000 in
theorem valueR_any (m : Nat) : ∀ (f n i : Nat) (s : Str) (p : List Str) (v : Value) (w : World), p.length ≤ m → n < f → 1 ≤ n → i < n → n ≤ 9223372036854775807 → s.length ≤ 1000 → (∀ u ∈ p, List.length u ≤ 1000) → p.length ≤ 1000 → Tab w → SL w v p →
    Calls Tryd.prog 51 #[.int .i64 n, .int .i64 i, .string ⟨s.toArray⟩, v] w (ValPost (val (leafH sha) (nodeH sha) f n i s p) w) := by
  induction m with
  | zero =>
    intro f n i s p v w hm hf h1 hi hn hs hu hpl hT hv
    obtain ⟨f, rfl⟩ : ∃ g, f = g + 1 := ⟨f - 1, by omega⟩
    obtain rfl : p = [] := List.length_eq_zero_iff.1 (by omega)
    by_cases n1 : n = 1
    · subst n1; exact valueR_one f i s [] v w hs hpl hT hv
    · exact valueR_nil f n i s v w (by omega) hn hv
  | succ m ih =>
    intro f n i s p v w hm hf h1 hi hn hs hu hpl hT hv
    obtain ⟨f, rfl⟩ : ∃ g, f = g + 1 := ⟨f - 1, by omega⟩
    by_cases n1 : n = 1
    · subst n1; exact valueR_one f i s p v w hs hpl hT hv
    rcases hv with ⟨rfl, a, c, rfl⟩ | ⟨hne, b, o, c, rfl, h3, h4, hL⟩
    · exact valueR_nil f n i s _ w (by omega) hn (.inl ⟨rfl, a, c, rfl⟩)
    rcases List.eq_nil_or_concat p with rfl | ⟨q, x, rfl⟩
    · exact absurd rfl hne
    rw [List.concat_eq_append] at *
    have k1 := lf_lt n (by omega)
    have k2 := lf_pos n (by omega)
    have hh := leftR_any n w (by omega) hn
    have hlen : (q ++ [x]).length = q.length + 1 := by simp
    have hx : w.cell? ⟨b, o + q.length, none⟩ = some (.string ⟨x.toArray⟩) := hL q.length x (by simp)
    have hxl : x.length ≤ 1000 := hu x (by simp)
    have hq : SL w (.slice (some ⟨b, o, none⟩) q.length c) q := by
      have := SL.take h4 h3 hL q.length (by simp)
      rwa [List.take_left] at this
    have hqu : ∀ u ∈ q, List.length u ≤ 1000 := fun u h => hu u (by simp [h])
    rw [hlen] at h3 hm hpl ⊢
    rw [val_snoc f n i s x q (by omega)]
    by_cases hik : i < lf n
    · rw [if_pos hik]
      have hA := ih f (lf n) i s q _ w (by omega) (by omega) k2 hik (by omega) hs hqu (by omega) hT hq
      have hN : ∀ w', Below w.heap.size w w' → ∀ u : Str, u.length ≤ 1000 → Calls Tryd.prog 18 #[.string ⟨u.toArray⟩, .string ⟨x.toArray⟩] w' fun e w'' => e = .returned (.string ⟨(nodeH sha u x).toArray⟩) ∧ Below w'.heap.size w' w'' := fun w' B u h =>
        NodeR_any u x w' (by omega) (by omega)
      generalize val (leafH sha) (nodeH sha) f (lf n) i s q = V at *
      generalize lf n = k at *
      generalize q.length = M at *
      clear ih hL hT hq hqu hu hne hlen
      have t1 : ((n : Int) == 1) = false := by rw [beq_eq_false_iff_ne]; omega
      have t0 : IntKind.i64.wrap (((M + 1 : Nat) : Int) - 1) = (M : Int) := by rw [IntWalk.i64_in _ (by omega)]; omega
      have t0d : decide ((M : Int) < 0) = false := by rw [decide_eq_false_iff_not]; omega
      have hA2 := Lib.hid hA
      have hN2 := Lib.hid hN
      have hx2 := Lib.hid hx
      clear hA hN hx
      go_enter Tryd.func51, Tryd.ntmps51
      go_wp2_with (go_at_call 44; refine hh.mono ?_; rintro e w' ⟨rfl, rfl⟩)
      refine hA2.out.mono ?_
      rintro e w1 ⟨r, rfl, hr1, hr2, hb⟩
      have c1 := (hb.cell (p := ⟨b, o + M, none⟩) h4).trans hx2.out
      have hr3 := Lib.hid hr2
      clear hr2
      go_wp2_with fail
      refine (hN2.out _ hb r hr1).mono ?_
      rintro e w2 ⟨rfl, hb2⟩
      go_wp2_with fail
      go_ret2
      refine ⟨nodeH sha r x, by rw [Option.isSome_map]; rfl, by rw [nodeH_len]; omega, fun y hy => ?_, hb.trans (hb2.mono hb.size)⟩
      rw [Option.map_eq_some_iff] at hy
      obtain ⟨z, hz, rfl⟩ := hy
      rw [hr3.out z hz]
    · rw [if_neg hik]
      have hA := ih f (n - lf n) (i - lf n) s q _ w (by omega) (by omega) (by omega) (by omega) (by omega) hs hqu (by omega) hT hq
      have hN : ∀ w', Below w.heap.size w w' → ∀ u : Str, u.length ≤ 1000 → Calls Tryd.prog 18 #[.string ⟨x.toArray⟩, .string ⟨u.toArray⟩] w' fun e w'' => e = .returned (.string ⟨(nodeH sha x u).toArray⟩) ∧ Below w'.heap.size w' w'' := fun w' B u h =>
        NodeR_any x u w' (by omega) (by omega)
      generalize val (leafH sha) (nodeH sha) f (n - lf n) (i - lf n) s q = V at *
      generalize lf n = k at *
      generalize q.length = M at *
      clear ih hL hT hq hqu hu hne hlen
      have t1 : ((n : Int) == 1) = false := by rw [beq_eq_false_iff_ne]; omega
      have t0 : IntKind.i64.wrap (((M + 1 : Nat) : Int) - 1) = (M : Int) := by rw [IntWalk.i64_in _ (by omega)]; omega
      have t0d : decide ((M : Int) < 0) = false := by rw [decide_eq_false_iff_not]; omega
      rw [Int.ofNat_sub (show k ≤ n by omega), Int.ofNat_sub (show k ≤ i by omega)] at hA
      have hA2 := Lib.hid hA
      have hN2 := Lib.hid hN
      have hx2 := Lib.hid hx
      clear hA hN hx
      go_enter Tryd.func51, Tryd.ntmps51
      go_wp2_with (go_at_call 44; refine hh.mono ?_; rintro e w' ⟨rfl, rfl⟩)
      refine hA2.out.mono ?_
      rintro e w1 ⟨r, rfl, hr1, hr2, hb⟩
      have c1 := (hb.cell (p := ⟨b, o + M, none⟩) h4).trans hx2.out
      have hr3 := Lib.hid hr2
      clear hr2
      go_wp2_with fail
      refine (hN2.out _ hb r hr1).mono ?_
      rintro e w2 ⟨rfl, hb2⟩
      go_wp2_with fail
      go_ret2
      refine ⟨nodeH sha x r, by rw [Option.isSome_map]; rfl, by rw [nodeH_len]; omega, fun y hy => ?_, hb.trans (hb2.mono hb.size)⟩
      rw [Option.map_eq_some_iff] at hy
      obtain ⟨z, hz, rfl⟩ := hy
      rw [hr3.out z hz]

end Go.Proofs.YthdfadlniacdcaaDoor
