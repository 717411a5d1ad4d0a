import Derived.Test.YthdfadlniacdcaaDoorRfF
import Derived.Test.YthdfadlniacdcaaDoorRfG
import Derived.Test.YthdfadlniacdcaaDoorRfH
import Derived.Test.YthdfadlniacdcaaDoorRfI
namespace Go.Proofs.YthdfadlniacdcaaDoor
open Go.RowKit

theorem ExtensionR_bad (v : Value) (l : List Str) (i : Int) (w : World) (hv : SL w v l) (hb1 : -9223372036854775808 ≤ i) (hb2 : i ≤ 9223372036854775807) (h : i < 0 ∨ (l.length : Int) < i) :
    Calls Tryd.prog 25 #[v, .int .i64 i] w fun e w' => e = .returned (.tuple #[.slice none 0 0, .int .i64 2]) ∧ w = w' := by
  obtain ⟨a, c, rfl⟩ := hv.shape
  generalize l.length = N at *
  clear hv
  by_cases h0 : i < 0
  · go_enter Tryd.func25, Tryd.ntmps25
    go_wp2_with fail
    go_ret2
    exact ⟨rfl, rfl⟩
  · have h1 : (N : Int) < i := by omega
    have d0 : decide (i < 0) = false := by simpa using h0
    go_enter Tryd.func25, Tryd.ntmps25
    go_wp2_with fail
    go_ret2
    exact ⟨rfl, rfl⟩
theorem ExtensionR_any (v : Value) (l : List Str) (i : Nat) (w : World) (hv : SL w v l) (hu : ∀ u ∈ l, List.length u ≤ 1000) (hm : l.length ≤ 1000) (hi : i ≤ l.length) (hT : Tab w) :
    Calls Tryd.prog 25 #[v, .int .i64 i] w (ProofPost (extS l i) w) := by
  by_cases h0 : i = 0
  · subst h0
    have he : extS l 0 = [] := rfl
    rw [he]
    obtain ⟨a, c, rfl⟩ := hv.shape
    clear hv hT hu he
    go_enter Tryd.func25, Tryd.ntmps25
    go_wp2_with fail
    go_ret2
    exact ⟨_, rfl, World.ownsRow_nil _ _ _ _, Below.refl _ _⟩
  · have hp := partR_any l.length l v i true w (Nat.le_refl _) (by omega) hi hu hm hT hv
    have he : extS l i = partF (sha []) (leafH sha) (nodeH sha) (l.length + 1) l i true := by rw [extS, if_neg h0]
    rw [← he] at hp
    obtain ⟨a, c, rfl⟩ := hv.shape
    generalize extS l i = p at *
    generalize l.length = N at *
    clear hv hT hu he
    have d0 : decide ((i : Int) < 0) = false := by simp
    have t0 : ((i : Int) == 0) = false := by rw [beq_eq_false_iff_ne]; omega
    have hp2 := Lib.hid hp
    clear hp
    go_enter Tryd.func25, Tryd.ntmps25
    go_wp2_with fail
    refine hp2.out.mono ?_
    rintro e w1 ⟨v1, rfl, hown, hb⟩
    go_wp2_with fail
    go_ret2
    exact ⟨v1, rfl, hown, hb⟩

set_option maxRecDepth 100000 in
theorem digestsR_any (v : Value) (l : List Str) (w : World) (hv : SL w v l) (hn : l.length ≤ 1000000) :
    Calls Tryd.prog 50 #[v] w fun e w' => e = .returned (.bool (digB l)) ∧ w' = w := by
  rcases hv with ⟨rfl, a, c, rfl⟩ | ⟨h1, b, o, c, rfl, h3, h4, hL⟩
  · go_enter Tryd.func50, Tryd.ntmps50
    go_wp2_with fail
    go_loop [3] (fun i => i = .int .i64 0) (fun _ => 0)
    case atStart => rfl
    case round =>
      obtain rfl := hrel
      go_wp2_with fail
      go_ret
      exact ⟨rfl, rfl⟩
  · obtain ⟨N, hN⟩ : ∃ N, Hid (N = l.length) := ⟨_, rfl⟩
    rw [← hN.out] at h3 hn ⊢
    have hL2 := Lib.hid hL
    clear hL h3 h4
    go_enter Tryd.func50, Tryd.ntmps50
    go_wp2_with fail
    go_loop [3] (fun i => ∃ k : Nat, k ≤ N ∧ i = .int .i64 k ∧ Hid (∀ j (hj : j < l.length), j < k → l[j].length = 32)) (fun i => N - (intOf i).toNat)
    case atStart => exact ⟨0, by omega, rfl, fun j hj h => by omega⟩
    case round =>
      obtain ⟨k, hk, rfl, hall⟩ := hrel
      by_cases hlt : k < N
      · have hlt2 : k < l.length := by rw [← hN.out]; exact hlt
        have ck := hL2.out k l[k] (List.getElem?_eq_getElem hlt2)
        by_cases h32 : l[k].length = 32
        · have hnew : Hid (∀ j (hj : j < l.length), j < k + 1 → l[j].length = 32) := fun j hj h => by
            by_cases e : j = k
            · subst e; exact h32
            · exact hall.out j hj (by omega)
          generalize l[k] = u at *
          have i0 : (0 : Int) ≤ (k : Int) := by omega
          have i1 : (k : Int) < (N : Int) := by omega
          go_wp2_with fail
          go_round
          case rel => exact ⟨k + 1, by omega, by go_num, hnew⟩
          case measure => simp [intOf]; omega
        · have hr := digB_false l k hlt2 h32
          generalize l[k] = u at *
          have i0 : (0 : Int) ≤ (k : Int) := by omega
          have i1 : (k : Int) < (N : Int) := by omega
          go_wp2_with fail
          go_ret
          exact ⟨rfl, rfl⟩
      · obtain rfl : k = N := by omega
        have hr := Lib.hid (digB_all l (fun j hj => hall.out j hj (by rw [hN.out]; exact hj)))
        go_wp2_with fail
        go_ret
        exact ⟨ret_bool hr.out.symm, rfl⟩

theorem digestsR_w (v : Value) (l : List Str) (w : World) (hv : SL w v l) (hn : l.length ≤ 1000000) :
    Calls Tryd.prog 50 #[v] w fun e w' => e = .returned (.bool (digB l)) ∧ w = w' := (digestsR_any v l w hv hn).mono fun _ _ h => ⟨h.1, h.2.symm⟩

end Go.Proofs.YthdfadlniacdcaaDoor
