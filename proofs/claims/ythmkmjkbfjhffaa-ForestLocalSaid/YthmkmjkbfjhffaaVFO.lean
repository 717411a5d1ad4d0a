/- Contracts and facts. -/
import Derived.Deep.LoopGhost
import Derived.Handy
import Derived.WalkMore
import Derived.BigRegion
import Derived.Test.YthmkmjkbfjhffaaVFL
set_option linter.unusedSimpArgs false
set_option maxRecDepth 100000
set_option maxHeartbeats 4000000
namespace Go.Proofs.Ythmkmjkbfjhffaa
open Go.RowKit
theorem OwnI.set {W : World} {base g n cap : Nat} {M : List Int} (h : OwnI W base (.slice (some ⟨g, 0, none⟩) n cap) M) (hM : M.length = n) (i : Nat) (a : Int) : OwnI (W.setCell ⟨g, i, none⟩ (.int .i64 a)) base (.slice (some ⟨g, 0, none⟩) n cap) (M.set i a) := by
  rcases h.2 with ⟨h0, _⟩ | ⟨g', cap', cur, he, h1, h2, h3, h4, h5, h6⟩
  · cases h0
  · injection he with e1 e2 e3
    injection e1 with e1
    injection e1 with e1
    subst e1 e3
    refine ⟨by simp [cI], .inr ⟨g, cap, _, rfl.trans (by rw [List.length_set, hM]), h1, heap_setCell_same W g i cur 3 _ h2, by rw [List.length_set]; exact h3, h4, by simpa using h5, ?_⟩⟩
    rw [List.length_set, Nat.mul_one, Array.toList_setIfInBounds, cI, List.map_set, List.take_set]
    rw [Nat.mul_one] at h6
    rw [h6]; rfl
def rvF (l : List Int) (i : Nat) : List Int := (List.range l.length).map fun x => if x < i ∨ l.length ≤ x + i then l.getD (l.length - 1 - x) 0 else l.getD x 0
theorem rv_len (l : List Int) (i : Nat) : (rvF l i).length = l.length := by simp [rvF]
theorem rv_at {l : List Int} {i x : Nat} (hx : x < l.length) : (rvF l i)[x]? = some (if x < i ∨ l.length ≤ x + i then l.getD (l.length - 1 - x) 0 else l.getD x 0) := by
  unfold rvF; rw [List.getElem?_map, List.getElem?_range hx]; rfl
theorem rv_zero (l : List Int) : rvF l 0 = l := by
  apply List.ext_getElem?
  intro x
  by_cases hx : x < l.length
  · rw [rv_at hx, if_neg (by omega), List.getD_eq_getElem?_getD, List.getElem?_eq_getElem hx]; rfl
  · rw [List.getElem?_eq_none (by rw [rv_len]; omega), List.getElem?_eq_none (by omega)]
theorem rv_end {l : List Int} {i : Nat} (h : l.length ≤ 2 * i + 1) : rvF l i = l.reverse := by
  apply List.ext_getElem?
  intro x
  by_cases hx : x < l.length
  · rw [rv_at hx, List.getElem?_reverse hx]
    by_cases h2 : x < i ∨ l.length ≤ x + i
    · rw [if_pos h2, List.getD_eq_getElem?_getD, List.getElem?_eq_getElem (by omega)]; rfl
    · rw [if_neg h2, List.getD_eq_getElem?_getD, show l.length - 1 - x = x by omega, List.getElem?_eq_getElem hx]; rfl
  · rw [List.getElem?_eq_none (by rw [rv_len]; omega), List.getElem?_eq_none (by simp; omega)]
theorem rv_step {l : List Int} {i : Nat} (h : i < l.length - 1 - i) : ((rvF l i).set i (l.getD (l.length - 1 - i) 0)).set (l.length - 1 - i) (l.getD i 0) = rvF l (i + 1) := by
  apply List.ext_getElem?
  intro x
  by_cases hx : x < l.length
  · rw [rv_at hx, List.getElem?_set, List.getElem?_set]
    simp only [List.length_set, rv_len]
    by_cases h1 : l.length - 1 - i = x
    · rw [if_pos h1, if_pos (by omega), if_pos (by omega)]; congr 2; omega
    · rw [if_neg h1]
      by_cases h2 : i = x
      · rw [if_pos h2, if_pos (by omega), if_pos (by omega), h2]
      · rw [if_neg h2, rv_at hx]
        by_cases h3 : x < i ∨ l.length ≤ x + i
        · rw [if_pos h3, if_pos (by omega)]
        · rw [if_neg h3, if_neg (by omega)]
  · rw [List.getElem?_eq_none (by simp [rv_len]; omega), List.getElem?_eq_none (by rw [rv_len]; omega)]
theorem OwnI.at_ {W : World} {base g n cap : Nat} {M : List Int} (h : OwnI W base (.slice (some ⟨g, 0, none⟩) n cap) M) (i : Nat) (x : Int) (hx : M[i]? = some x) : W.cell? ⟨g, i, none⟩ = some (.int .i64 x) ∧ W.frozen? ⟨g, i, none⟩ = false := by
  rcases h.2 with ⟨h0, _⟩ | ⟨g', cap', cur, he, h1, h2, h3, h4, h5, h6⟩
  · cases h0
  · injection he with e1 e2 e3
    injection e1 with e1
    injection e1 with e1
    subst e1
    refine ⟨?_, frozen_of_row _ _ _ _ _ h2⟩
    have hj : (cI M)[i]? = some (.int .i64 x) := by simp [cI, hx]
    have hi := (List.getElem?_eq_some_iff.1 hx).1
    rw [← h6, List.getElem?_take_of_lt (by omega)] at hj
    rw [cell_of_row _ _ _ _ _ _ h2]
    simpa using hj
theorem Reverse_any (g cap : Nat) (l : List Int) (base : Nat) (W : World) (h : OwnI W base (.slice (some ⟨g, 0, none⟩) l.length cap) l) (hl : l.length ≤ 1000) :
    Calls Try.prog 31 #[.slice (some ⟨g, 0, none⟩) l.length cap] W fun e w' => e = .returned (.tuple #[]) ∧ OwnI w' base (.slice (some ⟨g, 0, none⟩) l.length cap) l.reverse ∧ W.grownBy w' (some g) := by
  have hst := Lib.hid (fun i (hi : i < l.length - 1 - i) => rv_step (l := l) hi)
  have hen := Lib.hid (fun i (hi : l.length ≤ 2 * i + 1) => rv_end (l := l) hi)
  have hat := Lib.hid (fun i x (hx : x < l.length) => rv_at (l := l) (i := i) hx)
  have hln := Lib.hid (rv_len l)
  have h0 := h
  rw [← rv_zero l, rv_len] at h0
  have h1 := Lib.hid (show OwnI W base (.slice (some ⟨g, 0, none⟩) l.length cap) (rvF l 0) from h0)
  obtain ⟨n, hn⟩ : ∃ n, Hid (n = l.length) := ⟨_, rfl⟩
  rw [← hn.out] at hst hen hat hln h1 hl ⊢
  have hw := IntWalk.i64_in ((n : Int) - 1) (by omega)
  clear h h0
  go_enter Try.func31, Try.ntmps31
  go_wp2_with fail
  go_loopg [2, 3] n (fun m iv jv wr => ∃ i : Nat, i + m = n ∧ iv = .int .i64 i ∧ jv = .int .i64 ((n : Int) - 1 - i) ∧ OwnI wr base (.slice (some ⟨g, 0, none⟩) n cap) (rvF l i) ∧ W.grownBy wr (some g) ∧ 2 * i ≤ n)
  case atStart => exact ⟨0, by omega, rfl, by simp, h1.out, ⟨rfl, rfl, rfl, Nat.le_refl _, fun _ _ _ => rfl⟩, by omega⟩
  case round =>
    clear h1 hw
    obtain ⟨i, hi, rfl, rfl, ho, hg, hi2⟩ := hrel
    obtain ⟨wo, rfl⟩ : ∃ x, x = wr := ⟨_, rfl⟩
    by_cases hlt : (i : Int) < (n : Int) - 1 - i
    · have t1 : decide ((i : Int) < (n : Int) - 1 - i) = true := decide_eq_true hlt
      obtain ⟨j, hj⟩ : ∃ j, Hid (j = n - 1 - i) := ⟨_, rfl⟩
      have hji : (n : Int) - 1 - i = (j : Int) := by rw [hj.out]; omega
      have hjlt : j < n := by rw [hj.out]; omega
      have e1 := hat.out i i (by omega)
      have e2 := hat.out i j hjlt
      rw [if_neg (by omega)] at e1
      rw [if_neg (by have := hj.out; omega)] at e2
      obtain ⟨ci, fi⟩ := OwnI.at_ ho i _ e1
      obtain ⟨cj, fj⟩ := OwnI.at_ ho j _ e2
      have hsi := hst.out i (by have := hj.out; omega)
      rw [← hj.out] at hsi
      rw [hji] at hlt t1 ⊢
      generalize l.getD i 0 = a at *
      generalize l.getD j 0 = b at *
      have i0 : (0 : Int) ≤ (i : Int) := by omega
      have i1 : (i : Int) < (n : Int) := by omega
      have i2 : (0 : Int) ≤ (j : Int) := by omega
      have i3 : (j : Int) < (n : Int) := by omega
      have i4 : (i : Int) ≤ 1000 := by omega
      have hne : (⟨g, i, none⟩ : Addr) ≠ ⟨g, j, none⟩ := by intro e; injection e with _ e; omega
      have cj2 : (wo.setCell ⟨g, i, none⟩ (.int .i64 b)).cell? ⟨g, j, none⟩ = some (.int .i64 b) := by rw [World.cell?_setCell_other _ _ _ _ hne]; exact cj
      have ci2 : (wo.setCell ⟨g, j, none⟩ (.int .i64 a)).cell? ⟨g, i, none⟩ = some (.int .i64 a) := by rw [World.cell?_setCell_other _ _ _ _ hne.symm]; exact ci
      replace ho := Lib.hid ho
      replace hg := Lib.hid hg
      replace hji := Lib.hid hji
      clear e1 e2 hne
      go_wp2_with fail
      go_region
      have ho3 : Hid (OwnI ((wo.setCell ⟨g, i, none⟩ (.int .i64 b)).setCell ⟨g, j, none⟩ (.int .i64 a)).drew base (.slice (some ⟨g, 0, none⟩) n cap) (rvF l (i + 1))) := by
        have h1 := (OwnI.set ho.out (hln.out i) i b).set (by rw [List.length_set]; exact hln.out i) j a
        rw [hsi] at h1; exact h1
      have hg3 : Hid (W.grownBy ((wo.setCell ⟨g, i, none⟩ (.int .i64 b)).setCell ⟨g, j, none⟩ (.int .i64 a)).drew (some g)) := by
        have h1 := hg.out
        refine ⟨h1.os, h1.tape, h1.output, by have := h1.size; simpa using this, fun k hk hne => ?_⟩
        have hk2 : k ≠ g := fun e => hne (by rw [e])
        show ((wo.setCell ⟨g, i, none⟩ (.int .i64 b)).setCell ⟨g, j, none⟩ (.int .i64 a)).heap[k]? = _
        rw [heap_setCell_other _ _ _ _ hk2, heap_setCell_other _ _ _ _ hk2]; exact h1.block k hk hne
      go_wp2_with fail
      go_roundg (gk - 1)
      case measure => omega
      case rel => exact ⟨i + 1, by omega, by go_num, by have := hji.out; congr 1; omega, ho3.out, hg3.out, by have := hj.out; omega⟩
    · have t1 : decide ((i : Int) < (n : Int) - 1 - i) = false := decide_eq_false hlt
      have hr := hen.out i (by omega)
      rw [hr] at ho
      replace ho := Lib.hid ho
      replace hg := Lib.hid hg
      clear hr
      go_wp2_with fail
      go_end0
      exact ⟨rfl, ho.out, hg.out⟩

end Go.Proofs.Ythmkmjkbfjhffaa
/- Contracts and facts. -/
set_option linter.unusedSimpArgs false
set_option maxRecDepth 100000
set_option maxHeartbeats 4000000
namespace Go.Proofs.Ythmkmjkbfjhffaa
open Go.RowKit
theorem Reverse_own (v : Value) (l : List Int) (base : Nat) (W : World) (h : OwnI W base v l) (hl : l.length ≤ 1000) :
    Calls Try.prog 31 #[v] W fun e w' => e = .returned (.tuple #[]) ∧ OwnI w' base v l.reverse ∧ W.grownBy w' v.ownBlock := by
  rcases h.2 with ⟨rfl, h0⟩ | ⟨g, cap, cur, rfl, _⟩
  · have e := List.length_eq_zero_iff.1 h0
    subst e
    have t1 : decide ((0 : Int) < -1) = false := rfl
    go_enter Try.func31, Try.ntmps31
    go_wp2_with fail
    go_loopg [2, 3] 0 (fun m iv jv wr => iv = .int .i64 0 ∧ jv = .int .i64 (-1) ∧ wr = W)
    case atStart => exact ⟨rfl, rfl, rfl⟩
    case round =>
      obtain ⟨rfl, rfl, rfl⟩ := hrel
      go_wp2_with fail
      go_end0
      exact ⟨rfl, World.ownsRow_nil _ _ _ _, ⟨rfl, rfl, rfl, Nat.le_refl _, fun _ _ _ => rfl⟩⟩
  · exact (Reverse_any g cap l base W h hl).mono fun e w' ⟨h1, h2, h3⟩ => ⟨h1, h2, h3⟩
theorem OwnI.cut {W : World} {base n c m : Nat} {f : Option Addr} {l : List Int} (h : OwnI W base (.slice f n c) l) (hn : n = l.length) (hm : m ≤ n) : OwnI W base (.slice f m c) (l.take m) := by
  rcases h.2 with ⟨h0, h1⟩ | ⟨g, cap, cur, he, h2, h3, h4, h5, h6, h7⟩
  · injection h0 with e1 e2 e3
    subst e1 e2 e3
    have : m = 0 := by omega
    subst this; exact World.ownsRow_nil _ _ _ _
  · injection he with e1 e2 e3
    subst e1 e3
    rw [Nat.mul_one] at h7
    refine ⟨by simp [cI], .inr ⟨g, c, cur, ?_, h2, h3, ?_, h5, h6, ?_⟩⟩
    · rw [List.length_take, Nat.min_eq_left (by omega)]
    · rw [List.length_take]; omega
    · rw [List.length_take, Nat.min_eq_left (by omega), Nat.mul_one]
      have := congrArg (List.take m) h7
      rw [List.take_take, Nat.min_eq_left (by omega)] at this
      rw [this]; simp [cI, List.map_take]
theorem OwnI.form {W : World} {base : Nat} {v : Value} {l : List Int} (h : OwnI W base v l) : ∃ f c, v = .slice f l.length c ∧ l.length ≤ c ∧ (0 < l.length → ∃ g, f = some ⟨g, 0, none⟩) := by
  rcases h.2 with ⟨rfl, h0⟩ | ⟨g, cap, cur, rfl, _, _, h3, _⟩
  · exact ⟨none, 0, by rw [h0], by omega, fun q => by omega⟩
  · exact ⟨_, cap, rfl, h3, fun _ => ⟨g, rfl⟩⟩
/-- the last elements are struck as long as they are the same -/
def strk (l1 l2 : List Int) (n1 n2 : Nat) : Prop := cp (l1.take n1).reverse (l2.take n2).reverse = cp l1.reverse l2.reverse
theorem strk_step {l1 l2 : List Int} {n1 n2 : Nat} (h : strk l1 l2 (n1 + 1) (n2 + 1)) {a : Int} (h1 : l1[n1]? = some a) (h2 : l2[n2]? = some a) : strk l1 l2 n1 n2 := by
  unfold strk at h ⊢
  rw [← h]
  obtain ⟨k1, e1⟩ := List.getElem?_eq_some_iff.1 h1
  obtain ⟨k2, e2⟩ := List.getElem?_eq_some_iff.1 h2
  rw [List.take_succ_eq_append_getElem k1, List.take_succ_eq_append_getElem k2, e1, e2]
  simp [cp]
theorem strk_end {l1 l2 : List Int} {n1 n2 : Nat} (h : strk l1 l2 n1 n2) (he : n1 = 0 ∨ n2 = 0 ∨ ∃ m1 m2 a b, n1 = m1 + 1 ∧ n2 = m2 + 1 ∧ l1[m1]? = some a ∧ l2[m2]? = some b ∧ a ≠ b) : l1.take n1 ++ (l2.take n2).reverse = (cp l1.reverse l2.reverse).1.reverse ++ (cp l1.reverse l2.reverse).2 := by
  unfold strk at h
  rw [← h]
  rcases he with rfl | rfl | ⟨m1, m2, a, b, rfl, rfl, h1, h2, hne⟩
  · cases hr : (l2.take n2).reverse <;> simp [cp, hr]
  · cases hr : (l1.take n1).reverse with
    | nil => have := congrArg List.reverse hr; simp at this; simp [cp]; rcases this with h | h <;> simp [h]
    | cons x xs => rw [← List.reverse_reverse (l1.take n1), hr]; simp [cp]
  · obtain ⟨k1, e1⟩ := List.getElem?_eq_some_iff.1 h1
    obtain ⟨k2, e2⟩ := List.getElem?_eq_some_iff.1 h2
    rw [List.take_succ_eq_append_getElem k1, List.take_succ_eq_append_getElem k2, e1, e2]
    simp [cp, hne]
def pathC (g : Gr) (a b : Int) : List Int × Int := if (connF g a b).1 = true then (pathF g.es (growF g.es (keysV g.vs)) a b, 0) else ([], 70)

end Go.Proofs.Ythmkmjkbfjhffaa
