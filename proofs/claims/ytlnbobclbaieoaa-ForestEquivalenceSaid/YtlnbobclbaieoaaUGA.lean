/- Contracts and facts. -/
import Derived.Deep.LoopGhost
import Derived.Handy
import Derived.WalkMore
import Derived.BigRegion
import Derived.Laws.EntriesVeiled
import Derived.Test.YtlnbobclbaieoaaUFX
set_option linter.unusedSimpArgs false
set_option maxRecDepth 100000
set_option maxHeartbeats 4000000
namespace Go.Proofs.Ytlnbobclbaieoaa
open Go.RowKit
def isV (n : Int) : Bool := decide (0 ≤ n) && decide (n < 24)
def okE (last n : Int) (e : Ed) : Bool := !(decide (e.id ≤ last) || decide (40 ≤ e.id) || !isV (otherI e n) || decide (e.wt < -1000) || decide (1000 < e.wt))
def vaF (n : Int) : Int → List Ed → Bool
  | _, [] => isV n
  | last, e :: l => okE last n e && vaF n e.id l
theorem isVertex_any (n : Int) (w : World) : Calls Try.prog 77 #[.int .i64 n] w fun e w' => e = .returned (.bool (isV n)) ∧ w' = w := by
  unfold isV
  by_cases h1 : 0 ≤ n
  · by_cases h2 : n < 24
    · go_enter Try.func77, Try.ntmps77
      go_wp2_with fail
      go_ret
      exact ⟨by simp [h1, h2], rfl⟩
    · go_enter Try.func77, Try.ntmps77
      go_wp2_with fail
      go_ret
      exact ⟨by simp [h1, h2], rfl⟩
  · go_enter Try.func77, Try.ntmps77
    go_wp2_with fail
    go_ret
    exact ⟨by rw [decide_eq_false (by omega : ¬ 0 ≤ n)]; rfl, rfl⟩
theorem validAt_any (n : Int) (v : Value) (l : List Ed) (w : World) (hl : EL w v l) (hn : l.length ≤ 1000000000000) :
    Calls Try.prog 60 #[.int .i64 n, v] w fun e w' => e = .returned (.bool (vaF n (-1) l)) ∧ Below w.heap.size w w' := by
  obtain ⟨R, hR⟩ : ∃ R, Hid (vaF n (-1) l = R) := ⟨_, rfl⟩
  rw [hR.out]
  obtain ⟨b1, b2, rfl⟩ := hl.shape
  have cellE := Lib.hid hl.cells
  have ho := Lib.hid (fun (e : Ed) w' => Other_any e n w')
  have hV := Lib.hid (fun (y : Int) w' => isVertex_any y w')
  obtain ⟨N, hN⟩ : ∃ N, Hid (N = l.length) := ⟨_, rfl⟩
  rw [← hN.out] at hn ⊢
  clear hl
  go_enter Try.func60, Try.ntmps60
  go_wp2_with fail
  go_loopg [5, 7, 10] N (fun m lv _ iv wr => ∃ (k : Nat) (last : Int), k + m = N ∧ lv = .int .i64 last ∧ iv = .int .i64 k ∧ vaF n last (l.drop k) = R ∧ Below w.heap.size w wr)
  case atStart => exact ⟨0, -1, by omega, rfl, rfl, by rw [List.drop_zero]; exact hR.out, Below.refl _ _⟩
  case round =>
    obtain ⟨k, last, hk, rfl, rfl, hva, B⟩ := hrel
    obtain ⟨wo, rfl⟩ : ∃ x, x = wr := ⟨_, rfl⟩
    have Bs := B.size
    cases gk with
    | zero =>
      have hk2 : k = N := by omega
      have i1 : ¬ (k : Int) < (N : Int) := by omega
      have hR2 : Hid (isV n = R) := by
        rw [List.drop_of_length_le (by rw [hk2, hN.out]; exact Nat.le_refl _)] at hva
        exact hva
      clear hk2 hva
      go_wp2_with fail
      refine (hV.out n wo).mono ?_
      rintro e w2 ⟨rfl, rfl⟩
      go_wp2_with fail
      go_ret
      exact ⟨by rw [hR2.out]; rfl, B⟩
    | succ ga =>
      have hlt : k < N := by omega
      have hkl : k < l.length := by rw [← hN.out]; exact hlt
      obtain ⟨bv, ov, rfl, cv⟩ := cellE.out k hkl
      obtain ⟨d0, d1, d2, d3, d4, d5⟩ := cv wo B
      have i0 : (0 : Int) ≤ (k : Int) := by omega
      have i1 : (k : Int) < (N : Int) := by omega
      have hle : Hid (k + 1 + ga = N) := by show _ = _; omega
      have Ba : Below w.heap.size w (wo.alloc (.cells (edCells l[k]) 40)) := B.alloc Bs _
      have hE0 : EdAt (wo.alloc (.cells (edCells l[k]) 40)) wo.heap.size 0 l[k] := EdAt.box wo l[k] 40
      have hE := Lib.hid (fun W (q : Below (wo.alloc (.cells (edCells l[k]) 40)).heap.size (wo.alloc (.cells (edCells l[k]) 40)) W) => hE0.below (by simp) q)
      have hBB := Lib.hid (fun W (q : Below (wo.alloc (.cells (edCells l[k]) 40)).heap.size (wo.alloc (.cells (edCells l[k]) 40)) W) => Ba.trans (q.mono Ba.size))
      rw [List.drop_eq_getElem_cons hkl] at hva
      have hst : Hid ((okE last n l[k] && vaF n l[k].id (l.drop (k + 1))) = R) := hva
      clear hE0 cv hva hk hlt Ba
      generalize l[k] = u at *
      obtain ⟨lr, hlr⟩ : ∃ lr, Hid (lr = l.drop (k + 1)) := ⟨_, rfl⟩
      rw [← hlr.out] at hst
      unfold edCells at hE hBB
      have ho' := Lib.hid (ho.out u)
      unfold Ed.val at ho'
      unfold okE isV at hst
      have hV' := Lib.hid (hV.out (otherI u n))
      unfold isV at hV'
      generalize otherI u n = y at *
      go_upto_region 5 with (fail)
      obtain ⟨w2, hw2⟩ : ∃ w2, w2 = wo.alloc (.cells #[.int .i64 u.id, .int .i64 u.src, .int .i64 u.dst, .bool u.dir, .int .i64 u.wt, .int .i64 u.cap] 40) := ⟨_, rfl⟩
      rw [← hw2] at hE hBB ⊢
      have hE2 := hE.out w2 (Below.refl _ _)
      have hB2 := hBB.out w2 (Below.refl _ _)
      have hh := Lib.hid (ho'.out w2)
      replace hw2 := Lib.hid hw2
      obtain ⟨e0, e1, e2, e3, e4, e5⟩ := hE2
      clear d0 d1 d2 d3 d4 d5
      by_cases c1 : u.id ≤ last
      · have hr : Hid (R = false) := by show _ = _; rw [← hst.out]; simp [c1]
        clear hst
        go_wp2_with fail
        go_ret
        exact ⟨by rw [hr.out]; rfl, hB2⟩
      by_cases c2 : 40 ≤ u.id
      · have hr : Hid (R = false) := by show _ = _; rw [← hst.out]; simp [c2]
        clear hst
        go_wp2_with fail
        go_ret
        exact ⟨by rw [hr.out]; rfl, hB2⟩
      go_wp2_with fail
      refine hh.out.mono ?_
      rintro e w3 ⟨rfl, b3⟩
      have B3 := hBB.out w3 b3
      have hv3 := Lib.hid (hV'.out w3)
      obtain ⟨e0, e1, e2, e3, e4, e5⟩ := hE.out w3 b3
      clear b3
      go_wp2_with fail
      refine hv3.out.mono ?_
      rintro e w4 ⟨rfl, rfl⟩
      by_cases c3 : (decide (0 ≤ y) && decide (y < 24)) = true
      · rw [c3] at hst ⊢
        by_cases c4 : u.wt < -1000
        · have hr : Hid (R = false) := by show _ = _; rw [← hst.out]; simp [c4]
          clear hst
          go_wp2_with fail
          go_ret
          exact ⟨by rw [hr.out]; rfl, B3⟩
        by_cases c5 : 1000 < u.wt
        · have hr : Hid (R = false) := by show _ = _; rw [← hst.out]; simp [c5]
          clear hst
          go_wp2_with fail
          go_ret
          exact ⟨by rw [hr.out]; rfl, B3⟩
        have hr : Hid (vaF n u.id lr = R) := by show _ = _; rw [← hst.out]; simp [c1, c2, c4, c5]
        clear hst
        go_wp2_with fail
        go_roundg ga
        case measure => omega
        case rel => exact ⟨k + 1, u.id, hle.out, rfl, by go_num, by rw [← hlr.out]; exact hr.out, B3⟩
      · rw [Bool.not_eq_true] at c3
        rw [c3] at hst ⊢
        have hr : Hid (R = false) := by show _ = _; rw [← hst.out]; simp
        clear hst
        go_wp2_with fail
        go_ret
        exact ⟨by rw [hr.out]; rfl, B3⟩

end Go.Proofs.Ytlnbobclbaieoaa
