/- Contracts and facts. -/
import Derived.Deep.LoopGhost
import Derived.Handy
import Derived.WalkMore
import Derived.BigRegion
import Derived.Laws.EntriesVeiled
import Derived.Test.YthmkmjkbfjhffaaVFX
set_option linter.unusedSimpArgs false
set_option maxRecDepth 100000
set_option maxHeartbeats 4000000
namespace Go.Proofs.Ythmkmjkbfjhffaa
open Go.RowKit
def isV (n : Int) : Bool := decide (0 ≤ n) && decide (n < 24)
def okE (last n : Int) (e : Ed) : Bool := !(decide (e.id ≤ last) || decide (40 ≤ e.id) || !isV (otherI e n) || decide (e.wt < -1000) || decide (1000 < e.wt))
def vaF (n : Int) : Int → List Ed → Bool
  | _, [] => isV n
  | last, e :: l => okE last n e && vaF n e.id l
theorem isVertex_any (n : Int) (w : World) : Calls Try.prog 62 #[.int .i64 n] w fun e w' => e = .returned (.bool (isV n)) ∧ w' = w := by
  unfold isV
  by_cases h1 : 0 ≤ n
  · by_cases h2 : n < 24
    · go_enter Try.func62, Try.ntmps62
      go_wp2_with fail
      go_ret
      exact ⟨by simp [h1, h2], rfl⟩
    · go_enter Try.func62, Try.ntmps62
      go_wp2_with fail
      go_ret
      exact ⟨by simp [h1, h2], rfl⟩
  · go_enter Try.func62, Try.ntmps62
    go_wp2_with fail
    go_ret
    exact ⟨by rw [decide_eq_false (by omega : ¬ 0 ≤ n)]; rfl, rfl⟩
theorem validAt_any (n : Int) (v : Value) (l : List Ed) (w : World) (hl : EL w v l) (hn : l.length ≤ 1000000000000) :
    Calls Try.prog 45 #[.int .i64 n, v] w fun e w' => e = .returned (.bool (vaF n (-1) l)) ∧ Below w.heap.size w w' := by
  obtain ⟨R, hR⟩ : ∃ R, Hid (vaF n (-1) l = R) := ⟨_, rfl⟩
  rw [hR.out]
  obtain ⟨b1, b2, rfl⟩ := hl.shape
  have cellE := Lib.hid hl.cells
  have ho := Lib.hid (fun (e : Ed) w' => Other_any e n w')
  have hV := Lib.hid (fun (y : Int) w' => isVertex_any y w')
  obtain ⟨N, hN⟩ : ∃ N, Hid (N = l.length) := ⟨_, rfl⟩
  rw [← hN.out] at hn ⊢
  clear hl
  go_enter Try.func45, Try.ntmps45
  go_wp2_with fail
  go_loopg [5, 7, 10] N (fun m lv _ iv wr => ∃ (k : Nat) (last : Int), k + m = N ∧ lv = .int .i64 last ∧ iv = .int .i64 k ∧ vaF n last (l.drop k) = R ∧ Below w.heap.size w wr)
  case atStart => exact ⟨0, -1, by omega, rfl, rfl, by rw [List.drop_zero]; exact hR.out, Below.refl _ _⟩
  case round =>
    obtain ⟨k, last, hk, rfl, rfl, hva, B⟩ := hrel
    obtain ⟨wo, rfl⟩ : ∃ x, x = wr := ⟨_, rfl⟩
    have Bs := B.size
    cases gk with
    | zero =>
      have hk2 : k = N := by omega
      have i1 : ¬ (k : Int) < (N : Int) := by omega
      have hR2 : Hid (isV n = R) := by
        rw [List.drop_of_length_le (by rw [hk2, hN.out]; exact Nat.le_refl _)] at hva
        exact hva
      clear hk2 hva
      go_wp2_with fail
      refine (hV.out n wo).mono ?_
      rintro e w2 ⟨rfl, rfl⟩
      go_wp2_with fail
      go_ret
      exact ⟨by rw [hR2.out]; rfl, B⟩
    | succ ga =>
      have hlt : k < N := by omega
      have hkl : k < l.length := by rw [← hN.out]; exact hlt
      obtain ⟨bv, ov, rfl, cv⟩ := cellE.out k hkl
      obtain ⟨d0, d1, d2, d3, d4, d5⟩ := cv wo B
      have i0 : (0 : Int) ≤ (k : Int) := by omega
      have i1 : (k : Int) < (N : Int) := by omega
      have hle : Hid (k + 1 + ga = N) := by show _ = _; omega
      have Ba : Below w.heap.size w (wo.alloc (.cells (edCells l[k]) 40)) := B.alloc Bs _
      have hE0 : EdAt (wo.alloc (.cells (edCells l[k]) 40)) wo.heap.size 0 l[k] := EdAt.box wo l[k] 40
      have hE := Lib.hid (fun W (q : Below (wo.alloc (.cells (edCells l[k]) 40)).heap.size (wo.alloc (.cells (edCells l[k]) 40)) W) => hE0.below (by simp) q)
      have hBB := Lib.hid (fun W (q : Below (wo.alloc (.cells (edCells l[k]) 40)).heap.size (wo.alloc (.cells (edCells l[k]) 40)) W) => Ba.trans (q.mono Ba.size))
      rw [List.drop_eq_getElem_cons hkl] at hva
      have hst : Hid ((okE last n l[k] && vaF n l[k].id (l.drop (k + 1))) = R) := hva
      clear hE0 cv hva hk hlt Ba
      generalize l[k] = u at *
      obtain ⟨lr, hlr⟩ : ∃ lr, Hid (lr = l.drop (k + 1)) := ⟨_, rfl⟩
      rw [← hlr.out] at hst
      unfold edCells at hE hBB
      have ho' := Lib.hid (ho.out u)
      unfold Ed.val at ho'
      unfold okE isV at hst
      have hV' := Lib.hid (hV.out (otherI u n))
      unfold isV at hV'
      generalize otherI u n = y at *
      go_upto_region 5 with (fail)
      obtain ⟨w2, hw2⟩ : ∃ w2, w2 = wo.alloc (.cells #[.int .i64 u.id, .int .i64 u.src, .int .i64 u.dst, .bool u.dir, .int .i64 u.wt, .int .i64 u.cap] 40) := ⟨_, rfl⟩
      rw [← hw2] at hE hBB ⊢
      have hE2 := hE.out w2 (Below.refl _ _)
      have hB2 := hBB.out w2 (Below.refl _ _)
      have hh := Lib.hid (ho'.out w2)
      replace hw2 := Lib.hid hw2
      obtain ⟨e0, e1, e2, e3, e4, e5⟩ := hE2
      clear d0 d1 d2 d3 d4 d5
      by_cases c1 : u.id ≤ last
      · have hr : Hid (R = false) := by show _ = _; rw [← hst.out]; simp [c1]
        clear hst
        go_wp2_with fail
        go_ret
        exact ⟨by rw [hr.out]; rfl, hB2⟩
      by_cases c2 : 40 ≤ u.id
      · have hr : Hid (R = false) := by show _ = _; rw [← hst.out]; simp [c2]
        clear hst
        go_wp2_with fail
        go_ret
        exact ⟨by rw [hr.out]; rfl, hB2⟩
      go_wp2_with fail
      refine hh.out.mono ?_
      rintro e w3 ⟨rfl, b3⟩
      have B3 := hBB.out w3 b3
      have hv3 := Lib.hid (hV'.out w3)
      obtain ⟨e0, e1, e2, e3, e4, e5⟩ := hE.out w3 b3
      clear b3
      go_wp2_with fail
      refine hv3.out.mono ?_
      rintro e w4 ⟨rfl, rfl⟩
      by_cases c3 : (decide (0 ≤ y) && decide (y < 24)) = true
      · rw [c3] at hst ⊢
        by_cases c4 : u.wt < -1000
        · have hr : Hid (R = false) := by show _ = _; rw [← hst.out]; simp [c4]
          clear hst
          go_wp2_with fail
          go_ret
          exact ⟨by rw [hr.out]; rfl, B3⟩
        by_cases c5 : 1000 < u.wt
        · have hr : Hid (R = false) := by show _ = _; rw [← hst.out]; simp [c5]
          clear hst
          go_wp2_with fail
          go_ret
          exact ⟨by rw [hr.out]; rfl, B3⟩
        have hr : Hid (vaF n u.id lr = R) := by show _ = _; rw [← hst.out]; simp [c1, c2, c4, c5]
        clear hst
        go_wp2_with fail
        go_roundg ga
        case measure => omega
        case rel => exact ⟨k + 1, u.id, hle.out, rfl, by go_num, by rw [← hlr.out]; exact hr.out, B3⟩
      · rw [Bool.not_eq_true] at c3
        rw [c3] at hst ⊢
        have hr : Hid (R = false) := by show _ = _; rw [← hst.out]; simp
        clear hst
        go_wp2_with fail
        go_ret
        exact ⟨by rw [hr.out]; rfl, B3⟩

end Go.Proofs.Ythmkmjkbfjhffaa
/- Contracts and facts. -/
set_option linter.unusedSimpArgs false
set_option maxRecDepth 100000
set_option maxHeartbeats 4000000
namespace Go.Proofs.Ythmkmjkbfjhffaa
open Go.RowKit
/-- what is asked of the reading of labels -/
def ReadC : Prop := ∀ (v : Value) (L : List Nm) (w : World), NL w v L → L.length ≤ 1000000 → Calls Try.prog 40 #[v] w fun e w' => ∃ mb, e = .returned (.map (some mb)) ∧ PMV w' mb (readF L) ∧ Below w.heap.size w w' ∧ mb < w'.heap.size
def nbF (m : PM) (n : Int) (e : Ed) : Bool := (m (otherI e n)).isSome && (gp m (otherI e n)).root == (gp m n).root && !decide ((gp m (otherI e n)).depth < (gp m n).depth - 1)
def goodF (n : Int) (es : List Ed) (m : PM) : Bool :=
  if (m n).isSome = true ∧ vaF n (-1) es = true ∧ ¬ (gp m n).root < 0 ∧ ¬ n < (gp m n).root ∧ ¬ (gp m n).depth < 0 then
    es.all (nbF m n) && (if (gp m n).root = n ∨ (gp m n).depth = 0 then decide ((gp m n).root = n ∧ (gp m n).depth = 0 ∧ (gp m n).edge = -1) else decide (0 ≤ (gp m n).edge) && (gp m n).edge == upF m n es)
  else false
theorem Good_any (hRead : ReadC) (n sd : Int) (dv ev lv : Value) (es : List Ed) (L : List Nm) (w : World) (he : EL w ev es) (hL : NL w lv L) (hn : es.length ≤ 1000000000) (hLn : L.length ≤ 1000000) (hd : (gp (readF L) n).depth ≤ 9223372036854775807) :
    Calls Try.prog 26 #[.agg #[.int .i64 n, .int .i64 sd, dv, ev, lv]] w fun e w' => e = .returned (.bool (goodF n es (readF L))) ∧ Below w.heap.size w w' := by
  obtain ⟨R, hR⟩ : ∃ R, Hid (goodF n es (readF L) = R) := ⟨_, rfl⟩
  rw [hR.out]
  obtain ⟨w1, hw1⟩ : ∃ w1, w1 = w.alloc (.cells #[.int .i64 n, .int .i64 sd, dv, ev, lv] 51) := ⟨_, rfl⟩
  have gb : w1.heap[w.heap.size]? = some (.cells #[.int .i64 n, .int .i64 sd, dv, ev, lv] 51 (0, 0)) := by rw [hw1]; exact heap_alloc_new w _
  have B0 : Below w.heap.size w w1 := by rw [hw1]; exact (Below.refl _ w).alloc (Nat.le_refl _) _
  have hs1 : w1.heap.size = w.heap.size + 1 := by rw [hw1]; simp
  have hbox := Lib.hid (fun W (q : Below w1.heap.size w1 W) => (q.block _ (show w.heap.size < w1.heap.size by omega)).trans gb)
  have box5 : ∀ {W : World}, W.heap[w.heap.size]? = some (.cells #[.int .i64 n, .int .i64 sd, dv, ev, lv] 51 (0, 0)) → W.cell? ⟨w.heap.size, 0, none⟩ = some (.int .i64 n) ∧ W.cell? ⟨w.heap.size, 1, none⟩ = some (.int .i64 sd) ∧ W.cell? ⟨w.heap.size, 2, none⟩ = some dv ∧ W.cell? ⟨w.heap.size, 3, none⟩ = some ev ∧ W.cell? ⟨w.heap.size, 4, none⟩ = some lv := fun h => ⟨by rw [cell_of_row _ _ _ _ _ _ h]; rfl, by rw [cell_of_row _ _ _ _ _ _ h]; rfl, by rw [cell_of_row _ _ _ _ _ _ h]; rfl, by rw [cell_of_row _ _ _ _ _ _ h]; rfl, by rw [cell_of_row _ _ _ _ _ _ h]; rfl⟩
  have hG := Lib.hid (fun W (q : Below w1.heap.size w1 W) => box5 (hbox.out W q))
  have hr1 := Lib.hid (hRead lv L w1 (hL.below B0) hLn)
  have hE1 := Lib.hid (fun W (q : Below w1.heap.size w1 W) => (he.below B0).below q)
  obtain ⟨m, hm⟩ : ∃ m, Hid (m = readF L) := ⟨_, rfl⟩
  rw [← hm.out] at hR hr1 hd
  replace hw1 := Lib.hid hw1
  replace B0 := Lib.hid B0
  clear box5 hbox hs1 gb he hL
  obtain ⟨g0, g1, g2, g3, g4⟩ := hG.out w1 (Below.refl _ _)
  go_enter Try.func26, Try.ntmps26
  go_upto_region 1 with (fail)
  rw [← hw1.out]
  go_wp2_with fail
  refine hr1.out.mono ?_
  rintro e w2 ⟨mb, rfl, hP, b2, hmb⟩
  have B2 := Lib.hid b2
  clear hr1 b2 g0 g1 g2 g3 g4
  have hget := hP.getOk n
  obtain ⟨w3, hw3⟩ : ∃ w3, w3 = w2.alloc (.cells #[.int .i64 (gp m n).root, .int .i64 (gp m n).depth, .int .i64 (gp m n).edge] 72) := ⟨_, rfl⟩
  have b3 : Below w2.heap.size w2 w3 := by rw [hw3]; exact (Below.refl _ w2).alloc (Nat.le_refl _) _
  have pb : w3.heap[w2.heap.size]? = some (.cells #[.int .i64 (gp m n).root, .int .i64 (gp m n).depth, .int .i64 (gp m n).edge] 72 (0, 0)) := by rw [hw3]; exact heap_alloc_new w2 _
  have hs3 : w3.heap.size = w2.heap.size + 1 := by rw [hw3]; simp
  have B3 := Lib.hid (B2.out.trans (b3.mono B2.out.size))
  have hPW := Lib.hid (fun W (q : Below w3.heap.size w3 W) => (hP.below b3 hmb).below q (by omega))
  have hpl := Lib.hid (fun W (q : Below w3.heap.size w3 W) => box3g ((q.block _ (show w2.heap.size < w3.heap.size by omega)).trans pb))
  have hmb4 : Hid (mb < w3.heap.size) := Nat.lt_of_lt_of_le hmb b3.size
  replace hw3 := Lib.hid hw3
  clear b3 pb hs3 hP hmb
  go_upto_region 4 with (fail)
  rw [← hw3.out]
  clear hget
  obtain ⟨p0, p1, p2⟩ := hpl.out w3 (Below.refl _ _)
  obtain ⟨g0, g1, g2, g3, g4⟩ := hG.out w3 B3.out
  have hva := Lib.hid (validAt_any n ev es w3 (hE1.out w3 B3.out) (by omega))
  have hNo : Hid (¬ ((m n).isSome = true ∧ vaF n (-1) es = true ∧ ¬ (gp m n).root < 0 ∧ ¬ n < (gp m n).root ∧ ¬ (gp m n).depth < 0) → R = false) := fun h => by rw [← hR.out]; unfold goodF; rw [if_neg h]
  obtain ⟨Y, hY⟩ : ∃ Y, Hid (Y = (es.all (nbF m n) && (if (gp m n).root = n ∨ (gp m n).depth = 0 then decide ((gp m n).root = n ∧ (gp m n).depth = 0 ∧ (gp m n).edge = -1) else decide (0 ≤ (gp m n).edge) && (gp m n).edge == upF m n es))) := ⟨_, rfl⟩
  have hYes : Hid (((m n).isSome = true ∧ vaF n (-1) es = true ∧ ¬ (gp m n).root < 0 ∧ ¬ n < (gp m n).root ∧ ¬ (gp m n).depth < 0) → Y = R) := fun h => by rw [← hR.out, hY.out]; unfold goodF; rw [if_pos h]
  clear hR
  by_cases hk : (m n).isSome = true
  · rw [hk]
    go_wp2_with fail
    refine hva.out.mono ?_
    rintro e w4 ⟨rfl, b4⟩
    have B4 := Lib.hid (B3.out.trans (b4.mono B3.out.size))
    have hB34 := Lib.hid b4
    clear hva b4 g0 g1 g2 g3 g4 p0 p1 p2
    obtain ⟨p0, p1, p2⟩ := hpl.out w4 hB34.out
    by_cases c1 : vaF n (-1) es = true
    · rw [c1]
      by_cases c2 : (gp m n).root < 0
      · have hr : Hid (R = false) := hNo.out (fun h => by have := h.2.2.1; omega)
        go_wp2_with fail
        go_ret
        exact ⟨by rw [hr.out]; rfl, B0.out.trans (B4.out.mono B0.out.size)⟩
      by_cases c3 : n < (gp m n).root
      · have hr : Hid (R = false) := hNo.out (fun h => by have := h.2.2.2.1; omega)
        go_wp2_with fail
        go_ret
        exact ⟨by rw [hr.out]; rfl, B0.out.trans (B4.out.mono B0.out.size)⟩
      by_cases c4 : (gp m n).depth < 0
      · have hr : Hid (R = false) := hNo.out (fun h => by have := h.2.2.2.2; omega)
        go_wp2_with fail
        go_ret
        exact ⟨by rw [hr.out]; rfl, B0.out.trans (B4.out.mono B0.out.size)⟩
      have hYR := Lib.hid (hYes.out ⟨hk, c1, by omega, by omega, by omega⟩)
      clear hNo hYes
      obtain ⟨g0, g1, g2, g3, g4⟩ := hG.out w4 B4.out
      have hplA := hpl
      clear hpl
      obtain ⟨N, hN⟩ : ∃ N, Hid (N = es.length) := ⟨_, rfl⟩
      obtain ⟨b1, b2, rfl⟩ := (hE1.out w1 (Below.refl _ _)).shape
      have hEl := Lib.hid hn
      rw [← hN.out] at hn g3 ⊢
      have cellE := Lib.hid (hE1.out w4 B4.out).cells
      obtain ⟨A, hA⟩ : ∃ A, Hid (es.all (nbF m n) = A) := ⟨_, rfl⟩
      rw [hA.out] at hY
      have hplW := Lib.hid (fun W (q : Below w4.heap.size w4 W) => hplA.out W (hB34.out.trans (q.mono hB34.out.size)))
      have hPW4 := Lib.hid (fun W (q : Below w4.heap.size w4 W) => hPW.out W (hB34.out.trans (q.mono hB34.out.size)))
      have hGW := Lib.hid (fun W (q : Below w4.heap.size w4 W) => hG.out W (B4.out.trans (q.mono B4.out.size)))
      have hEW := Lib.hid (fun W (q : Below w4.heap.size w4 W) => hE1.out W (B4.out.trans (q.mono B4.out.size)))
      have hmW := Lib.hid (fun W (q : Below w4.heap.size w4 W) => Nat.lt_of_lt_of_le hmb4.out (Nat.le_trans hB34.out.size q.size))
      have BF := Lib.hid (B0.out.trans (B4.out.mono B0.out.size))
      have ho := Lib.hid (fun (e : Ed) w' => Other_any e n w')
      have hdp : Hid (IntKind.i64.wrap ((gp m n).depth - 1) = (gp m n).depth - 1) := IntWalk.i64_in _ (by omega)
      clear hplA hPW hG hE1 hB34 B4 B3 hw3 B2 hw1 B0 hmb4
      go_wp2_with fail
      clear g0 g1 g2 g3 g4 p0 p1 p2
      go_loopg [51] N (fun q iv wr => ∃ k : Nat, k + q = N ∧ iv = .int .i64 k ∧ (es.drop k).all (nbF m n) = A ∧ Below w4.heap.size w4 wr)
      case atStart => exact ⟨0, by omega, rfl, by rw [List.drop_zero]; exact hA.out, Below.refl _ _⟩
      case round =>
        obtain ⟨k, hkN, rfl, hall, B⟩ := hrel
        obtain ⟨wo, rfl⟩ : ∃ x, x = wr := ⟨_, rfl⟩
        have Bs := B.size
        cases gk with
        | zero =>
          have hk2 : k = N := by omega
          have i1 : ¬ (k : Int) < (N : Int) := by omega
          have hAt : A = true := by
            rw [List.drop_of_length_le (by rw [hk2, hN.out]; exact Nat.le_refl _)] at hall
            rw [← hall]; rfl
          obtain ⟨g0, g1, g2, g3, g4⟩ := hGW.out wo B
          obtain ⟨p0, p1, p2⟩ := hplW.out wo B
          have hRY : Hid (R = (if (gp m n).root = n ∨ (gp m n).depth = 0 then decide ((gp m n).root = n ∧ (gp m n).depth = 0 ∧ (gp m n).edge = -1) else decide (0 ≤ (gp m n).edge) && (gp m n).edge == upF m n es)) := by show _ = _; rw [← hYR.out, hY.out, hAt, Bool.true_and]
          have BB := Lib.hid (BF.out.trans (B.mono BF.out.size))
          clear hk2 hall hYR hY hA hAt
          rcases Bool.eq_false_or_eq_true ((gp m n).root == n) with t1 | t1
          · have q1 : (gp m n).root = n := by simpa using t1
            have hr : Hid (R = decide ((gp m n).root = n ∧ (gp m n).depth = 0 ∧ (gp m n).edge = -1)) := by show _ = _; rw [hRY.out, if_pos (.inl q1)]
            have hq1 := Lib.hid q1
            clear hRY q1
            go_wp2_with fail
            all_goals go_ret
            all_goals refine ⟨?_, BB.out⟩
            all_goals rw [hr.out]
            all_goals first | exact congrArg (fun b => Ending.returned (Value.bool b)) (decide_eq_true ⟨hq1.out, by assumption, by assumption⟩).symm | exact congrArg (fun b => Ending.returned (Value.bool b)) (decide_eq_false (fun h => by obtain ⟨h1, h2, h3⟩ := h; contradiction)).symm
          · have q1 : ¬ (gp m n).root = n := by simpa using t1
            rcases Bool.eq_false_or_eq_true ((gp m n).depth == 0) with t2 | t2
            · have q2 : (gp m n).depth = 0 := by simpa using t2
              have hr : Hid (R = decide ((gp m n).root = n ∧ (gp m n).depth = 0 ∧ (gp m n).edge = -1)) := by show _ = _; rw [hRY.out, if_pos (.inr q2)]
              clear hRY q2
              have hq1 := Lib.hid q1
              clear q1
              go_wp2_with fail
              all_goals go_ret
              all_goals refine ⟨?_, BB.out⟩
              all_goals rw [hr.out]
              all_goals exact congrArg (fun b => Ending.returned (Value.bool b)) (decide_eq_false (fun h => hq1.out h.1)).symm
            · have q2 : ¬ (gp m n).depth = 0 := by simpa using t2
              have hr : Hid (R = (decide (0 ≤ (gp m n).edge) && (gp m n).edge == upF m n es)) := by show _ = _; rw [hRY.out, if_neg (fun h => h.elim q1 q2)]
              clear hRY q1 q2
              have hup := Lib.hid (fun W (q : Below wo.heap.size wo W) => up_any n (.slice b1 es.length b2) es mb m W (hEW.out W (B.trans (q.mono Bs))) (hPW4.out W (B.trans (q.mono Bs))) (hmW.out W (B.trans (q.mono Bs))) hEl.out (by omega))
              rw [← hN.out] at hup
              have hGo := Lib.hid (fun W (q : Below wo.heap.size wo W) => hGW.out W (B.trans (q.mono Bs)))
              rw [← hN.out] at hGo
              have hpo := Lib.hid (fun W (q : Below wo.heap.size wo W) => hplW.out W (B.trans (q.mono Bs)))
              generalize upF m n es = U at *
              have BBW := Lib.hid (fun W (q : Below wo.heap.size wo W) => BB.out.trans (q.mono BB.out.size))
              by_cases s1 : 0 ≤ (gp m n).edge
              · have hr : Hid (((gp m n).edge == U) = R) := by show _ = _; rw [hr.out, decide_eq_true s1, Bool.true_and]
                go_upto_region 15 with (fail)
                refine q_region (fun W => Below wo.heap.size wo W) (by kernel_rfl) (by kernel_rfl) ((Below.refl _ wo).drew) ?_
                repeat (first | (refine q_skip (by rfl) ?_; try simp only [Act.put, zT, z0, zS]) | (refine q_take (v := ?_) (by rfl) ?_ ?_; rotate_left; (first | ((intro w h; clear h; go_simp) <;> with_reducible rfl) | ((intro w h; obtain ⟨x0, x1, x2⟩ := hpo.out w h; clear h; go_simp) <;> with_reducible rfl) | ((intro w h; obtain ⟨x0, x1, x2, x3, x4⟩ := hGo.out w h; clear h; go_simp) <;> with_reducible rfl)); try simp only [Act.put, zT, z0, zS]))
                refine q_call (v := _) Try.f46 (by rfl) rfl Try.func46 (by kernel_rfl) (by kernel_rfl) #[.int .i64 n, .slice b1 N b2, .map (some mb)] (by simp [Act.eval]) (fun w h => (hup.out w h).mono fun e w3 ⟨he, hb⟩ => ⟨he, h.trans (hb.mono h.size)⟩) ?_; try simp only [Act.put, zT, z0, zS]
                repeat (first | (refine q_skip (by rfl) ?_; try simp only [Act.put, zT, z0, zS]) | (refine q_take (v := ?_) (by rfl) ?_ ?_; rotate_left; (first | ((intro w h; clear h; go_simp) <;> with_reducible rfl) | ((intro w h; obtain ⟨x0, x1, x2⟩ := hpo.out w h; clear h; go_simp) <;> with_reducible rfl) | ((intro w h; obtain ⟨x0, x1, x2, x3, x4⟩ := hGo.out w h; clear h; go_simp) <;> with_reducible rfl)); try simp only [Act.put, zT, z0, zS]))
                refine q_nil ?_
                intro w3 B3
                go_wp2_with fail
                go_ret
                exact ⟨by rw [← hr.out]; rfl, BBW.out w3 B3⟩
              · have hr : Hid (R = false) := by show _ = _; rw [hr.out, decide_eq_false s1, Bool.false_and]
                have s2 : (gp m n).edge < 0 := by omega
                go_upto_region 15 with (fail)
                refine q_region (fun W => Below wo.heap.size wo W) (by kernel_rfl) (by kernel_rfl) ((Below.refl _ wo).drew) ?_
                repeat (first | (refine q_skip (by rfl) ?_; try simp only [Act.put, zT, z0, zS]) | (refine q_take (v := ?_) (by rfl) ?_ ?_; rotate_left; (first | ((intro w h; clear h; go_simp) <;> with_reducible rfl) | ((intro w h; obtain ⟨x0, x1, x2⟩ := hpo.out w h; clear h; go_simp) <;> with_reducible rfl) | ((intro w h; obtain ⟨x0, x1, x2, x3, x4⟩ := hGo.out w h; clear h; go_simp) <;> with_reducible rfl)); try simp only [Act.put, zT, z0, zS]))
                refine q_nil ?_
                intro w3 B3
                go_wp2_with fail
                go_ret
                exact ⟨by rw [hr.out]; rfl, BBW.out w3 B3⟩
        | succ ga =>
          have hlt : k < N := by omega
          have hkl : k < es.length := by rw [← hN.out]; exact hlt
          obtain ⟨bv, ov, rfl, cv⟩ := cellE.out k hkl
          obtain ⟨d0, d1, d2, d3, d4, d5⟩ := cv wo B
          have i0 : (0 : Int) ≤ (k : Int) := by omega
          have i1 : (k : Int) < (N : Int) := by omega
          have hle : Hid (k + 1 + ga = N) := by show _ = _; omega
          have Ba : Below w4.heap.size w4 (wo.alloc (.cells (edCells es[k]) 40)) := B.alloc Bs _
          have hE0 : EdAt (wo.alloc (.cells (edCells es[k]) 40)) wo.heap.size 0 es[k] := EdAt.box wo es[k] 40
          have hE := Lib.hid (fun W (q : Below (wo.alloc (.cells (edCells es[k]) 40)).heap.size (wo.alloc (.cells (edCells es[k]) 40)) W) => hE0.below (by simp) q)
          have hBB := Lib.hid (fun W (q : Below (wo.alloc (.cells (edCells es[k]) 40)).heap.size (wo.alloc (.cells (edCells es[k]) 40)) W) => Ba.trans (q.mono Ba.size))
          rw [List.drop_eq_getElem_cons hkl, List.all_cons] at hall
          obtain ⟨lr, hlr⟩ : ∃ lr, Hid (lr = (es.drop (k + 1)).all (nbF m n)) := ⟨_, rfl⟩
          rw [← hlr.out] at hall
          have hst := Lib.hid hall
          have hFls : Hid (A = false → R = false) := fun h => by show R = false; rw [← hYR.out, hY.out, h]; rfl
          clear hE0 cv hall hkN hlt Ba
          generalize es[k] = u at *
          unfold edCells at hE hBB
          have ho' := Lib.hid (ho.out u)
          unfold Ed.val at ho'
          unfold nbF at hst
          generalize otherI u n = y at *
          go_upto_region 9 with (fail)
          obtain ⟨w2, hw2⟩ : ∃ w2, w2 = wo.alloc (.cells #[.int .i64 u.id, .int .i64 u.src, .int .i64 u.dst, .bool u.dir, .int .i64 u.wt, .int .i64 u.cap] 40) := ⟨_, rfl⟩
          rw [← hw2] at hE hBB ⊢
          have hE2 := hE.out w2 (Below.refl _ _)
          have hh := Lib.hid (ho'.out w2)
          replace hw2 := Lib.hid hw2
          obtain ⟨e0, e1, e2, e3, e4, e5⟩ := hE2
          clear d0 d1 d2 d3 d4 d5
          go_wp2_with fail
          refine hh.out.mono ?_
          rintro e w3 ⟨rfl, b3⟩
          have B3 := hBB.out w3 b3
          have hget := (hPW4.out w3 B3).getOk y
          have B5 : Below w4.heap.size w4 (w3.alloc (.cells #[.int .i64 (gp m y).root, .int .i64 (gp m y).depth, .int .i64 (gp m y).edge] 72)) := B3.alloc B3.size _
          obtain ⟨w5, hw5⟩ : ∃ w5, w5 = w3.alloc (.cells #[.int .i64 (gp m y).root, .int .i64 (gp m y).depth, .int .i64 (gp m y).edge] 72) := ⟨_, rfl⟩
          rw [← hw5] at B5
          have qb : w5.heap[w3.heap.size]? = some (.cells #[.int .i64 (gp m y).root, .int .i64 (gp m y).depth, .int .i64 (gp m y).edge] 72 (0, 0)) := by rw [hw5]; exact heap_alloc_new _ _
          obtain ⟨q0, q1, q2⟩ := box3g qb
          obtain ⟨p0, p1, p2⟩ := hplW.out w5 B5
          clear qb b3 e0 e1 e2 e3 e4 e5
          replace hw5 := Lib.hid hw5
          go_upto_region 10 with (fail)
          rw [← hw5.out]
          clear hget
          have BR := Lib.hid (BF.out.trans (B5.mono BF.out.size))
          by_cases z1 : (m y).isSome = true
          · rw [z1] at hst ⊢
            rcases Bool.eq_false_or_eq_true ((gp m y).root == (gp m n).root) with z2 | z2
            · have z2' : ((gp m y).root != (gp m n).root) = false := by rw [bne, z2]; rfl
              by_cases z3 : (gp m y).depth < (gp m n).depth - 1
              · have hr : Hid (R = false) := hFls.out (by rw [← hst.out]; simp [z3])
                have z3' : (gp m y).depth < IntKind.i64.wrap ((gp m n).depth - 1) := by rw [hdp.out]; exact z3
                clear hst
                go_wp2_with fail
                go_ret
                exact ⟨by rw [hr.out]; rfl, BR.out⟩
              · have hr : Hid (lr = A) := by show _ = _; rw [← hst.out, z2]; simp [z3]
                have z3' : ¬ (gp m y).depth < IntKind.i64.wrap ((gp m n).depth - 1) := by rw [hdp.out]; exact z3
                clear hst
                go_wp2_with fail
                go_roundg ga
                case measure => omega
                case rel => exact ⟨k + 1, hle.out, by go_num, by rw [← hlr.out]; exact hr.out, B5⟩
            · have z2' : ((gp m y).root != (gp m n).root) = true := by rw [bne, z2]; rfl
              have hr : Hid (R = false) := hFls.out (by rw [← hst.out, z2]; simp)
              clear hst
              go_wp2_with fail
              go_ret
              exact ⟨by rw [hr.out]; rfl, BR.out⟩
          · rw [Bool.not_eq_true] at z1
            rw [z1] at hst ⊢
            have hr : Hid (R = false) := hFls.out (by rw [← hst.out]; simp)
            clear hst
            go_wp2_with fail
            go_ret
            exact ⟨by rw [hr.out]; rfl, BR.out⟩
    · have hr : Hid (R = false) := hNo.out (fun h => c1 h.2.1)
      rw [Bool.not_eq_true] at c1
      rw [c1]
      go_wp2_with fail
      go_ret
      exact ⟨by rw [hr.out]; rfl, B0.out.trans (B4.out.mono B0.out.size)⟩
  · have hr : Hid (R = false) := hNo.out (fun h => hk h.1)
    rw [Bool.not_eq_true] at hk
    rw [hk]
    go_wp2_with fail
    go_ret
    exact ⟨by rw [hr.out]; rfl, B0.out.trans (B3.out.mono B0.out.size)⟩

end Go.Proofs.Ythmkmjkbfjhffaa
