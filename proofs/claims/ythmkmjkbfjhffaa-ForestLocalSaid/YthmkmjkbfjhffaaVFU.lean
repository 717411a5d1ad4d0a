/- Contracts and facts. -/
import Derived.Deep.LoopGhost
import Derived.Handy
import Derived.WalkMore
import Derived.BigRegion
import Derived.Test.YthmkmjkbfjhffaaVFS
set_option linter.unusedSimpArgs false
set_option maxRecDepth 100000
set_option maxHeartbeats 4000000
namespace Go.Proofs.Ythmkmjkbfjhffaa
open Go.RowKit
theorem asc_iff : ∀ (l : List Int), ascI2 l = true ↔ ∀ i (h : i + 1 < l.length), l[i] < l[i + 1] := by
  intro l
  induction l with
  | nil => simp [ascI2]
  | cons x t ih =>
    cases t with
    | nil => simp [ascI2]
    | cons y t =>
      simp only [ascI2, Bool.and_eq_true, decide_eq_true_eq]
      rw [ih]
      constructor
      · rintro ⟨h1, h2⟩ i hi
        cases i with
        | zero => exact h1
        | succ i => exact h2 i (by simpa using hi)
      · intro h
        exact ⟨h 0 (by simp), fun i hi => h (i + 1) (by simpa using hi)⟩
theorem ascending_any (vl : Value) (l : List Int) (w : World) (hl : DL w vl l) (hm : l.length ≤ 1000000000) :
    Calls Try.prog 34 #[vl] w fun e w' => e = .returned (.bool (ascI2 l)) ∧ Below w.heap.size w w' := by
  obtain ⟨l1, l2, rfl⟩ := hl.shape
  have cellD := Lib.hid hl.cells
  have hasc := Lib.hid (asc_iff l)
  obtain ⟨R, hR⟩ : ∃ R, Hid (R = ascI2 l) := ⟨_, rfl⟩
  rw [← hR.out] at hasc ⊢
  obtain ⟨N, hN⟩ : ∃ N, Hid (N = l.length) := ⟨_, rfl⟩
  rw [← hN.out] at hm ⊢
  clear hl
  go_enter Try.func34, Try.ntmps34
  go_wp2_with fail
  go_loopg [3] N (fun n iv wr => ∃ k : Nat, k + n = N + 1 ∧ iv = .int .i64 k ∧ 1 ≤ k ∧ (∀ i (h : i + 1 < l.length), i + 1 < k → l[i] < l[i + 1]) ∧ Below w.heap.size w wr)
  case atStart => exact ⟨1, by omega, rfl, by omega, fun i _ h => by omega, Below.refl _ _⟩
  case round =>
    obtain ⟨k, hk, rfl, h1, hall, B⟩ := hrel
    obtain ⟨wo, rfl⟩ : ∃ x, x = wr := ⟨_, rfl⟩
    have hk' : k + gk = N + 1 := hk
    clear hk
    by_cases hlt : k < N
    · have hkl : k < l.length := by rw [← hN.out]; exact hlt
      have hjl : k - 1 < l.length := by omega
      obtain ⟨bv, ov, rfl, cv⟩ := cellD.out k hkl
      obtain ⟨bv2, ov2, e2, cv2⟩ := cellD.out (k - 1) hjl
      injection e2 with e2
      injection e2 with e2 e3
      subst e2 e3
      have hc := Lib.hid (fun W (q : Below wo.heap.size wo W) => And.intro (cv W (B.trans (q.mono B.size))) (cv2 W (B.trans (q.mono B.size))))
      obtain ⟨j, hj⟩ : ∃ j, Hid (j = k - 1) := ⟨_, rfl⟩
      have hjk : Hid (k = j + 1) := by show _ = _; rw [hj.out]; omega
      have hw : IntKind.i64.wrap ((k : Int) - 1) = (j : Int) := by rw [IntWalk.i64_in _ (by omega), hj.out]; omega
      have i0 : (0 : Int) ≤ (k : Int) := by omega
      have i1 : (k : Int) < (N : Int) := by omega
      have i2 : (0 : Int) ≤ (j : Int) := by omega
      have i3 : (j : Int) < (N : Int) := by rw [hj.out]; omega
      have hno : Hid (l[k] ≤ l[k - 1] → R = false) := fun h => by
        refine Bool.eq_false_iff.2 fun q => ?_
        have := hasc.out.1 q (k - 1) (by omega)
        simp only [show k - 1 + 1 = k by omega] at this
        omega
      have hyes : Hid (¬ l[k] ≤ l[k - 1] → ∀ i (h : i + 1 < l.length), i + 1 < k + 1 → l[i] < l[i + 1]) := fun h i hi hik => by
        by_cases h2 : i + 1 < k
        · exact hall i hi h2
        · have : i = k - 1 := by omega
          subst this
          simp only [show k - 1 + 1 = k by omega]; omega
      have hg : Hid (∃ ga, gk = ga + 1 ∧ k + 1 + ga = N + 1) := ⟨gk - 1, by omega, by omega⟩
      generalize hx : l[k] = x at *
      generalize hy : l[k - 1] = y at *
      rw [← hj.out] at hc
      clear hx hy cv cv2 hall hkl hjl
      by_cases hxy : x ≤ y
      · have t1 : decide (x ≤ y) = true := decide_eq_true hxy
        have hf := Lib.hid (hno.out hxy)
        clear hxy hno hyes
        go_wp2_with fail
        refine q_region (fun W => Below wo.heap.size wo W) (by kernel_rfl) (by kernel_rfl) ((Below.refl _ wo).drew) ?_
        repeat (first | (refine q_skip (by rfl) ?_; try simp only [Act.put, zT, z0, zS]) | (refine q_take (v := ?_) (by rfl) ?_ ?_; rotate_left; (first | ((intro w h; clear h; go_simp) <;> with_reducible rfl) | ((intro w h; obtain ⟨e1, e2⟩ := hc.out w h; clear h; go_simp) <;> with_reducible rfl)); try simp only [Act.put, zT, z0, zS]))
        refine q_nil ?_
        intro wz hz
        have hB := Lib.hid (B.trans (hz.mono B.size))
        clear hz
        go_wp2_with fail
        go_ret
        exact ⟨ret_bool hf.out.symm, hB.out⟩
      · have t1 : decide (x ≤ y) = false := decide_eq_false hxy
        have hf := Lib.hid (hyes.out hxy)
        clear hxy hno hyes
        go_wp2_with fail
        refine q_region (fun W => Below wo.heap.size wo W) (by kernel_rfl) (by kernel_rfl) ((Below.refl _ wo).drew) ?_
        repeat (first | (refine q_skip (by rfl) ?_; try simp only [Act.put, zT, z0, zS]) | (refine q_take (v := ?_) (by rfl) ?_ ?_; rotate_left; (first | ((intro w h; clear h; go_simp) <;> with_reducible rfl) | ((intro w h; obtain ⟨e1, e2⟩ := hc.out w h; clear h; go_simp) <;> with_reducible rfl)); try simp only [Act.put, zT, z0, zS]))
        refine q_nil ?_
        intro wz hz
        have hB := Lib.hid (B.trans (hz.mono B.size))
        clear hz
        obtain ⟨ga, hga, hgb⟩ := hg.out
        replace hga := Lib.hid hga
        replace hgb := Lib.hid hgb
        go_wp2_with fail
        go_roundg ga
        case measure => have := hga.out; omega
        case rel => exact ⟨k + 1, by have := hgb.out; omega, by go_num, by omega, hf.out, hB.out⟩
    · have i1 : ¬ (k : Int) < (N : Int) := by omega
      have hf : Hid (R = true) := hasc.out.2 (fun i h => hall i h (by have := hN.out; omega))
      clear hall
      go_wp2_with fail
      go_ret
      exact ⟨ret_bool hf.out.symm, B⟩

end Go.Proofs.Ythmkmjkbfjhffaa
/- Contracts and facts. -/
set_option linter.unusedSimpArgs false
set_option maxRecDepth 100000
set_option maxHeartbeats 4000000
namespace Go.Proofs.Ythmkmjkbfjhffaa
open Go.RowKit
/-- the first place at which a closure says yes -/
theorem idx70_any (ib : Nat) (caps : Array Value) (hcaps : caps = #[.pointer (some ⟨ib, 0, none⟩)]) (p : Ed → Bool) (vl : Value) (l : List Ed) (w : World) (hl : EL w vl l) (hn : l.length ≤ 1000000000)
    (hc : ∀ u W, Below w.heap.size w W → Calls Try.prog 37 (#[u.val] ++ caps) W fun e w' => e = .returned (.bool (p u)) ∧ Below W.heap.size W w') :
    Calls Try.prog 53 #[vl, .func (.func 37) #[] caps] w fun e w' => (∃ r, e = .returned (.int .i64 r) ∧ (decide (r ≥ 0) = l.any p)) ∧ Below w.heap.size w w' := by
  subst hcaps
  obtain ⟨b1, b2, rfl⟩ := hl.shape
  have cellE := Lib.hid hl.cells
  have hcc := Lib.hid (fun u W (B : Below w.heap.size w W) => hc u W B)
  simp only [List.append_toArray, List.cons_append, List.nil_append] at hcc
  obtain ⟨A, hA⟩ : ∃ A, Hid (A = l.any p) := ⟨_, rfl⟩
  rw [← hA.out]
  obtain ⟨N, hN⟩ : ∃ N, Hid (N = l.length) := ⟨_, rfl⟩
  rw [← hN.out] at hn ⊢
  clear hl hc
  go_enter Try.func53, Try.ntmps53
  go_wp2_with fail
  go_loopg [8] N (fun n iv wr => ∃ k : Nat, k + n = N ∧ iv = .int .i64 k ∧ (l.take k).any p = false ∧ Below w.heap.size w wr)
  case atStart => exact ⟨0, by omega, rfl, by simp, Below.refl _ _⟩
  case round =>
    obtain ⟨k, hk, rfl, hnone, B⟩ := hrel
    obtain ⟨wo, rfl⟩ : ∃ x, x = wr := ⟨_, rfl⟩
    have hkN : (k : Int) ≤ 1000000000 := by omega
    cases gk with
    | zero =>
      have hk2 : k = N := by omega
      have hr : Hid (decide ((-1 : Int) ≥ 0) = A) := by
        rw [List.take_of_length_le (by rw [hk2, hN.out]; exact Nat.le_refl _)] at hnone
        show _ = _; rw [hA.out, hnone]; rfl
      have i1 : ¬ (k : Int) < (N : Int) := by omega
      clear hk2 hnone hk
      go_wp2_with fail
      go_ret
      exact ⟨⟨_, rfl, hr.out⟩, B⟩
    | succ ga =>
      have hlt : k < N := by omega
      have hkl : k < l.length := by rw [← hN.out]; exact hlt
      obtain ⟨bv, ov, rfl, cv⟩ := cellE.out k hkl
      have cv1 := cv wo B
      obtain ⟨d0, d1, d2, d3, d4, d5⟩ := cv1
      have i0 : (0 : Int) ≤ (k : Int) := by omega
      have i1 : (k : Int) < (N : Int) := by omega
      have hle : Hid (k + 1 + ga = N) := by show _ = _; omega
      have hhit : Hid (p l[k] = true → decide ((k : Int) ≥ 0) = A) := fun h => by
        rw [hA.out, show l.any p = true from List.any_eq_true.2 ⟨_, List.getElem_mem hkl, h⟩, decide_eq_true_iff]; exact i0
      have hmiss : Hid (p l[k] = false → (l.take (k + 1)).any p = false) := fun h => by
        rw [List.take_succ_eq_append_getElem hkl, List.any_append, hnone]; simp [h]
      clear cv hnone hk hlt
      have hcu := Lib.hid (hcc.out l[k] wo B)
      generalize l[k] = u at *
      unfold Ed.val at hcu
      generalize p u = x at *
      cases x with
      | true =>
        have hr := Lib.hid (hhit.out rfl)
        clear hhit hmiss
        go_wp2_with fail
        refine hcu.out.mono ?_
        rintro e w2 ⟨rfl, b2⟩
        have B2 := Lib.hid (B.trans (b2.mono B.size))
        clear b2
        go_wp2_with fail
        go_ret
        exact ⟨⟨_, rfl, hr.out⟩, B2.out⟩
      | false =>
        have hr := Lib.hid (hmiss.out rfl)
        clear hhit hmiss
        go_wp2_with fail
        refine hcu.out.mono ?_
        rintro e w2 ⟨rfl, b2⟩
        have B2 := Lib.hid (B.trans (b2.mono B.size))
        clear b2
        go_wp2_with fail
        go_roundg ga
        case measure => omega
        case rel => exact ⟨k + 1, hle.out, by go_num, hr.out, B2.out⟩
theorem cont47_any (ib : Nat) (caps : Array Value) (hcaps : caps = #[.pointer (some ⟨ib, 0, none⟩)]) (p : Ed → Bool) (vl : Value) (l : List Ed) (w : World) (hl : EL w vl l) (hn : l.length ≤ 1000000000)
    (hc : ∀ u W, Below w.heap.size w W → Calls Try.prog 37 (#[u.val] ++ caps) W fun e w' => e = .returned (.bool (p u)) ∧ Below W.heap.size W w') :
    Calls Try.prog 38 #[vl, .func (.func 37) #[] caps] w fun e w' => e = .returned (.bool (l.any p)) ∧ Below w.heap.size w w' := by
  subst hcaps
  have h := Lib.hid (idx70_any ib _ rfl p vl l w hl hn hc)
  generalize l.any p = A at *
  clear hl hc
  go_enter Try.func38, Try.ntmps38
  go_wp2_with fail
  refine h.out.mono ?_
  rintro e w2 ⟨⟨r, rfl, hr⟩, b2⟩
  clear h
  by_cases h0 : (0 : Int) ≤ r
  · have hA : Hid (A = true) := by rw [← hr]; exact decide_eq_true h0
    have t1 : decide (r ≥ 0) = true := decide_eq_true h0
    clear hr
    go_wp2_with fail
    go_ret
    exact ⟨ret_bool hA.out.symm, b2⟩
  · have hA : Hid (A = false) := by rw [← hr]; exact decide_eq_false h0
    have t1 : decide (r ≥ 0) = false := decide_eq_false h0
    have t2 : decide ((0 : Int) ≤ r) = false := decide_eq_false h0
    clear hr h0
    go_wp2_with fail
    go_ret
    exact ⟨ret_bool hA.out.symm, b2⟩

theorem q_callc {ops : Array Oper} {C : World → Prop} {Q : Act → Prop} {a : Act} {o : Oper} {rest : List Oper} {v : Value} {f : Nat} {xs : Array Operand} {ts : Array TypeId} {t : Tmp} {caps : Array Value} (fn : Func) (hw : Region.wanted o (yielded ops a.tmps) = true)
    (ho : o.op = .call { callee := .value (.tmp t), args := xs, argTypes := ts }) (ht : a.eval (.tmp t) = .func (.func f) #[] caps) (hf : Try.prog.funcs[f]? = some fn) (hn : (fn.name == "runtime.NumGoroutine") = false) (hb : fn.body.isNone = false) (args : Array Value) (hargs : xs.map a.eval = args)
    (hc : ∀ w, C w → Calls Try.prog f (args ++ caps) w fun e w'' => e = .returned v ∧ C w'') (h : WQ Try.prog ops C Q rest (a.put o.dst v)) : WQ Try.prog ops C Q (o :: rest) a := by
  have hrun : ∀ w, (execOp a.eval o).run Try.prog w = .ok (.enter f (args ++ caps)) w := fun w => by
    simp only [execOp, ho, resolve, ht, Deferred.ofValue, invoke, callFunc, Sem.run_bind, Sem.run_pure, Result.andThen_ok, hargs]
    have hn' : ¬ fn.name = "runtime.NumGoroutine" := by simpa using hn
    have hb' : ¬ fn.body = none := by intro e; rw [e] at hb; cases hb
    simp [hf, hn', hb']
  refine ⟨?_⟩
  unfold wpQuiet
  rw [if_pos hw]
  exact ⟨v, fun w hC => by unfold Oper.quietAt; rw [hrun w]; exact ⟨rfl, hc w hC⟩, h.out⟩
theorem inside_any (x : Int) (sb : Nat) (sv : Value) (side : List Int) (W : World) (hsb : W.heap[sb]? = some (.cells #[sv] 26 (0, 0))) (hv : DL W sv side) (hn : side.length ≤ 1000000000) :
    Calls Try.prog 35 #[.int .i64 x, .pointer (some ⟨sb, 0, none⟩)] W fun e w' => e = .returned (.bool (decide (x ∈ side))) ∧ W = w' := by
  have c0 : W.cell? ⟨sb, 0, none⟩ = some sv := by rw [cell_of_row _ _ _ _ _ _ hsb]; rfl
  have hc := Lib.hid (Contains_any sv side x W hv (by omega))
  obtain ⟨R, hR⟩ : ∃ R, Hid (R = decide (x ∈ side)) := ⟨_, rfl⟩
  rw [← hR.out] at hc ⊢
  obtain ⟨l1, l2, rfl⟩ := hv.shape
  generalize side.length = n at *
  clear hsb hv
  go_enter Try.func35, Try.ntmps35
  go_wp2_with fail
  refine hc.out.mono ?_
  rintro e w' ⟨rfl, rfl⟩
  go_wp2_with fail
  go_ret
  exact ⟨rfl, rfl⟩
theorem leaves_any (u : Ed) (fb sb : Nat) (sv : Value) (side : List Int) (W : World) (hfb : W.heap[fb]? = some (.cells #[.func (.func 35) #[] #[.pointer (some ⟨sb, 0, none⟩)]] 80 (0, 0))) (hsb : W.heap[sb]? = some (.cells #[sv] 26 (0, 0))) (hv : DL W sv side) (hn : side.length ≤ 1000000000) :
    Calls Try.prog 37 #[u.val, .pointer (some ⟨fb, 0, none⟩)] W fun e w' => e = .returned (.bool (leavesF side u)) ∧ Below W.heap.size W w' := by
  have hl1 := (Array.getElem?_eq_some_iff.1 hfb).1
  have hl2 := (Array.getElem?_eq_some_iff.1 hsb).1
  obtain ⟨W1, hW1⟩ : ∃ W1, W1 = W.alloc (.cells (edCells u) 40) := ⟨_, rfl⟩
  have B1 : Below W.heap.size W W1 := by rw [hW1]; exact (Below.refl _ W).alloc (Nat.le_refl _) _
  have eb : W1.heap[W.heap.size]? = some (.cells (edCells u) 40 (0, 0)) := by rw [hW1]; exact heap_alloc_new _ _
  have hs : W1.heap.size = W.heap.size + 1 := by rw [hW1]; simp
  have hE := Lib.hid (fun W2 (q : Below W1.heap.size W1 W2) => (show W2.cell? ⟨W.heap.size, 1, none⟩ = some (.int .i64 u.src) ∧ W2.cell? ⟨W.heap.size, 2, none⟩ = some (.int .i64 u.dst) ∧ W2.cell? ⟨fb, 0, none⟩ = some (.func (.func 35) #[] #[.pointer (some ⟨sb, 0, none⟩)]) from by
    refine ⟨?_, ?_, ?_⟩
    · rw [cell_of_row _ _ _ _ _ _ ((q.block _ (by omega)).trans eb)]; rfl
    · rw [cell_of_row _ _ _ _ _ _ ((q.block _ (by omega)).trans eb)]; rfl
    · rw [cell_of_row _ _ _ _ _ _ ((q.block _ (by omega)).trans ((B1.block _ hl1).trans hfb))]; rfl))
  have hI := Lib.hid (fun x W2 (q : Below W1.heap.size W1 W2) => inside_any x sb sv side W2 ((q.block _ (by omega)).trans ((B1.block _ hl2).trans hsb)) ((hv.below B1).below q) hn)
  have hR : Hid (leavesF side u = (decide (u.src ∈ side) != decide (u.dst ∈ side))) := rfl
  generalize leavesF side u = R at *
  generalize hp1 : decide (u.src ∈ side) = p1 at *
  generalize hp2 : decide (u.dst ∈ side) = p2 at *
  have h1 := Lib.hid (fun W2 q => hp1 ▸ hI.out u.src W2 q)
  have h2 := Lib.hid (fun W2 q => hp2 ▸ hI.out u.dst W2 q)
  unfold edCells at hW1
  replace hW1 := Lib.hid hW1
  have hB1 := Lib.hid B1
  unfold Ed.val
  clear hI hp1 hp2 eb hs hfb hsb hv B1
  go_enter Try.func37, Try.ntmps37
  go_upto_region 1 with (fail)
  rw [← hW1.out]
  refine q_region (fun W2 => Below W1.heap.size W1 W2) (by kernel_rfl) (by kernel_rfl) ((Below.refl _ W1).drew) ?_
  repeat (first | (refine q_skip (by rfl) ?_; try simp only [Act.put, zT, z0, zS]) | (refine q_take (v := ?_) (by rfl) ?_ ?_; rotate_left; (first | ((intro w h; clear h; go_simp) <;> with_reducible rfl) | ((intro w h; obtain ⟨e1, e2, e3⟩ := hE.out w h; clear h; go_simp) <;> with_reducible rfl)); try simp only [Act.put, zT, z0, zS]))
  refine q_callc (v := _) Try.f35 (by rfl) rfl rfl Try.func35 (by kernel_rfl) (by kernel_rfl) #[.int .i64 u.src] (by simp [Act.eval]) (fun w h => (h1.out w h).mono fun e w3 ⟨he, hb⟩ => ⟨he, hb ▸ h⟩) ?_
  try simp only [Act.put, zT, z0, zS]
  repeat (first | (refine q_skip (by rfl) ?_; try simp only [Act.put, zT, z0, zS]) | (refine q_take (v := ?_) (by rfl) ?_ ?_; rotate_left; (first | ((intro w h; clear h; go_simp) <;> with_reducible rfl) | ((intro w h; obtain ⟨e1, e2, e3⟩ := hE.out w h; clear h; go_simp) <;> with_reducible rfl)); try simp only [Act.put, zT, z0, zS]))
  refine q_callc (v := _) Try.f35 (by rfl) rfl rfl Try.func35 (by kernel_rfl) (by kernel_rfl) #[.int .i64 u.dst] (by simp [Act.eval]) (fun w h => (h2.out w h).mono fun e w3 ⟨he, hb⟩ => ⟨he, hb ▸ h⟩) ?_
  try simp only [Act.put, zT, z0, zS]
  repeat (first | (refine q_skip (by rfl) ?_; try simp only [Act.put, zT, z0, zS]) | (refine q_take (v := ?_) (by rfl) ?_ ?_; rotate_left; (first | ((intro w h; clear h; go_simp) <;> with_reducible rfl) | ((intro w h; obtain ⟨e1, e2, e3⟩ := hE.out w h; clear h; go_simp) <;> with_reducible rfl)); try simp only [Act.put, zT, z0, zS]))
  refine q_nil ?_
  intro wz hz
  have hB := Lib.hid (hB1.out.trans (hz.mono hB1.out.size))
  clear hz
  go_wp2_with fail
  go_ret
  exact ⟨ret_bool hR.out.symm, hB.out⟩

end Go.Proofs.Ythmkmjkbfjhffaa
