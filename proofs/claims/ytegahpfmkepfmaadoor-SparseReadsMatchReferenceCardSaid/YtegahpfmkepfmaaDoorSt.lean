/- The root for which an opening stands. -/
import Derived.Test.YtegahpfmkepfmaaDoorFm
namespace Go.Proofs.YtegahpfmkepfmaaDoor
open Go.RowKit
theorem loadAt_row (t : TypeId) (l : List Str) (W : World) (b n e : Nat) (hu : Tryd.prog.underlying t = some (.array n e)) (hi : (Tryd.prog.info? t).map (·.size) = some (cT l).toArray.size) (h : RowT t W b l) :
    (Instr.loadAt t (.pointer (some ⟨b, 0, none⟩))).run Tryd.prog W = .ok (.agg (cT l).toArray) W := by
  simp only [Instr.loadAt, Instr.sureAddr, Sem.run_bind, Sem.run_pure, Result.andThen_ok, run_loadVar_row W b t t (cT l).toArray (0, 0) _ h hu rfl hi]
theorem exec_load {P : Program} {w : World} {ρ : Operand → Value} (o : Oper) (ty : TypeId) (x : Operand) (ho : o.op = .load ty x) (v : Value) (hr : (Instr.loadAt ty (ρ x)).run P w = .ok v w) : (execOp ρ o).run P w = .ok (.value v) w := by
  simp only [execOp, ho, Sem.run_bind, hr, Result.andThen_ok, Sem.run_pure]
theorem idx70 (l : List Str) (h : l.length = 128) (w : World) : (Instr.index 70 (.agg (cT l).toArray) (.int .i64 1)).run Tryd.prog w = .ok (.string ⟨(l.getD 1 []).toArray⟩) w := by
  have e : (cT l)[1]? = some (.string ⟨(l.getD 1 []).toArray⟩) := by have := cT_at l 1 (by omega); simpa using this
  simp only [List.getD_eq_getElem?_getD] at e ⊢
  simp [Instr.index, run_underlying Tryd.underlying70, asIntOf, e, go_sem]
/-- the root for which keys and path stand with the values v -/
def standS (ks : List Int) (ps v : List Str) : Str := E sha (cF (closedL (tN ks)) ps) (vF v) 1
theorem box2_world (w w1 : World) (a b c : Value) (t : TypeId) (v : List Str) (h : w1 = (w.alloc (.cells #[a, b, c] t)).alloc (.cells (cT v).toArray 73)) : Below w.heap.size w w1 ∧ w1.heap.size = w.heap.size + 2 ∧
    ∀ W, Below w1.heap.size w1 W → (W.cell? ⟨w.heap.size, 0, none⟩ = some a ∧ W.cell? ⟨w.heap.size, 1, none⟩ = some b ∧ W.cell? ⟨w.heap.size, 2, none⟩ = some c) ∧ RowT 73 W (w.heap.size + 1) v := by
  obtain ⟨z, B, h1, h2⟩ := two_world w w1 _ _ _ _ h
  refine ⟨B, z, fun W B => ?_⟩
  have g2 : W.heap[w.heap.size]? = some (.cells #[a, b, c] t (0, 0)) := (B.block _ (by omega)).trans h1
  exact ⟨⟨by rw [cell_of_row _ _ _ _ _ _ g2]; rfl, by rw [cell_of_row _ _ _ _ _ _ g2]; rfl, by rw [cell_of_row _ _ _ _ _ _ g2]; rfl⟩, (show RowT 73 w1 (w.heap.size + 1) v from h2).below B (by omega)⟩

set_option linter.unusedSimpArgs false in
set_option maxRecDepth 100000 in
set_option maxHeartbeats 2000000 in
theorem standsFor_any (vo : Value) (ks : List Int) (vs ps v : List Str) (w : World) (hv : OpV w vo ks vs ps) (hk : ascB (-1) ks = true) (hp : ps.length = (closedL (tN ks)).length) (hps : ∀ s ∈ ps, List.length s ≤ 1000) (hl : v.length = 64) (hvs : ∀ s ∈ v, List.length s ≤ 1000000) (hT : Tab w) :
    Calls Tryd.prog 56 #[vo, .agg (cT v).toArray] w fun e w' => e = .returned (.string ⟨(standS ks ps v).toArray⟩) ∧ Below w.heap.size w w' := by
  obtain ⟨a, b, c, rfl, ha, hb, hc⟩ := hv
  obtain ⟨w1, hw1⟩ : ∃ w1, w1 = (w.alloc (.cells #[a, b, c] 37)).alloc (.cells (cT v).toArray 73) := ⟨_, rfl⟩
  obtain ⟨B1, z1, hcell⟩ := box2_world w w1 a b c 37 v hw1
  have hbd := ascB_bd ks (-1) (by omega) hk
  have hlen := ascB_len ks (-1) (by omega) (by omega) hk
  have hcl : (closedL (tN ks)).length ≤ 64 := by have := clF_size (tN ks) 6 1; exact this
  have h1 := Lib.hid (show ∀ W (B : Below w1.heap.size w1 W), Calls Tryd.prog 48 #[a] W fun e w' => ∃ xv, e = .returned xv ∧ SI w' xv (nI (closedL (tN ks))) ∧ Below W.heap.size W w' from fun W B => by
    have ha' : SI W a (nI (tN ks)) := by rw [nI_tN ks (fun x hx => by have := (hbd x hx).1; omega)]; exact (ha.below B1).below B
    refine (closed_any a (tN ks) W ha' rfl (fun k hk => ?_) (by simp [tN]; omega)).mono ?_
    · simp only [tN, List.mem_map] at hk
      obtain ⟨x, hx, rfl⟩ := hk
      have := hbd x hx; omega
    · rintro e w' ⟨r, rfl, ho, hB⟩
      exact ⟨r, rfl, OwnG.SL eI_len ho, hB⟩)
  have h2 := Lib.hid (show ∀ W xv (B : Below w1.heap.size w1 W), SI W xv (nI (closedL (tN ks))) → _ from fun W xv B hx => grow_any v xv c (closedL (tN ks)) ps W rfl hl hvs hx ((hc.below B1).below B) (fun p hp => (closedL_bd (tN ks) p hp).2) hps (by omega) (by omega) ((hT.below B1).below B))
  have hix := idx70 (treeL (closedL (tN ks)) ps v) (treeL_len _ _ _)
  rw [treeL_at _ _ _ 1 (by omega) (by omega)] at hix
  have hres : Hid (standS ks ps v = E sha (cF (closedL (tN ks)) ps) (vF v) 1) := rfl
  have sK := Lib.hid (show ∀ W, Below w1.heap.size w1 W → (Instr.loadAt 73 (.pointer (some ⟨w.heap.size + 1, 0, none⟩))).run Tryd.prog W = .ok (.agg (cT v).toArray) W ∧ W.cell? ⟨w.heap.size, 0, none⟩ = some a ∧ W.cell? ⟨w.heap.size, 2, none⟩ = some c from fun W B => by
    obtain ⟨⟨q1, q2, q3⟩, q4⟩ := hcell W B
    exact ⟨loadAt_row 73 v W _ _ _ Tryd.underlying73 (size73l v hl) q4, q1, q3⟩)
  obtain ⟨a1, a2, rfl⟩ := ha.shape
  obtain ⟨c1, c2, rfl⟩ := hc.shape
  have hS0 := Lib.hid (sK.out w1.drew (Below.refl _ _).drew)
  have hB1 := Lib.hid B1
  rw [hres.out]
  generalize E sha (cF (closedL (tN ks)) ps) (vF v) 1 = R at *
  generalize treeL (closedL (tN ks)) ps v = L at *
  generalize ks.length = n1 at *
  generalize hn3 : ps.length = n3 at *
  have hw1 := Lib.hid hw1
  rename_i hw1o
  clear hw1o ha hb hc hcell B1 z1 hres hn3 hp hps hl hvs hT hk hbd hlen hcl
  go_enter Tryd.func56, Tryd.ntmps56
  go_wp2_with fail
  rw [← hw1.out]
  refine wp_region_held_drew (S := (fun w' : World => (Instr.loadAt 73 (.pointer (some ⟨w.heap.size + 1, 0, none⟩))).run Tryd.prog w' = .ok (.agg (cT v).toArray) w' ∧ w'.cell? ⟨w.heap.size, 0, none⟩ = some (.slice a1 n1 a2) ∧ w'.cell? ⟨w.heap.size, 2, none⟩ = some (.slice c1 n3 c2))) (by kernel_rfl) hS0.out (fun hHeld => ?_)
  refine wpAnyH_take (i := 0) (oi := { dst := some 5, op := Op.load 73 (Operand.tmp 3), type := _, pos := _, after := _, guard := none }) (v := ?_) rfl (by kernel_rfl) (by kernel_rfl) (by kernel_rfl) (fun _ _ _ h => h) (Or.inl ⟨by rfl, ?_⟩) (by assumption) ?_
  rotate_left
  · (intro W hSw; refine exec_load _ 73 (.tmp 3) rfl _ ?_; exact hSw.1)
  try simp only [Act.put, List.setIfInBounds_toArray, List.set_cons_zero, List.set_cons_succ]
  refine wpAnyH_take (i := 1) (oi := { dst := some 6, op := Op.fieldAddr 37 (Operand.tmp 2) 0, type := _, pos := _, after := _, guard := none }) (v := ?_) rfl (by kernel_rfl) (by kernel_rfl) (by kernel_rfl) (fun _ _ _ h => h) (Or.inl ⟨by rfl, ?_⟩) (by assumption) ?_
  rotate_left
  · ((intro w hSw; (try dsimp only at hSw); go_simp) <;> with_reducible rfl)
  try simp only [Act.put, List.setIfInBounds_toArray, List.set_cons_zero, List.set_cons_succ]
  refine wpAnyH_take (i := 2) (oi := { dst := some 7, op := Op.load 24 (Operand.tmp 6), type := _, pos := _, after := _, guard := none }) (v := ?_) rfl (by kernel_rfl) (by kernel_rfl) (by kernel_rfl) (fun _ _ _ h => h) (Or.inl ⟨by rfl, ?_⟩) (by assumption) ?_
  rotate_left
  · ((intro w hSw; (try dsimp only at hSw); go_simp) <;> with_reducible rfl)
  try simp only [Act.put, List.setIfInBounds_toArray, List.set_cons_zero, List.set_cons_succ]
  refine wpAnyH_take (i := 4) (oi := { dst := some 9, op := Op.fieldAddr 37 (Operand.tmp 2) 2, type := _, pos := _, after := _, guard := none }) (v := ?_) rfl (by kernel_rfl) (by kernel_rfl) (by kernel_rfl) (fun _ _ _ h => h) (Or.inl ⟨by rfl, ?_⟩) (by assumption) ?_
  rotate_left
  · ((intro w hSw; (try dsimp only at hSw); go_simp) <;> with_reducible rfl)
  try simp only [Act.put, List.setIfInBounds_toArray, List.set_cons_zero, List.set_cons_succ]
  refine wpAnyH_take (i := 5) (oi := { dst := some 10, op := Op.load 35 (Operand.tmp 9), type := _, pos := _, after := _, guard := none }) (v := ?_) rfl (by kernel_rfl) (by kernel_rfl) (by kernel_rfl) (fun _ _ _ h => h) (Or.inl ⟨by rfl, ?_⟩) (by assumption) ?_
  rotate_left
  · ((intro w hSw; (try dsimp only at hSw); go_simp) <;> with_reducible rfl)
  try simp only [Act.put, List.setIfInBounds_toArray, List.set_cons_zero, List.set_cons_succ]
  refine wpAnyH_ready (rs := [3]) (by kernel_rfl) (by simp) ?_
  refine AllReadyH.cons (o := { dst := some 8, op := Op.call { callee := Callee.value (Operand.func 48), args := #[(Operand.tmp 7)], argTypes := #[24] }, type := _, pos := _, after := _, guard := none }) rfl (fun K hK => ?_) ?_
  · skip
    go_simp
    with_reducible refine (h1.out _ (Below.refl _ _).drew).mono ?_
    rintro e W2 ⟨xv, rfl, so, d2⟩
    have B2 : Below w1.heap.size w1 W2 := (Below.refl _ w1).drew.trans d2
    have h2' := Lib.hid (h2.out W2 xv B2 so)
    clear d2 so
    go_wp2_with fail
    refine hK.out _ _ ?_ (fun hHeld => ?_)
    · exact sK.out W2 B2
    clear hK K
    try simp only [Act.put, List.setIfInBounds_toArray, List.set_cons_zero, List.set_cons_succ]
    refine wpAnyH_ready (rs := [6]) (by kernel_rfl) (by simp) ?_
    refine AllReadyH.cons (o := { dst := some 11, op := Op.call { callee := Callee.value (Operand.func 37), args := #[(Operand.tmp 5), (Operand.tmp 8), (Operand.tmp 10)], argTypes := #[73, 24, 35] }, type := _, pos := _, after := _, guard := none }) rfl (fun K hK => ?_) ?_
    · skip
      go_simp
      with_reducible refine h2'.out.mono ?_
      rintro e W3 ⟨rfl, d3⟩
      have B3 : Below w1.heap.size w1 W3 := B2.trans (d3.mono B2.size)
      clear d3
      go_wp2_with fail
      refine hK.out _ _ ?_ (fun hHeld => ?_)
      · exact sK.out W3 B3
      clear hK K
      try simp only [Act.put, List.setIfInBounds_toArray, List.set_cons_zero, List.set_cons_succ]
      refine wpAnyH_take (i := 7) (oi := { dst := some 12, op := Op.index 70 (Operand.tmp 11) ((Operand.const (Value.int IntKind.i64 1))), type := _, pos := _, after := _, guard := none }) (v := ?_) rfl (by kernel_rfl) (by kernel_rfl) (by kernel_rfl) (fun _ _ _ h => h) (Or.inl ⟨by rfl, ?_⟩) (by assumption) ?_
      rotate_left
      · ((intro w hSw; (try dsimp only at hSw); go_simp) <;> with_reducible rfl)
      try simp only [Act.put, List.setIfInBounds_toArray, List.set_cons_zero, List.set_cons_succ]
      refine wpAnyH_take (i := 8) (oi := { dst := some 4, op := Op.assign (Operand.tmp 12), type := _, pos := _, after := _, guard := none }) (v := ?_) rfl (by kernel_rfl) (by kernel_rfl) (by kernel_rfl) (fun _ _ _ h => h) (Or.inl ⟨by rfl, ?_⟩) (by assumption) ?_
      rotate_left
      · ((intro w hSw; (try dsimp only at hSw); go_simp) <;> with_reducible rfl)
      try simp only [Act.put, List.setIfInBounds_toArray, List.set_cons_zero, List.set_cons_succ]
      refine wpAnyH_done (by kernel_rfl) ?_ _
      go_wp2_with fail
      go_ret
      exact ⟨rfl, hB1.out.trans (B3.mono hB1.out.size)⟩
    exact AllReadyH.nil
  exact AllReadyH.nil
end Go.Proofs.YtegahpfmkepfmaaDoor
