/- Contracts and facts. -/
import Derived.Test.YtlaldnlgapeckaaGreatYAm
import Derived.Test.YtlaldnlgapeckaaGreatYH
namespace Go.Proofs.YtlaldnlgapeckaaGreat
open Go.RowKit
theorem endsF_in {g : Gr} (hg : Ok g) (a : Int) : ∀ n ∈ endsF g.es a, 0 ≤ n ∧ n ≤ 1000000 ∧ n / 2 ∈ keysE g.es := fun n hn => by
 obtain ⟨e, he, h⟩ := (mem_endsF _ _ _).1 hn
 have := ((Ed.okIn_iff e _).1 (hg.eok e he)).1
 have h2 : n / 2 = e.id := by rcases h with ⟨_, h⟩ | ⟨_, h⟩ <;> omega
 refine ⟨?_, ?_, ?_⟩
 ·rcases h with ⟨_, h⟩ | ⟨_, h⟩ <;> omega
 ·rcases h with ⟨_, h⟩ | ⟨_, h⟩ <;> omega
 ·rw [h2]; exact mem_keysE.2 ⟨e, he, rfl⟩
theorem mv_ct (l : List Ed) (a b : Int) (h : Asc (keysE l)) : l.map (mvE (endsF l a) b) = l.map (ctE a b) :=
 List.map_congr_left fun e he => by
  have e1 := even_endsF h he a
  have e2 := odd_endsF h he a
  simp only [mvE, ctE, e1, e2]
set_option linter.unusedSimpArgs false in
set_option maxRecDepth 100000 in
set_option maxHeartbeats 4000000 in
theorem act7_any (B db : Nat) (vv ev dv mv : Value) (g : Gr) (vc : Value) (c : Ch) (w : World) (h : DrV w B db vv ev dv mv g) (hg : Ok g) (hc : ∀ W, KD B w W → CV W vc c) (_hlen : c.ends.length ≤ 1000000 ∧ c.deps.length ≤ 1000000) :
  Calls Tryz.prog 110 #[.pointer (some ⟨db, 0, none⟩), vc] w (ActPost B db w (act7 g c)) := by
 obtain ⟨a, b, rfl, _, _⟩ := hc w (KD.refl _ _)
 have hca : Hid (∀ W, KD B w W → DL W a c.ends ∧ DL W b c.deps) := fun W K => by
  obtain ⟨a', b', e, h1, h2⟩ := hc W K
  injection e with e
  have e1 : a = a' := by injection e with e; simp at e; exact e.1
  have e2 : b = b' := by injection e with e; simp at e; exact e.2
  exact ⟨e1 ▸ h1, e2 ▸ h2⟩
 obtain ⟨w1, hw1⟩ : ∃ w1, w1 = (w.alloc (.cells (chCells c a b) 33)).alloc (.cells zCells 33) := ⟨_, rfl⟩
 obtain ⟨B1, z1, hbx⟩ := act_world B w w1 c a b hw1
 have hB := h.base
 have hd := h.below B1
 have hK1 : KD B w w1 := KD.of B1 hB
 have hDr := Lib.hid (fun (W : World) (b0 : Below w1.heap.size w1 W) => hd.below b0)
 have hKD := Lib.hid (fun (W : World) (b0 : Below w1.heap.size w1 W) => KD.of b0 hd.base)
 have hcell := Lib.hid (fun (W : World) (K : KD B w1 W) => ch_cells (hbx W K).1)
 have hrx := Lib.hid (fun (W : World) (K : KD B w1 W) => (hbx W K).2)
 have hd4 := Lib.hid (fun (W : World) (b0 : Below w1.heap.size w1 W) => (hd.below b0).cells)
 have hw1h := Lib.hid hw1
 obtain ⟨ah, ac, hae⟩ := (hca.out w (KD.refl _ _)).1.shape
 obtain ⟨bh, bc, hbe⟩ := (hca.out w (KD.refl _ _)).2.shape
 have hvl := hg.vlen
 have hel := hg.elen
 have k1 := Lib.hid (fun W (b0 : Below w1.heap.size w1 W) => has_any vv g.vs c.id W (hDr.out W b0).v.VL (by omega) hg.vasc)
 have k2 := Lib.hid (fun W (b0 : Below w1.heap.size w1 W) => has_any vv g.vs c.n W (hDr.out W b0).v.VL (by omega) hg.vasc)
 have k3 := Lib.hid (fun W (b0 : Below w1.heap.size w1 W) => Contains_any dv g.ds c.id W (hDr.out W b0).d.DL (by have := hg.dlen; omega))
 have hids := hg.ids
 have k4 := Lib.hid (fun W (b0 : Below w1.heap.size w1 W) => endsAt_any db ev g.es c.id W (hDr.out W b0).cells.2.1 (hDr.out W b0).e.EL (by omega) hids)
 have hen : (endsF g.es c.id).length ≤ 80 := by have := endsF_len g.es c.id; omega
 have hin := endsF_in hg c.id
 have hct := mv_ct g.es c.id c.n hg.easc
 have k5 := Lib.hid (fun (W : World) (b0 : Below w1.heap.size w1 W) (W' : World) (b1 : Below W.heap.size W W') (r : Value) (hO : OwnI W' W.heap.size r (endsF g.es c.id)) =>
  show Calls Tryz.prog 132 #[.pointer (some ⟨db, 0, none⟩), r, .int .i64 c.n] W' fun e w' => e = .returned (.tuple #[]) ∧ Hid (DrV w' B db vv ev dv mv { g with es := g.es.map (ctE c.id c.n) }) ∧ Hid (KD B w1 w') ∧ Hid (OwnI w' W.heap.size r (endsF g.es c.id)) from by
   have b2 := b0.trans (b1.mono b0.size)
   refine (move_any B db vv ev dv mv g r (endsF g.es c.id) c.n W' (hDr.out W' b2) (fun W2 K => (hO.kd K).DL) (by omega) hg.easc (by omega) hin).mono ?_
   rintro e w' ⟨rfl, q1, q2⟩
   rw [hct] at q1
   exact ⟨rfl, q1, (hKD.out W' b2).trans q2, hO.kd q2⟩)
 have k6 := Lib.hid (fun (W : World) (hD : DrV W B db vv ev dv mv { g with es := g.es.map (ctE c.id c.n) }) (hx : c.id ∈ keysV g.vs) => remove_any B db vv ev dv mv { g with es := g.es.map (ctE c.id c.n) } c.id W hD (by show g.vs.length ≤ 1000; omega) hg.vasc hx)
 have hact : Hid (act7 g c = if (!decide (c.id = c.n) && decide (c.id ∈ keysV g.vs) && decide (c.n ∈ keysV g.vs) && !decide (c.id ∈ g.ds)) = true then some ({ g with vs := delV g.vs c.id, es := g.es.map (ctE c.id c.n) }, { zC with kind := 8, id := c.n, v := getV g.vs c.id, ends := endsF g.es c.id }) else none) := rfl
 have hcr := Lib.hid (fun (W : World) (b0 : Below w1.heap.size w1 W) => show W.cell? ⟨db, 0, none⟩ = some vv ∧ W.cell? ⟨db, 2, none⟩ = some dv ∧ W.cell? ⟨w.heap.size, 9, none⟩ = some (.int .i64 c.id) ∧ W.cell? ⟨w.heap.size, 10, none⟩ = some (.int .i64 c.n) from
  ⟨(hd4.out W b0).1, (hd4.out W b0).2.2.1, (hcell.out W (hKD.out W b0)).2.2.2.2.2.2.2.2.2.1, (hcell.out W (hKD.out W b0)).2.2.2.2.2.2.2.2.2.2.1⟩)
 have hcb := Lib.hid (fun (W : World) (K : KD B w1 W) => show W.cell? ⟨w.heap.size, 9, none⟩ = some (.int .i64 c.id) ∧ W.cell? ⟨w.heap.size, 10, none⟩ = some (.int .i64 c.n) from ⟨(hcell.out W K).2.2.2.2.2.2.2.2.2.1, (hcell.out W K).2.2.2.2.2.2.2.2.2.2.1⟩)
 generalize act7 g c = R at *
 obtain ⟨E, hE⟩ : ∃ E, Hid (E = endsF g.es c.id) := ⟨_, rfl⟩
 rw [← hE.out] at k4 k5 hen hact
 obtain ⟨vh, vc, hve⟩ := hd.v.VL.shape
 obtain ⟨dh, dc, hde⟩ := hd.d.DL.shape
 by_cases hx0 : c.id = c.n
 ·have t0 : (c.id == c.n) = true := by simpa using hx0
  have hact2 : Hid (R = none) := by show _ = _; rw [hact.out, decide_eq_true hx0]; rfl
  clear hact hx0 k1 k2 k3 k4 k5 k6
  unfold chCells zCells chCells zC zV zE nilS at hw1h
  unfold chCells
  have d9 := hcell.out w1 (KD.refl _ _)
  subst hae hbe
  clear hw1 hbx h hd hc hca
  subst hve hde
  generalize g.vs.length = nv at *
  generalize g.ds.length = nd at *
  clear d9
  go_enter Tryz.func110, Tryz.ntmps110
  go_wp2_with fail
  rw [← hw1h.out]
  refine wp_region_F (fun w' : World => Below w1.heap.size w1 w') 999 (by kernel_rfl) (Below.refl _ _).drew (fun hHeld => ?_)
  refine tkF (i := 0) (oi := ⟨some 7, .fieldAddr 33 (.tmp 3) 3, _, _, _, none⟩) (v := ?_) rfl ?_ (by assumption) ?_
  rotate_left
  ·((intro w hSw; clear hSw; go_simp) <;> with_reducible rfl)
  try simp only [Act.put, zT, z0, zS]
  refine tkF (i := 1) (oi := ⟨some 8, .load 3 (.tmp 7), _, _, _, none⟩) (v := ?_) rfl ?_ (by assumption) ?_
  rotate_left
  ·((intro w hSw; obtain ⟨d0, d2, d9, d10⟩ := hcr.out w hSw; go_simp) <;> with_reducible rfl)
  try simp only [Act.put, zT, z0, zS]
  refine tkF (i := 2) (oi := ⟨some 9, .fieldAddr 33 (.tmp 3) 4, _, _, _, none⟩) (v := ?_) rfl ?_ (by assumption) ?_
  rotate_left
  ·((intro w hSw; clear hSw; go_simp) <;> with_reducible rfl)
  try simp only [Act.put, zT, z0, zS]
  refine tkF (i := 3) (oi := ⟨some 10, .load 3 (.tmp 9), _, _, _, none⟩) (v := ?_) rfl ?_ (by assumption) ?_
  rotate_left
  ·((intro w hSw; obtain ⟨d0, d2, d9, d10⟩ := hcr.out w hSw; go_simp) <;> with_reducible rfl)
  try simp only [Act.put, zT, z0, zS]
  refine tkF (i := 4) (oi := ⟨some 11, .binOp BinOp.eql 3 (.tmp 8) (.tmp 10) 3, _, _, _, none⟩) (v := ?_) rfl ?_ (by assumption) ?_
  rotate_left
  ·((intro w hSw; clear hSw; go_simp) <;> with_reducible rfl)
  try simp only [Act.put, zT, z0, zS]
  refine tkF (i := 5) (oi := ⟨some 12, .move (.tmp 11), _, _, _, none⟩) (v := ?_) rfl ?_ (by assumption) ?_
  rotate_left
  ·((intro w hSw; clear hSw; go_simp) <;> with_reducible rfl)
  try simp only [Act.put, zT, z0, zS]
  refine wpAnyF_take (i := 6) (oi := ⟨some 13, .move (.tmp 0), _, _, _, some (5, false)⟩) (v := undef) rfl (by kernel_rfl) (by kernel_rfl) (by kernel_rfl) (by kernel_rfl) (fun _ _ _ h => h) (Or.inr ⟨by rfl, rfl⟩) (by assumption) ?_
  try simp only [Act.put, zT, z0, zS]
  refine wpAnyF_take (i := 7) (oi := ⟨some 14, .nilCheck (.tmp 13), _, _, _, some (5, false)⟩) (v := undef) rfl (by kernel_rfl) (by kernel_rfl) (by kernel_rfl) (by kernel_rfl) (fun _ _ _ h => h) (Or.inr ⟨by rfl, rfl⟩) (by assumption) ?_
  try simp only [Act.put, zT, z0, zS]
  refine wpAnyF_take (i := 8) (oi := ⟨some 15, .fieldAddr 94 (.tmp 14) 0, _, _, _, some (5, false)⟩) (v := undef) rfl (by kernel_rfl) (by kernel_rfl) (by kernel_rfl) (by kernel_rfl) (fun _ _ _ h => h) (Or.inr ⟨by rfl, rfl⟩) (by assumption) ?_
  try simp only [Act.put, zT, z0, zS]
  refine wpAnyF_take (i := 9) (oi := ⟨some 16, .fieldAddr 26 (.tmp 15) 0, _, _, _, some (5, false)⟩) (v := undef) rfl (by kernel_rfl) (by kernel_rfl) (by kernel_rfl) (by kernel_rfl) (fun _ _ _ h => h) (Or.inr ⟨by rfl, rfl⟩) (by assumption) ?_
  try simp only [Act.put, zT, z0, zS]
  refine wpAnyF_take (i := 10) (oi := ⟨some 17, .load 22 (.tmp 16), _, _, _, some (5, false)⟩) (v := undef) rfl (by kernel_rfl) (by kernel_rfl) (by kernel_rfl) (by kernel_rfl) (fun _ _ _ h => h) (Or.inr ⟨by rfl, rfl⟩) (by assumption) ?_
  try simp only [Act.put, zT, z0, zS]
  refine wpAnyF_take (i := 11) (oi := ⟨some 18, .fieldAddr 33 (.tmp 3) 3, _, _, _, some (5, false)⟩) (v := undef) rfl (by kernel_rfl) (by kernel_rfl) (by kernel_rfl) (by kernel_rfl) (fun _ _ _ h => h) (Or.inr ⟨by rfl, rfl⟩) (by assumption) ?_
  try simp only [Act.put, zT, z0, zS]
  refine wpAnyF_take (i := 12) (oi := ⟨some 19, .load 3 (.tmp 18), _, _, _, some (5, false)⟩) (v := undef) rfl (by kernel_rfl) (by kernel_rfl) (by kernel_rfl) (by kernel_rfl) (fun _ _ _ h => h) (Or.inr ⟨by rfl, rfl⟩) (by assumption) ?_
  try simp only [Act.put, zT, z0, zS]
  refine wpAnyF_take (i := 13) (oi := ⟨some 20, .call { callee := .value (.func 78), args := #[(.tmp 17), (.tmp 19)], argTypes := #[22, 3] }, _, _, _, some (5, false)⟩) (v := undef) rfl (by kernel_rfl) (by kernel_rfl) (by kernel_rfl) (by kernel_rfl) (fun _ _ _ h => h) (Or.inr ⟨by rfl, rfl⟩) (by assumption) ?_
  try simp only [Act.put, zT, z0, zS]
  refine wpAnyF_take (i := 14) (oi := ⟨some 21, .unOp UnOp.not 4 (.tmp 20), _, _, _, some (5, false)⟩) (v := undef) rfl (by kernel_rfl) (by kernel_rfl) (by kernel_rfl) (by kernel_rfl) (fun _ _ _ h => h) (Or.inr ⟨by rfl, rfl⟩) (by assumption) ?_
  try simp only [Act.put, zT, z0, zS]
  refine tkF (i := 15) (oi := ⟨some 22, .pick (.tmp 12) ((.const (.bool true))) (.tmp 21), _, _, _, none⟩) (v := ?_) rfl ?_ (by assumption) ?_
  rotate_left
  ·((intro w hSw; clear hSw; go_simp) <;> with_reducible rfl)
  try simp only [Act.put, zT, z0, zS]
  refine tkF (i := 16) (oi := ⟨some 23, .move (.tmp 22), _, _, _, none⟩) (v := ?_) rfl ?_ (by assumption) ?_
  rotate_left
  ·((intro w hSw; clear hSw; go_simp) <;> with_reducible rfl)
  try simp only [Act.put, zT, z0, zS]
  refine wpAnyF_take (i := 17) (oi := ⟨some 24, .move (.tmp 0), _, _, _, some (16, false)⟩) (v := undef) rfl (by kernel_rfl) (by kernel_rfl) (by kernel_rfl) (by kernel_rfl) (fun _ _ _ h => h) (Or.inr ⟨by rfl, rfl⟩) (by assumption) ?_
  try simp only [Act.put, zT, z0, zS]
  refine wpAnyF_take (i := 18) (oi := ⟨some 25, .nilCheck (.tmp 24), _, _, _, some (16, false)⟩) (v := undef) rfl (by kernel_rfl) (by kernel_rfl) (by kernel_rfl) (by kernel_rfl) (fun _ _ _ h => h) (Or.inr ⟨by rfl, rfl⟩) (by assumption) ?_
  try simp only [Act.put, zT, z0, zS]
  refine wpAnyF_take (i := 19) (oi := ⟨some 26, .fieldAddr 94 (.tmp 25) 0, _, _, _, some (16, false)⟩) (v := undef) rfl (by kernel_rfl) (by kernel_rfl) (by kernel_rfl) (by kernel_rfl) (fun _ _ _ h => h) (Or.inr ⟨by rfl, rfl⟩) (by assumption) ?_
  try simp only [Act.put, zT, z0, zS]
  refine wpAnyF_take (i := 20) (oi := ⟨some 27, .fieldAddr 26 (.tmp 26) 0, _, _, _, some (16, false)⟩) (v := undef) rfl (by kernel_rfl) (by kernel_rfl) (by kernel_rfl) (by kernel_rfl) (fun _ _ _ h => h) (Or.inr ⟨by rfl, rfl⟩) (by assumption) ?_
  try simp only [Act.put, zT, z0, zS]
  refine wpAnyF_take (i := 21) (oi := ⟨some 28, .load 22 (.tmp 27), _, _, _, some (16, false)⟩) (v := undef) rfl (by kernel_rfl) (by kernel_rfl) (by kernel_rfl) (by kernel_rfl) (fun _ _ _ h => h) (Or.inr ⟨by rfl, rfl⟩) (by assumption) ?_
  try simp only [Act.put, zT, z0, zS]
  refine wpAnyF_take (i := 22) (oi := ⟨some 29, .fieldAddr 33 (.tmp 3) 4, _, _, _, some (16, false)⟩) (v := undef) rfl (by kernel_rfl) (by kernel_rfl) (by kernel_rfl) (by kernel_rfl) (fun _ _ _ h => h) (Or.inr ⟨by rfl, rfl⟩) (by assumption) ?_
  try simp only [Act.put, zT, z0, zS]
  refine wpAnyF_take (i := 23) (oi := ⟨some 30, .load 3 (.tmp 29), _, _, _, some (16, false)⟩) (v := undef) rfl (by kernel_rfl) (by kernel_rfl) (by kernel_rfl) (by kernel_rfl) (fun _ _ _ h => h) (Or.inr ⟨by rfl, rfl⟩) (by assumption) ?_
  try simp only [Act.put, zT, z0, zS]
  refine wpAnyF_take (i := 24) (oi := ⟨some 31, .call { callee := .value (.func 78), args := #[(.tmp 28), (.tmp 30)], argTypes := #[22, 3] }, _, _, _, some (16, false)⟩) (v := undef) rfl (by kernel_rfl) (by kernel_rfl) (by kernel_rfl) (by kernel_rfl) (fun _ _ _ h => h) (Or.inr ⟨by rfl, rfl⟩) (by assumption) ?_
  try simp only [Act.put, zT, z0, zS]
  refine wpAnyF_take (i := 25) (oi := ⟨some 32, .unOp UnOp.not 4 (.tmp 31), _, _, _, some (16, false)⟩) (v := undef) rfl (by kernel_rfl) (by kernel_rfl) (by kernel_rfl) (by kernel_rfl) (fun _ _ _ h => h) (Or.inr ⟨by rfl, rfl⟩) (by assumption) ?_
  try simp only [Act.put, zT, z0, zS]
  refine tkF (i := 26) (oi := ⟨some 33, .pick (.tmp 23) ((.const (.bool true))) (.tmp 32), _, _, _, none⟩) (v := ?_) rfl ?_ (by assumption) ?_
  rotate_left
  ·((intro w hSw; clear hSw; go_simp) <;> with_reducible rfl)
  try simp only [Act.put, zT, z0, zS]
  refine tkF (i := 27) (oi := ⟨some 34, .move (.tmp 33), _, _, _, none⟩) (v := ?_) rfl ?_ (by assumption) ?_
  rotate_left
  ·((intro w hSw; clear hSw; go_simp) <;> with_reducible rfl)
  try simp only [Act.put, zT, z0, zS]
  refine wpAnyF_take (i := 28) (oi := ⟨some 35, .move (.tmp 0), _, _, _, some (27, false)⟩) (v := undef) rfl (by kernel_rfl) (by kernel_rfl) (by kernel_rfl) (by kernel_rfl) (fun _ _ _ h => h) (Or.inr ⟨by rfl, rfl⟩) (by assumption) ?_
  try simp only [Act.put, zT, z0, zS]
  refine wpAnyF_take (i := 29) (oi := ⟨some 36, .nilCheck (.tmp 35), _, _, _, some (27, false)⟩) (v := undef) rfl (by kernel_rfl) (by kernel_rfl) (by kernel_rfl) (by kernel_rfl) (fun _ _ _ h => h) (Or.inr ⟨by rfl, rfl⟩) (by assumption) ?_
  try simp only [Act.put, zT, z0, zS]
  refine wpAnyF_take (i := 30) (oi := ⟨some 37, .fieldAddr 94 (.tmp 36) 0, _, _, _, some (27, false)⟩) (v := undef) rfl (by kernel_rfl) (by kernel_rfl) (by kernel_rfl) (by kernel_rfl) (fun _ _ _ h => h) (Or.inr ⟨by rfl, rfl⟩) (by assumption) ?_
  try simp only [Act.put, zT, z0, zS]
  refine wpAnyF_take (i := 31) (oi := ⟨some 38, .fieldAddr 26 (.tmp 37) 2, _, _, _, some (27, false)⟩) (v := undef) rfl (by kernel_rfl) (by kernel_rfl) (by kernel_rfl) (by kernel_rfl) (fun _ _ _ h => h) (Or.inr ⟨by rfl, rfl⟩) (by assumption) ?_
  try simp only [Act.put, zT, z0, zS]
  refine wpAnyF_take (i := 32) (oi := ⟨some 39, .load 24 (.tmp 38), _, _, _, some (27, false)⟩) (v := undef) rfl (by kernel_rfl) (by kernel_rfl) (by kernel_rfl) (by kernel_rfl) (fun _ _ _ h => h) (Or.inr ⟨by rfl, rfl⟩) (by assumption) ?_
  try simp only [Act.put, zT, z0, zS]
  refine wpAnyF_take (i := 33) (oi := ⟨some 40, .fieldAddr 33 (.tmp 3) 3, _, _, _, some (27, false)⟩) (v := undef) rfl (by kernel_rfl) (by kernel_rfl) (by kernel_rfl) (by kernel_rfl) (fun _ _ _ h => h) (Or.inr ⟨by rfl, rfl⟩) (by assumption) ?_
  try simp only [Act.put, zT, z0, zS]
  refine wpAnyF_take (i := 34) (oi := ⟨some 41, .load 3 (.tmp 40), _, _, _, some (27, false)⟩) (v := undef) rfl (by kernel_rfl) (by kernel_rfl) (by kernel_rfl) (by kernel_rfl) (fun _ _ _ h => h) (Or.inr ⟨by rfl, rfl⟩) (by assumption) ?_
  try simp only [Act.put, zT, z0, zS]
  refine wpAnyF_take (i := 35) (oi := ⟨some 42, .call { callee := .value (.func 125), args := #[(.tmp 39), (.tmp 41)], argTypes := #[24, 3] }, _, _, _, some (27, false)⟩) (v := undef) rfl (by kernel_rfl) (by kernel_rfl) (by kernel_rfl) (by kernel_rfl) (fun _ _ _ h => h) (Or.inr ⟨by rfl, rfl⟩) (by assumption) ?_
  try simp only [Act.put, zT, z0, zS]
  refine tkF (i := 36) (oi := ⟨some 43, .pick (.tmp 34) ((.const (.bool true))) (.tmp 42), _, _, _, none⟩) (v := ?_) rfl ?_ (by assumption) ?_
  rotate_left
  ·((intro w hSw; clear hSw; go_simp) <;> with_reducible rfl)
  try simp only [Act.put, zT, z0, zS]
  refine wpAnyF_done (by kernel_rfl) ?_ _
  have r2 := hrx.out _ (hKD.out _ hHeld)
  go_wp2_with (refine wpList_store_row rfl 33 (.tmp 4) (.tmp 44) rfl (w.heap.size + 1) zCells rfl rfl 33 _ (r2) (info33 _ _ _) rfl z_all ?_)
  refine bodyPost_ret (results_cell_tmp_row (fn := Tryz.f110) rfl _ _ (w.heap.size + 1) 33 zCells (0, 0) _ _ rfl rfl (setRow_heap _ _ _ _ _ _ r2) Tryz.underlying33 rfl (info33 _ _ _)) rfl ?_
  exact fin_none hB hK1 (hKD.out _ hHeld) _ hact2.out
 ·have t0 : (c.id == c.n) = false := by simpa using hx0
  rw [decide_eq_false hx0] at hact
  by_cases hx1 : c.id ∈ keysV g.vs
  rotate_left
  ·rw [decide_eq_false hx1] at hact k1
   have hact2 : Hid (R = none) := by show _ = _; rw [hact.out]; rfl
   clear hact hx0 hx1 k2 k3 k4 k5 k6
   unfold chCells zCells chCells zC zV zE nilS at hw1h
   unfold chCells
   have d9 := hcell.out w1 (KD.refl _ _)
   subst hae hbe
   clear hw1 hbx h hd hc hca
   subst hve hde
   generalize g.vs.length = nv at *
   generalize g.ds.length = nd at *
   clear d9
   go_enter Tryz.func110, Tryz.ntmps110
   go_wp2_with fail
   rw [← hw1h.out]
   refine wp_region_F (fun w' : World => Below w1.heap.size w1 w') 999 (by kernel_rfl) (Below.refl _ _).drew (fun hHeld => ?_)
   refine tkF (i := 0) (oi := ⟨some 7, .fieldAddr 33 (.tmp 3) 3, _, _, _, none⟩) (v := ?_) rfl ?_ (by assumption) ?_
   rotate_left
   ·((intro w hSw; clear hSw; go_simp) <;> with_reducible rfl)
   try simp only [Act.put, zT, z0, zS]
   refine tkF (i := 1) (oi := ⟨some 8, .load 3 (.tmp 7), _, _, _, none⟩) (v := ?_) rfl ?_ (by assumption) ?_
   rotate_left
   ·((intro w hSw; obtain ⟨d0, d2, d9, d10⟩ := hcr.out w hSw; go_simp) <;> with_reducible rfl)
   try simp only [Act.put, zT, z0, zS]
   refine tkF (i := 2) (oi := ⟨some 9, .fieldAddr 33 (.tmp 3) 4, _, _, _, none⟩) (v := ?_) rfl ?_ (by assumption) ?_
   rotate_left
   ·((intro w hSw; clear hSw; go_simp) <;> with_reducible rfl)
   try simp only [Act.put, zT, z0, zS]
   refine tkF (i := 3) (oi := ⟨some 10, .load 3 (.tmp 9), _, _, _, none⟩) (v := ?_) rfl ?_ (by assumption) ?_
   rotate_left
   ·((intro w hSw; obtain ⟨d0, d2, d9, d10⟩ := hcr.out w hSw; go_simp) <;> with_reducible rfl)
   try simp only [Act.put, zT, z0, zS]
   refine tkF (i := 4) (oi := ⟨some 11, .binOp BinOp.eql 3 (.tmp 8) (.tmp 10) 3, _, _, _, none⟩) (v := ?_) rfl ?_ (by assumption) ?_
   rotate_left
   ·((intro w hSw; clear hSw; go_simp) <;> with_reducible rfl)
   try simp only [Act.put, zT, z0, zS]
   refine tkF (i := 5) (oi := ⟨some 12, .move (.tmp 11), _, _, _, none⟩) (v := ?_) rfl ?_ (by assumption) ?_
   rotate_left
   ·((intro w hSw; clear hSw; go_simp) <;> with_reducible rfl)
   try simp only [Act.put, zT, z0, zS]
   refine tkF (i := 6) (oi := ⟨some 13, .move (.tmp 0), _, _, _, some (5, false)⟩) (v := ?_) rfl ?_ (by assumption) ?_
   rotate_left
   ·((intro w hSw; clear hSw; go_simp) <;> with_reducible rfl)
   try simp only [Act.put, zT, z0, zS]
   refine tkF (i := 7) (oi := ⟨some 14, .nilCheck (.tmp 13), _, _, _, some (5, false)⟩) (v := ?_) rfl ?_ (by assumption) ?_
   rotate_left
   ·((intro w hSw; clear hSw; go_simp) <;> with_reducible rfl)
   try simp only [Act.put, zT, z0, zS]
   refine tkF (i := 8) (oi := ⟨some 15, .fieldAddr 94 (.tmp 14) 0, _, _, _, some (5, false)⟩) (v := ?_) rfl ?_ (by assumption) ?_
   rotate_left
   ·((intro w hSw; clear hSw; go_simp) <;> with_reducible rfl)
   try simp only [Act.put, zT, z0, zS]
   refine tkF (i := 9) (oi := ⟨some 16, .fieldAddr 26 (.tmp 15) 0, _, _, _, some (5, false)⟩) (v := ?_) rfl ?_ (by assumption) ?_
   rotate_left
   ·((intro w hSw; clear hSw; go_simp) <;> with_reducible rfl)
   try simp only [Act.put, zT, z0, zS]
   refine tkF (i := 10) (oi := ⟨some 17, .load 22 (.tmp 16), _, _, _, some (5, false)⟩) (v := ?_) rfl ?_ (by assumption) ?_
   rotate_left
   ·((intro w hSw; obtain ⟨d0, d2, d9, d10⟩ := hcr.out w hSw; go_simp) <;> with_reducible rfl)
   try simp only [Act.put, zT, z0, zS]
   refine tkF (i := 11) (oi := ⟨some 18, .fieldAddr 33 (.tmp 3) 3, _, _, _, some (5, false)⟩) (v := ?_) rfl ?_ (by assumption) ?_
   rotate_left
   ·((intro w hSw; clear hSw; go_simp) <;> with_reducible rfl)
   try simp only [Act.put, zT, z0, zS]
   refine tkF (i := 12) (oi := ⟨some 19, .load 3 (.tmp 18), _, _, _, some (5, false)⟩) (v := ?_) rfl ?_ (by assumption) ?_
   rotate_left
   ·((intro w hSw; obtain ⟨d0, d2, d9, d10⟩ := hcr.out w hSw; go_simp) <;> with_reducible rfl)
   try simp only [Act.put, zT, z0, zS]
   refine wpAnyF_ready (rs := [13]) (by kernel_rfl) (by simp) ?_
   refine AllReadyF.cons (o := ⟨some 20, .call { callee := .value (.func 78), args := #[(.tmp 17), (.tmp 19)], argTypes := #[22, 3] }, _, _, _, some (5, false)⟩) rfl (fun K hK => ?_) ?_
   ·skip
    go_simp
    with_reducible refine (k1.out _ hHeld).mono ?_
    rintro e w2 ⟨rfl, b⟩
    have h2 : Below w1.heap.size w1 w2 := hHeld.trans (b.mono hHeld.size)
    clear b
    go_wp2_with fail
    refine hK.out _ _ ?_ (fun hHeld => ?_)
    ·exact h2
    clear hK K
    try simp only [Act.put, zT, z0, zS]
    refine tkF (i := 14) (oi := ⟨some 21, .unOp UnOp.not 4 (.tmp 20), _, _, _, some (5, false)⟩) (v := ?_) rfl ?_ (by assumption) ?_
    rotate_left
    ·((intro w hSw; clear hSw; go_simp) <;> with_reducible rfl)
    try simp only [Act.put, zT, z0, zS]
    refine tkF (i := 15) (oi := ⟨some 22, .pick (.tmp 12) ((.const (.bool true))) (.tmp 21), _, _, _, none⟩) (v := ?_) rfl ?_ (by assumption) ?_
    rotate_left
    ·((intro w hSw; clear hSw; go_simp) <;> with_reducible rfl)
    try simp only [Act.put, zT, z0, zS]
    refine tkF (i := 16) (oi := ⟨some 23, .move (.tmp 22), _, _, _, none⟩) (v := ?_) rfl ?_ (by assumption) ?_
    rotate_left
    ·((intro w hSw; clear hSw; go_simp) <;> with_reducible rfl)
    try simp only [Act.put, zT, z0, zS]
    refine wpAnyF_take (i := 17) (oi := ⟨some 24, .move (.tmp 0), _, _, _, some (16, false)⟩) (v := undef) rfl (by kernel_rfl) (by kernel_rfl) (by kernel_rfl) (by kernel_rfl) (fun _ _ _ h => h) (Or.inr ⟨by rfl, rfl⟩) (by assumption) ?_
    try simp only [Act.put, zT, z0, zS]
    refine wpAnyF_take (i := 18) (oi := ⟨some 25, .nilCheck (.tmp 24), _, _, _, some (16, false)⟩) (v := undef) rfl (by kernel_rfl) (by kernel_rfl) (by kernel_rfl) (by kernel_rfl) (fun _ _ _ h => h) (Or.inr ⟨by rfl, rfl⟩) (by assumption) ?_
    try simp only [Act.put, zT, z0, zS]
    refine wpAnyF_take (i := 19) (oi := ⟨some 26, .fieldAddr 94 (.tmp 25) 0, _, _, _, some (16, false)⟩) (v := undef) rfl (by kernel_rfl) (by kernel_rfl) (by kernel_rfl) (by kernel_rfl) (fun _ _ _ h => h) (Or.inr ⟨by rfl, rfl⟩) (by assumption) ?_
    try simp only [Act.put, zT, z0, zS]
    refine wpAnyF_take (i := 20) (oi := ⟨some 27, .fieldAddr 26 (.tmp 26) 0, _, _, _, some (16, false)⟩) (v := undef) rfl (by kernel_rfl) (by kernel_rfl) (by kernel_rfl) (by kernel_rfl) (fun _ _ _ h => h) (Or.inr ⟨by rfl, rfl⟩) (by assumption) ?_
    try simp only [Act.put, zT, z0, zS]
    refine wpAnyF_take (i := 21) (oi := ⟨some 28, .load 22 (.tmp 27), _, _, _, some (16, false)⟩) (v := undef) rfl (by kernel_rfl) (by kernel_rfl) (by kernel_rfl) (by kernel_rfl) (fun _ _ _ h => h) (Or.inr ⟨by rfl, rfl⟩) (by assumption) ?_
    try simp only [Act.put, zT, z0, zS]
    refine wpAnyF_take (i := 22) (oi := ⟨some 29, .fieldAddr 33 (.tmp 3) 4, _, _, _, some (16, false)⟩) (v := undef) rfl (by kernel_rfl) (by kernel_rfl) (by kernel_rfl) (by kernel_rfl) (fun _ _ _ h => h) (Or.inr ⟨by rfl, rfl⟩) (by assumption) ?_
    try simp only [Act.put, zT, z0, zS]
    refine wpAnyF_take (i := 23) (oi := ⟨some 30, .load 3 (.tmp 29), _, _, _, some (16, false)⟩) (v := undef) rfl (by kernel_rfl) (by kernel_rfl) (by kernel_rfl) (by kernel_rfl) (fun _ _ _ h => h) (Or.inr ⟨by rfl, rfl⟩) (by assumption) ?_
    try simp only [Act.put, zT, z0, zS]
    refine wpAnyF_take (i := 24) (oi := ⟨some 31, .call { callee := .value (.func 78), args := #[(.tmp 28), (.tmp 30)], argTypes := #[22, 3] }, _, _, _, some (16, false)⟩) (v := undef) rfl (by kernel_rfl) (by kernel_rfl) (by kernel_rfl) (by kernel_rfl) (fun _ _ _ h => h) (Or.inr ⟨by rfl, rfl⟩) (by assumption) ?_
    try simp only [Act.put, zT, z0, zS]
    refine wpAnyF_take (i := 25) (oi := ⟨some 32, .unOp UnOp.not 4 (.tmp 31), _, _, _, some (16, false)⟩) (v := undef) rfl (by kernel_rfl) (by kernel_rfl) (by kernel_rfl) (by kernel_rfl) (fun _ _ _ h => h) (Or.inr ⟨by rfl, rfl⟩) (by assumption) ?_
    try simp only [Act.put, zT, z0, zS]
    refine tkF (i := 26) (oi := ⟨some 33, .pick (.tmp 23) ((.const (.bool true))) (.tmp 32), _, _, _, none⟩) (v := ?_) rfl ?_ (by assumption) ?_
    rotate_left
    ·((intro w hSw; clear hSw; go_simp) <;> with_reducible rfl)
    try simp only [Act.put, zT, z0, zS]
    refine tkF (i := 27) (oi := ⟨some 34, .move (.tmp 33), _, _, _, none⟩) (v := ?_) rfl ?_ (by assumption) ?_
    rotate_left
    ·((intro w hSw; clear hSw; go_simp) <;> with_reducible rfl)
    try simp only [Act.put, zT, z0, zS]
    refine wpAnyF_take (i := 28) (oi := ⟨some 35, .move (.tmp 0), _, _, _, some (27, false)⟩) (v := undef) rfl (by kernel_rfl) (by kernel_rfl) (by kernel_rfl) (by kernel_rfl) (fun _ _ _ h => h) (Or.inr ⟨by rfl, rfl⟩) (by assumption) ?_
    try simp only [Act.put, zT, z0, zS]
    refine wpAnyF_take (i := 29) (oi := ⟨some 36, .nilCheck (.tmp 35), _, _, _, some (27, false)⟩) (v := undef) rfl (by kernel_rfl) (by kernel_rfl) (by kernel_rfl) (by kernel_rfl) (fun _ _ _ h => h) (Or.inr ⟨by rfl, rfl⟩) (by assumption) ?_
    try simp only [Act.put, zT, z0, zS]
    refine wpAnyF_take (i := 30) (oi := ⟨some 37, .fieldAddr 94 (.tmp 36) 0, _, _, _, some (27, false)⟩) (v := undef) rfl (by kernel_rfl) (by kernel_rfl) (by kernel_rfl) (by kernel_rfl) (fun _ _ _ h => h) (Or.inr ⟨by rfl, rfl⟩) (by assumption) ?_
    try simp only [Act.put, zT, z0, zS]
    refine wpAnyF_take (i := 31) (oi := ⟨some 38, .fieldAddr 26 (.tmp 37) 2, _, _, _, some (27, false)⟩) (v := undef) rfl (by kernel_rfl) (by kernel_rfl) (by kernel_rfl) (by kernel_rfl) (fun _ _ _ h => h) (Or.inr ⟨by rfl, rfl⟩) (by assumption) ?_
    try simp only [Act.put, zT, z0, zS]
    refine wpAnyF_take (i := 32) (oi := ⟨some 39, .load 24 (.tmp 38), _, _, _, some (27, false)⟩) (v := undef) rfl (by kernel_rfl) (by kernel_rfl) (by kernel_rfl) (by kernel_rfl) (fun _ _ _ h => h) (Or.inr ⟨by rfl, rfl⟩) (by assumption) ?_
    try simp only [Act.put, zT, z0, zS]
    refine wpAnyF_take (i := 33) (oi := ⟨some 40, .fieldAddr 33 (.tmp 3) 3, _, _, _, some (27, false)⟩) (v := undef) rfl (by kernel_rfl) (by kernel_rfl) (by kernel_rfl) (by kernel_rfl) (fun _ _ _ h => h) (Or.inr ⟨by rfl, rfl⟩) (by assumption) ?_
    try simp only [Act.put, zT, z0, zS]
    refine wpAnyF_take (i := 34) (oi := ⟨some 41, .load 3 (.tmp 40), _, _, _, some (27, false)⟩) (v := undef) rfl (by kernel_rfl) (by kernel_rfl) (by kernel_rfl) (by kernel_rfl) (fun _ _ _ h => h) (Or.inr ⟨by rfl, rfl⟩) (by assumption) ?_
    try simp only [Act.put, zT, z0, zS]
    refine wpAnyF_take (i := 35) (oi := ⟨some 42, .call { callee := .value (.func 125), args := #[(.tmp 39), (.tmp 41)], argTypes := #[24, 3] }, _, _, _, some (27, false)⟩) (v := undef) rfl (by kernel_rfl) (by kernel_rfl) (by kernel_rfl) (by kernel_rfl) (fun _ _ _ h => h) (Or.inr ⟨by rfl, rfl⟩) (by assumption) ?_
    try simp only [Act.put, zT, z0, zS]
    refine tkF (i := 36) (oi := ⟨some 43, .pick (.tmp 34) ((.const (.bool true))) (.tmp 42), _, _, _, none⟩) (v := ?_) rfl ?_ (by assumption) ?_
    rotate_left
    ·((intro w hSw; clear hSw; go_simp) <;> with_reducible rfl)
    try simp only [Act.put, zT, z0, zS]
    refine wpAnyF_done (by kernel_rfl) ?_ _
    have r2 := hrx.out _ (hKD.out _ hHeld)
    go_wp2_with (refine wpList_store_row rfl 33 (.tmp 4) (.tmp 44) rfl (w.heap.size + 1) zCells rfl rfl 33 _ (r2) (info33 _ _ _) rfl z_all ?_)
    refine bodyPost_ret (results_cell_tmp_row (fn := Tryz.f110) rfl _ _ (w.heap.size + 1) 33 zCells (0, 0) _ _ rfl rfl (setRow_heap _ _ _ _ _ _ r2) Tryz.underlying33 rfl (info33 _ _ _)) rfl ?_
    exact fin_none hB hK1 (hKD.out _ hHeld) _ hact2.out
   exact AllReadyF.nil
  ·rw [decide_eq_true hx1] at hact k1
   by_cases hx2 : c.n ∈ keysV g.vs
   rotate_left
   ·rw [decide_eq_false hx2] at hact k2
    have hact2 : Hid (R = none) := by show _ = _; rw [hact.out]; rfl
    clear hact hx0 hx1 hx2 k3 k4 k5 k6
    unfold chCells zCells chCells zC zV zE nilS at hw1h
    unfold chCells
    have d9 := hcell.out w1 (KD.refl _ _)
    subst hae hbe
    clear hw1 hbx h hd hc hca
    subst hve hde
    generalize g.vs.length = nv at *
    generalize g.ds.length = nd at *
    clear d9
    go_enter Tryz.func110, Tryz.ntmps110
    go_wp2_with fail
    rw [← hw1h.out]
    refine wp_region_F (fun w' : World => Below w1.heap.size w1 w') 999 (by kernel_rfl) (Below.refl _ _).drew (fun hHeld => ?_)
    refine tkF (i := 0) (oi := ⟨some 7, .fieldAddr 33 (.tmp 3) 3, _, _, _, none⟩) (v := ?_) rfl ?_ (by assumption) ?_
    rotate_left
    ·((intro w hSw; clear hSw; go_simp) <;> with_reducible rfl)
    try simp only [Act.put, zT, z0, zS]
    refine tkF (i := 1) (oi := ⟨some 8, .load 3 (.tmp 7), _, _, _, none⟩) (v := ?_) rfl ?_ (by assumption) ?_
    rotate_left
    ·((intro w hSw; obtain ⟨d0, d2, d9, d10⟩ := hcr.out w hSw; go_simp) <;> with_reducible rfl)
    try simp only [Act.put, zT, z0, zS]
    refine tkF (i := 2) (oi := ⟨some 9, .fieldAddr 33 (.tmp 3) 4, _, _, _, none⟩) (v := ?_) rfl ?_ (by assumption) ?_
    rotate_left
    ·((intro w hSw; clear hSw; go_simp) <;> with_reducible rfl)
    try simp only [Act.put, zT, z0, zS]
    refine tkF (i := 3) (oi := ⟨some 10, .load 3 (.tmp 9), _, _, _, none⟩) (v := ?_) rfl ?_ (by assumption) ?_
    rotate_left
    ·((intro w hSw; obtain ⟨d0, d2, d9, d10⟩ := hcr.out w hSw; go_simp) <;> with_reducible rfl)
    try simp only [Act.put, zT, z0, zS]
    refine tkF (i := 4) (oi := ⟨some 11, .binOp BinOp.eql 3 (.tmp 8) (.tmp 10) 3, _, _, _, none⟩) (v := ?_) rfl ?_ (by assumption) ?_
    rotate_left
    ·((intro w hSw; clear hSw; go_simp) <;> with_reducible rfl)
    try simp only [Act.put, zT, z0, zS]
    refine tkF (i := 5) (oi := ⟨some 12, .move (.tmp 11), _, _, _, none⟩) (v := ?_) rfl ?_ (by assumption) ?_
    rotate_left
    ·((intro w hSw; clear hSw; go_simp) <;> with_reducible rfl)
    try simp only [Act.put, zT, z0, zS]
    refine tkF (i := 6) (oi := ⟨some 13, .move (.tmp 0), _, _, _, some (5, false)⟩) (v := ?_) rfl ?_ (by assumption) ?_
    rotate_left
    ·((intro w hSw; clear hSw; go_simp) <;> with_reducible rfl)
    try simp only [Act.put, zT, z0, zS]
    refine tkF (i := 7) (oi := ⟨some 14, .nilCheck (.tmp 13), _, _, _, some (5, false)⟩) (v := ?_) rfl ?_ (by assumption) ?_
    rotate_left
    ·((intro w hSw; clear hSw; go_simp) <;> with_reducible rfl)
    try simp only [Act.put, zT, z0, zS]
    refine tkF (i := 8) (oi := ⟨some 15, .fieldAddr 94 (.tmp 14) 0, _, _, _, some (5, false)⟩) (v := ?_) rfl ?_ (by assumption) ?_
    rotate_left
    ·((intro w hSw; clear hSw; go_simp) <;> with_reducible rfl)
    try simp only [Act.put, zT, z0, zS]
    refine tkF (i := 9) (oi := ⟨some 16, .fieldAddr 26 (.tmp 15) 0, _, _, _, some (5, false)⟩) (v := ?_) rfl ?_ (by assumption) ?_
    rotate_left
    ·((intro w hSw; clear hSw; go_simp) <;> with_reducible rfl)
    try simp only [Act.put, zT, z0, zS]
    refine tkF (i := 10) (oi := ⟨some 17, .load 22 (.tmp 16), _, _, _, some (5, false)⟩) (v := ?_) rfl ?_ (by assumption) ?_
    rotate_left
    ·((intro w hSw; obtain ⟨d0, d2, d9, d10⟩ := hcr.out w hSw; go_simp) <;> with_reducible rfl)
    try simp only [Act.put, zT, z0, zS]
    refine tkF (i := 11) (oi := ⟨some 18, .fieldAddr 33 (.tmp 3) 3, _, _, _, some (5, false)⟩) (v := ?_) rfl ?_ (by assumption) ?_
    rotate_left
    ·((intro w hSw; clear hSw; go_simp) <;> with_reducible rfl)
    try simp only [Act.put, zT, z0, zS]
    refine tkF (i := 12) (oi := ⟨some 19, .load 3 (.tmp 18), _, _, _, some (5, false)⟩) (v := ?_) rfl ?_ (by assumption) ?_
    rotate_left
    ·((intro w hSw; obtain ⟨d0, d2, d9, d10⟩ := hcr.out w hSw; go_simp) <;> with_reducible rfl)
    try simp only [Act.put, zT, z0, zS]
    refine wpAnyF_ready (rs := [13]) (by kernel_rfl) (by simp) ?_
    refine AllReadyF.cons (o := ⟨some 20, .call { callee := .value (.func 78), args := #[(.tmp 17), (.tmp 19)], argTypes := #[22, 3] }, _, _, _, some (5, false)⟩) rfl (fun K hK => ?_) ?_
    ·skip
     go_simp
     with_reducible refine (k1.out _ hHeld).mono ?_
     rintro e w2 ⟨rfl, b⟩
     have h2 : Below w1.heap.size w1 w2 := hHeld.trans (b.mono hHeld.size)
     clear b
     go_wp2_with fail
     refine hK.out _ _ ?_ (fun hHeld => ?_)
     ·exact h2
     clear hK K
     try simp only [Act.put, zT, z0, zS]
     refine tkF (i := 14) (oi := ⟨some 21, .unOp UnOp.not 4 (.tmp 20), _, _, _, some (5, false)⟩) (v := ?_) rfl ?_ (by assumption) ?_
     rotate_left
     ·((intro w hSw; clear hSw; go_simp) <;> with_reducible rfl)
     try simp only [Act.put, zT, z0, zS]
     refine tkF (i := 15) (oi := ⟨some 22, .pick (.tmp 12) ((.const (.bool true))) (.tmp 21), _, _, _, none⟩) (v := ?_) rfl ?_ (by assumption) ?_
     rotate_left
     ·((intro w hSw; clear hSw; go_simp) <;> with_reducible rfl)
     try simp only [Act.put, zT, z0, zS]
     refine tkF (i := 16) (oi := ⟨some 23, .move (.tmp 22), _, _, _, none⟩) (v := ?_) rfl ?_ (by assumption) ?_
     rotate_left
     ·((intro w hSw; clear hSw; go_simp) <;> with_reducible rfl)
     try simp only [Act.put, zT, z0, zS]
     refine tkF (i := 17) (oi := ⟨some 24, .move (.tmp 0), _, _, _, some (16, false)⟩) (v := ?_) rfl ?_ (by assumption) ?_
     rotate_left
     ·((intro w hSw; clear hSw; go_simp) <;> with_reducible rfl)
     try simp only [Act.put, zT, z0, zS]
     refine tkF (i := 18) (oi := ⟨some 25, .nilCheck (.tmp 24), _, _, _, some (16, false)⟩) (v := ?_) rfl ?_ (by assumption) ?_
     rotate_left
     ·((intro w hSw; clear hSw; go_simp) <;> with_reducible rfl)
     try simp only [Act.put, zT, z0, zS]
     refine tkF (i := 19) (oi := ⟨some 26, .fieldAddr 94 (.tmp 25) 0, _, _, _, some (16, false)⟩) (v := ?_) rfl ?_ (by assumption) ?_
     rotate_left
     ·((intro w hSw; clear hSw; go_simp) <;> with_reducible rfl)
     try simp only [Act.put, zT, z0, zS]
     refine tkF (i := 20) (oi := ⟨some 27, .fieldAddr 26 (.tmp 26) 0, _, _, _, some (16, false)⟩) (v := ?_) rfl ?_ (by assumption) ?_
     rotate_left
     ·((intro w hSw; clear hSw; go_simp) <;> with_reducible rfl)
     try simp only [Act.put, zT, z0, zS]
     refine tkF (i := 21) (oi := ⟨some 28, .load 22 (.tmp 27), _, _, _, some (16, false)⟩) (v := ?_) rfl ?_ (by assumption) ?_
     rotate_left
     ·((intro w hSw; obtain ⟨d0, d2, d9, d10⟩ := hcr.out w hSw; go_simp) <;> with_reducible rfl)
     try simp only [Act.put, zT, z0, zS]
     refine tkF (i := 22) (oi := ⟨some 29, .fieldAddr 33 (.tmp 3) 4, _, _, _, some (16, false)⟩) (v := ?_) rfl ?_ (by assumption) ?_
     rotate_left
     ·((intro w hSw; clear hSw; go_simp) <;> with_reducible rfl)
     try simp only [Act.put, zT, z0, zS]
     refine tkF (i := 23) (oi := ⟨some 30, .load 3 (.tmp 29), _, _, _, some (16, false)⟩) (v := ?_) rfl ?_ (by assumption) ?_
     rotate_left
     ·((intro w hSw; obtain ⟨d0, d2, d9, d10⟩ := hcr.out w hSw; go_simp) <;> with_reducible rfl)
     try simp only [Act.put, zT, z0, zS]
     refine wpAnyF_ready (rs := [24]) (by kernel_rfl) (by simp) ?_
     refine AllReadyF.cons (o := ⟨some 31, .call { callee := .value (.func 78), args := #[(.tmp 28), (.tmp 30)], argTypes := #[22, 3] }, _, _, _, some (16, false)⟩) rfl (fun K hK => ?_) ?_
     ·skip
      go_simp
      with_reducible refine (k2.out _ hHeld).mono ?_
      rintro e w2b ⟨rfl, b⟩
      have h2b : Below w1.heap.size w1 w2b := hHeld.trans (b.mono hHeld.size)
      clear b
      go_wp2_with fail
      refine hK.out _ _ ?_ (fun hHeld => ?_)
      ·exact h2b
      clear hK K
      try simp only [Act.put, zT, z0, zS]
      refine tkF (i := 25) (oi := ⟨some 32, .unOp UnOp.not 4 (.tmp 31), _, _, _, some (16, false)⟩) (v := ?_) rfl ?_ (by assumption) ?_
      rotate_left
      ·((intro w hSw; clear hSw; go_simp) <;> with_reducible rfl)
      try simp only [Act.put, zT, z0, zS]
      refine tkF (i := 26) (oi := ⟨some 33, .pick (.tmp 23) ((.const (.bool true))) (.tmp 32), _, _, _, none⟩) (v := ?_) rfl ?_ (by assumption) ?_
      rotate_left
      ·((intro w hSw; clear hSw; go_simp) <;> with_reducible rfl)
      try simp only [Act.put, zT, z0, zS]
      refine tkF (i := 27) (oi := ⟨some 34, .move (.tmp 33), _, _, _, none⟩) (v := ?_) rfl ?_ (by assumption) ?_
      rotate_left
      ·((intro w hSw; clear hSw; go_simp) <;> with_reducible rfl)
      try simp only [Act.put, zT, z0, zS]
      refine wpAnyF_take (i := 28) (oi := ⟨some 35, .move (.tmp 0), _, _, _, some (27, false)⟩) (v := undef) rfl (by kernel_rfl) (by kernel_rfl) (by kernel_rfl) (by kernel_rfl) (fun _ _ _ h => h) (Or.inr ⟨by rfl, rfl⟩) (by assumption) ?_
      try simp only [Act.put, zT, z0, zS]
      refine wpAnyF_take (i := 29) (oi := ⟨some 36, .nilCheck (.tmp 35), _, _, _, some (27, false)⟩) (v := undef) rfl (by kernel_rfl) (by kernel_rfl) (by kernel_rfl) (by kernel_rfl) (fun _ _ _ h => h) (Or.inr ⟨by rfl, rfl⟩) (by assumption) ?_
      try simp only [Act.put, zT, z0, zS]
      refine wpAnyF_take (i := 30) (oi := ⟨some 37, .fieldAddr 94 (.tmp 36) 0, _, _, _, some (27, false)⟩) (v := undef) rfl (by kernel_rfl) (by kernel_rfl) (by kernel_rfl) (by kernel_rfl) (fun _ _ _ h => h) (Or.inr ⟨by rfl, rfl⟩) (by assumption) ?_
      try simp only [Act.put, zT, z0, zS]
      refine wpAnyF_take (i := 31) (oi := ⟨some 38, .fieldAddr 26 (.tmp 37) 2, _, _, _, some (27, false)⟩) (v := undef) rfl (by kernel_rfl) (by kernel_rfl) (by kernel_rfl) (by kernel_rfl) (fun _ _ _ h => h) (Or.inr ⟨by rfl, rfl⟩) (by assumption) ?_
      try simp only [Act.put, zT, z0, zS]
      refine wpAnyF_take (i := 32) (oi := ⟨some 39, .load 24 (.tmp 38), _, _, _, some (27, false)⟩) (v := undef) rfl (by kernel_rfl) (by kernel_rfl) (by kernel_rfl) (by kernel_rfl) (fun _ _ _ h => h) (Or.inr ⟨by rfl, rfl⟩) (by assumption) ?_
      try simp only [Act.put, zT, z0, zS]
      refine wpAnyF_take (i := 33) (oi := ⟨some 40, .fieldAddr 33 (.tmp 3) 3, _, _, _, some (27, false)⟩) (v := undef) rfl (by kernel_rfl) (by kernel_rfl) (by kernel_rfl) (by kernel_rfl) (fun _ _ _ h => h) (Or.inr ⟨by rfl, rfl⟩) (by assumption) ?_
      try simp only [Act.put, zT, z0, zS]
      refine wpAnyF_take (i := 34) (oi := ⟨some 41, .load 3 (.tmp 40), _, _, _, some (27, false)⟩) (v := undef) rfl (by kernel_rfl) (by kernel_rfl) (by kernel_rfl) (by kernel_rfl) (fun _ _ _ h => h) (Or.inr ⟨by rfl, rfl⟩) (by assumption) ?_
      try simp only [Act.put, zT, z0, zS]
      refine wpAnyF_take (i := 35) (oi := ⟨some 42, .call { callee := .value (.func 125), args := #[(.tmp 39), (.tmp 41)], argTypes := #[24, 3] }, _, _, _, some (27, false)⟩) (v := undef) rfl (by kernel_rfl) (by kernel_rfl) (by kernel_rfl) (by kernel_rfl) (fun _ _ _ h => h) (Or.inr ⟨by rfl, rfl⟩) (by assumption) ?_
      try simp only [Act.put, zT, z0, zS]
      refine tkF (i := 36) (oi := ⟨some 43, .pick (.tmp 34) ((.const (.bool true))) (.tmp 42), _, _, _, none⟩) (v := ?_) rfl ?_ (by assumption) ?_
      rotate_left
      ·((intro w hSw; clear hSw; go_simp) <;> with_reducible rfl)
      try simp only [Act.put, zT, z0, zS]
      refine wpAnyF_done (by kernel_rfl) ?_ _
      have r2 := hrx.out _ (hKD.out _ hHeld)
      go_wp2_with (refine wpList_store_row rfl 33 (.tmp 4) (.tmp 44) rfl (w.heap.size + 1) zCells rfl rfl 33 _ (r2) (info33 _ _ _) rfl z_all ?_)
      refine bodyPost_ret (results_cell_tmp_row (fn := Tryz.f110) rfl _ _ (w.heap.size + 1) 33 zCells (0, 0) _ _ rfl rfl (setRow_heap _ _ _ _ _ _ r2) Tryz.underlying33 rfl (info33 _ _ _)) rfl ?_
      exact fin_none hB hK1 (hKD.out _ hHeld) _ hact2.out
     exact AllReadyF.nil
    exact AllReadyF.nil
   ·rw [decide_eq_true hx2] at hact k2
    by_cases hx3 : c.id ∈ g.ds
    ·rw [decide_eq_true hx3] at hact k3
     have hact2 : Hid (R = none) := by show _ = _; rw [hact.out]; rfl
     clear hact hx0 hx1 hx2 hx3 k4 k5 k6
     unfold chCells zCells chCells zC zV zE nilS at hw1h
     unfold chCells
     have d9 := hcell.out w1 (KD.refl _ _)
     subst hae hbe
     clear hw1 hbx h hd hc hca
     subst hve hde
     generalize g.vs.length = nv at *
     generalize g.ds.length = nd at *
     clear d9
     go_enter Tryz.func110, Tryz.ntmps110
     go_wp2_with fail
     rw [← hw1h.out]
     refine wp_region_F (fun w' : World => Below w1.heap.size w1 w') 999 (by kernel_rfl) (Below.refl _ _).drew (fun hHeld => ?_)
     refine tkF (i := 0) (oi := ⟨some 7, .fieldAddr 33 (.tmp 3) 3, _, _, _, none⟩) (v := ?_) rfl ?_ (by assumption) ?_
     rotate_left
     ·((intro w hSw; clear hSw; go_simp) <;> with_reducible rfl)
     try simp only [Act.put, zT, z0, zS]
     refine tkF (i := 1) (oi := ⟨some 8, .load 3 (.tmp 7), _, _, _, none⟩) (v := ?_) rfl ?_ (by assumption) ?_
     rotate_left
     ·((intro w hSw; obtain ⟨d0, d2, d9, d10⟩ := hcr.out w hSw; go_simp) <;> with_reducible rfl)
     try simp only [Act.put, zT, z0, zS]
     refine tkF (i := 2) (oi := ⟨some 9, .fieldAddr 33 (.tmp 3) 4, _, _, _, none⟩) (v := ?_) rfl ?_ (by assumption) ?_
     rotate_left
     ·((intro w hSw; clear hSw; go_simp) <;> with_reducible rfl)
     try simp only [Act.put, zT, z0, zS]
     refine tkF (i := 3) (oi := ⟨some 10, .load 3 (.tmp 9), _, _, _, none⟩) (v := ?_) rfl ?_ (by assumption) ?_
     rotate_left
     ·((intro w hSw; obtain ⟨d0, d2, d9, d10⟩ := hcr.out w hSw; go_simp) <;> with_reducible rfl)
     try simp only [Act.put, zT, z0, zS]
     refine tkF (i := 4) (oi := ⟨some 11, .binOp BinOp.eql 3 (.tmp 8) (.tmp 10) 3, _, _, _, none⟩) (v := ?_) rfl ?_ (by assumption) ?_
     rotate_left
     ·((intro w hSw; clear hSw; go_simp) <;> with_reducible rfl)
     try simp only [Act.put, zT, z0, zS]
     refine tkF (i := 5) (oi := ⟨some 12, .move (.tmp 11), _, _, _, none⟩) (v := ?_) rfl ?_ (by assumption) ?_
     rotate_left
     ·((intro w hSw; clear hSw; go_simp) <;> with_reducible rfl)
     try simp only [Act.put, zT, z0, zS]
     refine tkF (i := 6) (oi := ⟨some 13, .move (.tmp 0), _, _, _, some (5, false)⟩) (v := ?_) rfl ?_ (by assumption) ?_
     rotate_left
     ·((intro w hSw; clear hSw; go_simp) <;> with_reducible rfl)
     try simp only [Act.put, zT, z0, zS]
     refine tkF (i := 7) (oi := ⟨some 14, .nilCheck (.tmp 13), _, _, _, some (5, false)⟩) (v := ?_) rfl ?_ (by assumption) ?_
     rotate_left
     ·((intro w hSw; clear hSw; go_simp) <;> with_reducible rfl)
     try simp only [Act.put, zT, z0, zS]
     refine tkF (i := 8) (oi := ⟨some 15, .fieldAddr 94 (.tmp 14) 0, _, _, _, some (5, false)⟩) (v := ?_) rfl ?_ (by assumption) ?_
     rotate_left
     ·((intro w hSw; clear hSw; go_simp) <;> with_reducible rfl)
     try simp only [Act.put, zT, z0, zS]
     refine tkF (i := 9) (oi := ⟨some 16, .fieldAddr 26 (.tmp 15) 0, _, _, _, some (5, false)⟩) (v := ?_) rfl ?_ (by assumption) ?_
     rotate_left
     ·((intro w hSw; clear hSw; go_simp) <;> with_reducible rfl)
     try simp only [Act.put, zT, z0, zS]
     refine tkF (i := 10) (oi := ⟨some 17, .load 22 (.tmp 16), _, _, _, some (5, false)⟩) (v := ?_) rfl ?_ (by assumption) ?_
     rotate_left
     ·((intro w hSw; obtain ⟨d0, d2, d9, d10⟩ := hcr.out w hSw; go_simp) <;> with_reducible rfl)
     try simp only [Act.put, zT, z0, zS]
     refine tkF (i := 11) (oi := ⟨some 18, .fieldAddr 33 (.tmp 3) 3, _, _, _, some (5, false)⟩) (v := ?_) rfl ?_ (by assumption) ?_
     rotate_left
     ·((intro w hSw; clear hSw; go_simp) <;> with_reducible rfl)
     try simp only [Act.put, zT, z0, zS]
     refine tkF (i := 12) (oi := ⟨some 19, .load 3 (.tmp 18), _, _, _, some (5, false)⟩) (v := ?_) rfl ?_ (by assumption) ?_
     rotate_left
     ·((intro w hSw; obtain ⟨d0, d2, d9, d10⟩ := hcr.out w hSw; go_simp) <;> with_reducible rfl)
     try simp only [Act.put, zT, z0, zS]
     refine wpAnyF_ready (rs := [13]) (by kernel_rfl) (by simp) ?_
     refine AllReadyF.cons (o := ⟨some 20, .call { callee := .value (.func 78), args := #[(.tmp 17), (.tmp 19)], argTypes := #[22, 3] }, _, _, _, some (5, false)⟩) rfl (fun K hK => ?_) ?_
     ·skip
      go_simp
      with_reducible refine (k1.out _ hHeld).mono ?_
      rintro e w2 ⟨rfl, b⟩
      have h2 : Below w1.heap.size w1 w2 := hHeld.trans (b.mono hHeld.size)
      clear b
      go_wp2_with fail
      refine hK.out _ _ ?_ (fun hHeld => ?_)
      ·exact h2
      clear hK K
      try simp only [Act.put, zT, z0, zS]
      refine tkF (i := 14) (oi := ⟨some 21, .unOp UnOp.not 4 (.tmp 20), _, _, _, some (5, false)⟩) (v := ?_) rfl ?_ (by assumption) ?_
      rotate_left
      ·((intro w hSw; clear hSw; go_simp) <;> with_reducible rfl)
      try simp only [Act.put, zT, z0, zS]
      refine tkF (i := 15) (oi := ⟨some 22, .pick (.tmp 12) ((.const (.bool true))) (.tmp 21), _, _, _, none⟩) (v := ?_) rfl ?_ (by assumption) ?_
      rotate_left
      ·((intro w hSw; clear hSw; go_simp) <;> with_reducible rfl)
      try simp only [Act.put, zT, z0, zS]
      refine tkF (i := 16) (oi := ⟨some 23, .move (.tmp 22), _, _, _, none⟩) (v := ?_) rfl ?_ (by assumption) ?_
      rotate_left
      ·((intro w hSw; clear hSw; go_simp) <;> with_reducible rfl)
      try simp only [Act.put, zT, z0, zS]
      refine tkF (i := 17) (oi := ⟨some 24, .move (.tmp 0), _, _, _, some (16, false)⟩) (v := ?_) rfl ?_ (by assumption) ?_
      rotate_left
      ·((intro w hSw; clear hSw; go_simp) <;> with_reducible rfl)
      try simp only [Act.put, zT, z0, zS]
      refine tkF (i := 18) (oi := ⟨some 25, .nilCheck (.tmp 24), _, _, _, some (16, false)⟩) (v := ?_) rfl ?_ (by assumption) ?_
      rotate_left
      ·((intro w hSw; clear hSw; go_simp) <;> with_reducible rfl)
      try simp only [Act.put, zT, z0, zS]
      refine tkF (i := 19) (oi := ⟨some 26, .fieldAddr 94 (.tmp 25) 0, _, _, _, some (16, false)⟩) (v := ?_) rfl ?_ (by assumption) ?_
      rotate_left
      ·((intro w hSw; clear hSw; go_simp) <;> with_reducible rfl)
      try simp only [Act.put, zT, z0, zS]
      refine tkF (i := 20) (oi := ⟨some 27, .fieldAddr 26 (.tmp 26) 0, _, _, _, some (16, false)⟩) (v := ?_) rfl ?_ (by assumption) ?_
      rotate_left
      ·((intro w hSw; clear hSw; go_simp) <;> with_reducible rfl)
      try simp only [Act.put, zT, z0, zS]
      refine tkF (i := 21) (oi := ⟨some 28, .load 22 (.tmp 27), _, _, _, some (16, false)⟩) (v := ?_) rfl ?_ (by assumption) ?_
      rotate_left
      ·((intro w hSw; obtain ⟨d0, d2, d9, d10⟩ := hcr.out w hSw; go_simp) <;> with_reducible rfl)
      try simp only [Act.put, zT, z0, zS]
      refine tkF (i := 22) (oi := ⟨some 29, .fieldAddr 33 (.tmp 3) 4, _, _, _, some (16, false)⟩) (v := ?_) rfl ?_ (by assumption) ?_
      rotate_left
      ·((intro w hSw; clear hSw; go_simp) <;> with_reducible rfl)
      try simp only [Act.put, zT, z0, zS]
      refine tkF (i := 23) (oi := ⟨some 30, .load 3 (.tmp 29), _, _, _, some (16, false)⟩) (v := ?_) rfl ?_ (by assumption) ?_
      rotate_left
      ·((intro w hSw; obtain ⟨d0, d2, d9, d10⟩ := hcr.out w hSw; go_simp) <;> with_reducible rfl)
      try simp only [Act.put, zT, z0, zS]
      refine wpAnyF_ready (rs := [24]) (by kernel_rfl) (by simp) ?_
      refine AllReadyF.cons (o := ⟨some 31, .call { callee := .value (.func 78), args := #[(.tmp 28), (.tmp 30)], argTypes := #[22, 3] }, _, _, _, some (16, false)⟩) rfl (fun K hK => ?_) ?_
      ·skip
       go_simp
       with_reducible refine (k2.out _ hHeld).mono ?_
       rintro e w2b ⟨rfl, b⟩
       have h2b : Below w1.heap.size w1 w2b := hHeld.trans (b.mono hHeld.size)
       clear b
       go_wp2_with fail
       refine hK.out _ _ ?_ (fun hHeld => ?_)
       ·exact h2b
       clear hK K
       try simp only [Act.put, zT, z0, zS]
       refine tkF (i := 25) (oi := ⟨some 32, .unOp UnOp.not 4 (.tmp 31), _, _, _, some (16, false)⟩) (v := ?_) rfl ?_ (by assumption) ?_
       rotate_left
       ·((intro w hSw; clear hSw; go_simp) <;> with_reducible rfl)
       try simp only [Act.put, zT, z0, zS]
       refine tkF (i := 26) (oi := ⟨some 33, .pick (.tmp 23) ((.const (.bool true))) (.tmp 32), _, _, _, none⟩) (v := ?_) rfl ?_ (by assumption) ?_
       rotate_left
       ·((intro w hSw; clear hSw; go_simp) <;> with_reducible rfl)
       try simp only [Act.put, zT, z0, zS]
       refine tkF (i := 27) (oi := ⟨some 34, .move (.tmp 33), _, _, _, none⟩) (v := ?_) rfl ?_ (by assumption) ?_
       rotate_left
       ·((intro w hSw; clear hSw; go_simp) <;> with_reducible rfl)
       try simp only [Act.put, zT, z0, zS]
       refine tkF (i := 28) (oi := ⟨some 35, .move (.tmp 0), _, _, _, some (27, false)⟩) (v := ?_) rfl ?_ (by assumption) ?_
       rotate_left
       ·((intro w hSw; clear hSw; go_simp) <;> with_reducible rfl)
       try simp only [Act.put, zT, z0, zS]
       refine tkF (i := 29) (oi := ⟨some 36, .nilCheck (.tmp 35), _, _, _, some (27, false)⟩) (v := ?_) rfl ?_ (by assumption) ?_
       rotate_left
       ·((intro w hSw; clear hSw; go_simp) <;> with_reducible rfl)
       try simp only [Act.put, zT, z0, zS]
       refine tkF (i := 30) (oi := ⟨some 37, .fieldAddr 94 (.tmp 36) 0, _, _, _, some (27, false)⟩) (v := ?_) rfl ?_ (by assumption) ?_
       rotate_left
       ·((intro w hSw; clear hSw; go_simp) <;> with_reducible rfl)
       try simp only [Act.put, zT, z0, zS]
       refine tkF (i := 31) (oi := ⟨some 38, .fieldAddr 26 (.tmp 37) 2, _, _, _, some (27, false)⟩) (v := ?_) rfl ?_ (by assumption) ?_
       rotate_left
       ·((intro w hSw; clear hSw; go_simp) <;> with_reducible rfl)
       try simp only [Act.put, zT, z0, zS]
       refine tkF (i := 32) (oi := ⟨some 39, .load 24 (.tmp 38), _, _, _, some (27, false)⟩) (v := ?_) rfl ?_ (by assumption) ?_
       rotate_left
       ·((intro w hSw; obtain ⟨d0, d2, d9, d10⟩ := hcr.out w hSw; go_simp) <;> with_reducible rfl)
       try simp only [Act.put, zT, z0, zS]
       refine tkF (i := 33) (oi := ⟨some 40, .fieldAddr 33 (.tmp 3) 3, _, _, _, some (27, false)⟩) (v := ?_) rfl ?_ (by assumption) ?_
       rotate_left
       ·((intro w hSw; clear hSw; go_simp) <;> with_reducible rfl)
       try simp only [Act.put, zT, z0, zS]
       refine tkF (i := 34) (oi := ⟨some 41, .load 3 (.tmp 40), _, _, _, some (27, false)⟩) (v := ?_) rfl ?_ (by assumption) ?_
       rotate_left
       ·((intro w hSw; obtain ⟨d0, d2, d9, d10⟩ := hcr.out w hSw; go_simp) <;> with_reducible rfl)
       try simp only [Act.put, zT, z0, zS]
       refine wpAnyF_ready (rs := [35]) (by kernel_rfl) (by simp) ?_
       refine AllReadyF.cons (o := ⟨some 42, .call { callee := .value (.func 125), args := #[(.tmp 39), (.tmp 41)], argTypes := #[24, 3] }, _, _, _, some (27, false)⟩) rfl (fun K hK => ?_) ?_
       ·skip
        go_simp
        with_reducible refine (k3.out _ hHeld).mono ?_
        rintro e w3 ⟨rfl, rfl⟩
        go_wp2_with fail
        refine hK.out _ _ ?_ (fun hHeld => ?_)
        ·exact hHeld
        clear hK K
        try simp only [Act.put, zT, z0, zS]
        refine tkF (i := 36) (oi := ⟨some 43, .pick (.tmp 34) ((.const (.bool true))) (.tmp 42), _, _, _, none⟩) (v := ?_) rfl ?_ (by assumption) ?_
        rotate_left
        ·((intro w hSw; clear hSw; go_simp) <;> with_reducible rfl)
        try simp only [Act.put, zT, z0, zS]
        refine wpAnyF_done (by kernel_rfl) ?_ _
        have r2 := hrx.out _ (hKD.out _ hHeld)
        go_wp2_with (refine wpList_store_row rfl 33 (.tmp 4) (.tmp 44) rfl (w.heap.size + 1) zCells rfl rfl 33 _ (r2) (info33 _ _ _) rfl z_all ?_)
        refine bodyPost_ret (results_cell_tmp_row (fn := Tryz.f110) rfl _ _ (w.heap.size + 1) 33 zCells (0, 0) _ _ rfl rfl (setRow_heap _ _ _ _ _ _ r2) Tryz.underlying33 rfl (info33 _ _ _)) rfl ?_
        exact fin_none hB hK1 (hKD.out _ hHeld) _ hact2.out
       exact AllReadyF.nil
      exact AllReadyF.nil
     exact AllReadyF.nil
    ·rw [decide_eq_false hx3] at hact k3
     have hact2 : Hid (R = some ({ g with vs := delV g.vs c.id, es := g.es.map (ctE c.id c.n) }, { zC with kind := 8, id := c.n, v := getV g.vs c.id, ends := E })) := by show _ = _; rw [hact.out]; rfl
     generalize getV g.vs c.id = gu at *
     unfold Vx.val at k6
     clear hact hx0 hx2 hx3
     unfold chCells zCells chCells zC zV zE nilS at hw1h
     unfold chCells
     have d9 := hcell.out w1 (KD.refl _ _)
     subst hae hbe
     clear hw1 hbx h hd hc hca
     subst hve hde
     generalize g.vs.length = nv at *
     generalize g.ds.length = nd at *
     clear d9
     go_enter Tryz.func110, Tryz.ntmps110
     go_wp2_with fail
     rw [← hw1h.out]
     refine wp_region_F (fun w' : World => Below w1.heap.size w1 w') 999 (by kernel_rfl) (Below.refl _ _).drew (fun hHeld => ?_)
     refine tkF (i := 0) (oi := ⟨some 7, .fieldAddr 33 (.tmp 3) 3, _, _, _, none⟩) (v := ?_) rfl ?_ (by assumption) ?_
     rotate_left
     ·((intro w hSw; clear hSw; go_simp) <;> with_reducible rfl)
     try simp only [Act.put, zT, z0, zS]
     refine tkF (i := 1) (oi := ⟨some 8, .load 3 (.tmp 7), _, _, _, none⟩) (v := ?_) rfl ?_ (by assumption) ?_
     rotate_left
     ·((intro w hSw; obtain ⟨d0, d2, d9, d10⟩ := hcr.out w hSw; go_simp) <;> with_reducible rfl)
     try simp only [Act.put, zT, z0, zS]
     refine tkF (i := 2) (oi := ⟨some 9, .fieldAddr 33 (.tmp 3) 4, _, _, _, none⟩) (v := ?_) rfl ?_ (by assumption) ?_
     rotate_left
     ·((intro w hSw; clear hSw; go_simp) <;> with_reducible rfl)
     try simp only [Act.put, zT, z0, zS]
     refine tkF (i := 3) (oi := ⟨some 10, .load 3 (.tmp 9), _, _, _, none⟩) (v := ?_) rfl ?_ (by assumption) ?_
     rotate_left
     ·((intro w hSw; obtain ⟨d0, d2, d9, d10⟩ := hcr.out w hSw; go_simp) <;> with_reducible rfl)
     try simp only [Act.put, zT, z0, zS]
     refine tkF (i := 4) (oi := ⟨some 11, .binOp BinOp.eql 3 (.tmp 8) (.tmp 10) 3, _, _, _, none⟩) (v := ?_) rfl ?_ (by assumption) ?_
     rotate_left
     ·((intro w hSw; clear hSw; go_simp) <;> with_reducible rfl)
     try simp only [Act.put, zT, z0, zS]
     refine tkF (i := 5) (oi := ⟨some 12, .move (.tmp 11), _, _, _, none⟩) (v := ?_) rfl ?_ (by assumption) ?_
     rotate_left
     ·((intro w hSw; clear hSw; go_simp) <;> with_reducible rfl)
     try simp only [Act.put, zT, z0, zS]
     refine tkF (i := 6) (oi := ⟨some 13, .move (.tmp 0), _, _, _, some (5, false)⟩) (v := ?_) rfl ?_ (by assumption) ?_
     rotate_left
     ·((intro w hSw; clear hSw; go_simp) <;> with_reducible rfl)
     try simp only [Act.put, zT, z0, zS]
     refine tkF (i := 7) (oi := ⟨some 14, .nilCheck (.tmp 13), _, _, _, some (5, false)⟩) (v := ?_) rfl ?_ (by assumption) ?_
     rotate_left
     ·((intro w hSw; clear hSw; go_simp) <;> with_reducible rfl)
     try simp only [Act.put, zT, z0, zS]
     refine tkF (i := 8) (oi := ⟨some 15, .fieldAddr 94 (.tmp 14) 0, _, _, _, some (5, false)⟩) (v := ?_) rfl ?_ (by assumption) ?_
     rotate_left
     ·((intro w hSw; clear hSw; go_simp) <;> with_reducible rfl)
     try simp only [Act.put, zT, z0, zS]
     refine tkF (i := 9) (oi := ⟨some 16, .fieldAddr 26 (.tmp 15) 0, _, _, _, some (5, false)⟩) (v := ?_) rfl ?_ (by assumption) ?_
     rotate_left
     ·((intro w hSw; clear hSw; go_simp) <;> with_reducible rfl)
     try simp only [Act.put, zT, z0, zS]
     refine tkF (i := 10) (oi := ⟨some 17, .load 22 (.tmp 16), _, _, _, some (5, false)⟩) (v := ?_) rfl ?_ (by assumption) ?_
     rotate_left
     ·((intro w hSw; obtain ⟨d0, d2, d9, d10⟩ := hcr.out w hSw; go_simp) <;> with_reducible rfl)
     try simp only [Act.put, zT, z0, zS]
     refine tkF (i := 11) (oi := ⟨some 18, .fieldAddr 33 (.tmp 3) 3, _, _, _, some (5, false)⟩) (v := ?_) rfl ?_ (by assumption) ?_
     rotate_left
     ·((intro w hSw; clear hSw; go_simp) <;> with_reducible rfl)
     try simp only [Act.put, zT, z0, zS]
     refine tkF (i := 12) (oi := ⟨some 19, .load 3 (.tmp 18), _, _, _, some (5, false)⟩) (v := ?_) rfl ?_ (by assumption) ?_
     rotate_left
     ·((intro w hSw; obtain ⟨d0, d2, d9, d10⟩ := hcr.out w hSw; go_simp) <;> with_reducible rfl)
     try simp only [Act.put, zT, z0, zS]
     refine wpAnyF_ready (rs := [13]) (by kernel_rfl) (by simp) ?_
     refine AllReadyF.cons (o := ⟨some 20, .call { callee := .value (.func 78), args := #[(.tmp 17), (.tmp 19)], argTypes := #[22, 3] }, _, _, _, some (5, false)⟩) rfl (fun K hK => ?_) ?_
     ·skip
      go_simp
      with_reducible refine (k1.out _ hHeld).mono ?_
      rintro e w2 ⟨rfl, b⟩
      have h2 : Below w1.heap.size w1 w2 := hHeld.trans (b.mono hHeld.size)
      clear b
      go_wp2_with fail
      refine hK.out _ _ ?_ (fun hHeld => ?_)
      ·exact h2
      clear hK K
      try simp only [Act.put, zT, z0, zS]
      refine tkF (i := 14) (oi := ⟨some 21, .unOp UnOp.not 4 (.tmp 20), _, _, _, some (5, false)⟩) (v := ?_) rfl ?_ (by assumption) ?_
      rotate_left
      ·((intro w hSw; clear hSw; go_simp) <;> with_reducible rfl)
      try simp only [Act.put, zT, z0, zS]
      refine tkF (i := 15) (oi := ⟨some 22, .pick (.tmp 12) ((.const (.bool true))) (.tmp 21), _, _, _, none⟩) (v := ?_) rfl ?_ (by assumption) ?_
      rotate_left
      ·((intro w hSw; clear hSw; go_simp) <;> with_reducible rfl)
      try simp only [Act.put, zT, z0, zS]
      refine tkF (i := 16) (oi := ⟨some 23, .move (.tmp 22), _, _, _, none⟩) (v := ?_) rfl ?_ (by assumption) ?_
      rotate_left
      ·((intro w hSw; clear hSw; go_simp) <;> with_reducible rfl)
      try simp only [Act.put, zT, z0, zS]
      refine tkF (i := 17) (oi := ⟨some 24, .move (.tmp 0), _, _, _, some (16, false)⟩) (v := ?_) rfl ?_ (by assumption) ?_
      rotate_left
      ·((intro w hSw; clear hSw; go_simp) <;> with_reducible rfl)
      try simp only [Act.put, zT, z0, zS]
      refine tkF (i := 18) (oi := ⟨some 25, .nilCheck (.tmp 24), _, _, _, some (16, false)⟩) (v := ?_) rfl ?_ (by assumption) ?_
      rotate_left
      ·((intro w hSw; clear hSw; go_simp) <;> with_reducible rfl)
      try simp only [Act.put, zT, z0, zS]
      refine tkF (i := 19) (oi := ⟨some 26, .fieldAddr 94 (.tmp 25) 0, _, _, _, some (16, false)⟩) (v := ?_) rfl ?_ (by assumption) ?_
      rotate_left
      ·((intro w hSw; clear hSw; go_simp) <;> with_reducible rfl)
      try simp only [Act.put, zT, z0, zS]
      refine tkF (i := 20) (oi := ⟨some 27, .fieldAddr 26 (.tmp 26) 0, _, _, _, some (16, false)⟩) (v := ?_) rfl ?_ (by assumption) ?_
      rotate_left
      ·((intro w hSw; clear hSw; go_simp) <;> with_reducible rfl)
      try simp only [Act.put, zT, z0, zS]
      refine tkF (i := 21) (oi := ⟨some 28, .load 22 (.tmp 27), _, _, _, some (16, false)⟩) (v := ?_) rfl ?_ (by assumption) ?_
      rotate_left
      ·((intro w hSw; obtain ⟨d0, d2, d9, d10⟩ := hcr.out w hSw; go_simp) <;> with_reducible rfl)
      try simp only [Act.put, zT, z0, zS]
      refine tkF (i := 22) (oi := ⟨some 29, .fieldAddr 33 (.tmp 3) 4, _, _, _, some (16, false)⟩) (v := ?_) rfl ?_ (by assumption) ?_
      rotate_left
      ·((intro w hSw; clear hSw; go_simp) <;> with_reducible rfl)
      try simp only [Act.put, zT, z0, zS]
      refine tkF (i := 23) (oi := ⟨some 30, .load 3 (.tmp 29), _, _, _, some (16, false)⟩) (v := ?_) rfl ?_ (by assumption) ?_
      rotate_left
      ·((intro w hSw; obtain ⟨d0, d2, d9, d10⟩ := hcr.out w hSw; go_simp) <;> with_reducible rfl)
      try simp only [Act.put, zT, z0, zS]
      refine wpAnyF_ready (rs := [24]) (by kernel_rfl) (by simp) ?_
      refine AllReadyF.cons (o := ⟨some 31, .call { callee := .value (.func 78), args := #[(.tmp 28), (.tmp 30)], argTypes := #[22, 3] }, _, _, _, some (16, false)⟩) rfl (fun K hK => ?_) ?_
      ·skip
       go_simp
       with_reducible refine (k2.out _ hHeld).mono ?_
       rintro e w2b ⟨rfl, b⟩
       have h2b : Below w1.heap.size w1 w2b := hHeld.trans (b.mono hHeld.size)
       clear b
       go_wp2_with fail
       refine hK.out _ _ ?_ (fun hHeld => ?_)
       ·exact h2b
       clear hK K
       try simp only [Act.put, zT, z0, zS]
       refine tkF (i := 25) (oi := ⟨some 32, .unOp UnOp.not 4 (.tmp 31), _, _, _, some (16, false)⟩) (v := ?_) rfl ?_ (by assumption) ?_
       rotate_left
       ·((intro w hSw; clear hSw; go_simp) <;> with_reducible rfl)
       try simp only [Act.put, zT, z0, zS]
       refine tkF (i := 26) (oi := ⟨some 33, .pick (.tmp 23) ((.const (.bool true))) (.tmp 32), _, _, _, none⟩) (v := ?_) rfl ?_ (by assumption) ?_
       rotate_left
       ·((intro w hSw; clear hSw; go_simp) <;> with_reducible rfl)
       try simp only [Act.put, zT, z0, zS]
       refine tkF (i := 27) (oi := ⟨some 34, .move (.tmp 33), _, _, _, none⟩) (v := ?_) rfl ?_ (by assumption) ?_
       rotate_left
       ·((intro w hSw; clear hSw; go_simp) <;> with_reducible rfl)
       try simp only [Act.put, zT, z0, zS]
       refine tkF (i := 28) (oi := ⟨some 35, .move (.tmp 0), _, _, _, some (27, false)⟩) (v := ?_) rfl ?_ (by assumption) ?_
       rotate_left
       ·((intro w hSw; clear hSw; go_simp) <;> with_reducible rfl)
       try simp only [Act.put, zT, z0, zS]
       refine tkF (i := 29) (oi := ⟨some 36, .nilCheck (.tmp 35), _, _, _, some (27, false)⟩) (v := ?_) rfl ?_ (by assumption) ?_
       rotate_left
       ·((intro w hSw; clear hSw; go_simp) <;> with_reducible rfl)
       try simp only [Act.put, zT, z0, zS]
       refine tkF (i := 30) (oi := ⟨some 37, .fieldAddr 94 (.tmp 36) 0, _, _, _, some (27, false)⟩) (v := ?_) rfl ?_ (by assumption) ?_
       rotate_left
       ·((intro w hSw; clear hSw; go_simp) <;> with_reducible rfl)
       try simp only [Act.put, zT, z0, zS]
       refine tkF (i := 31) (oi := ⟨some 38, .fieldAddr 26 (.tmp 37) 2, _, _, _, some (27, false)⟩) (v := ?_) rfl ?_ (by assumption) ?_
       rotate_left
       ·((intro w hSw; clear hSw; go_simp) <;> with_reducible rfl)
       try simp only [Act.put, zT, z0, zS]
       refine tkF (i := 32) (oi := ⟨some 39, .load 24 (.tmp 38), _, _, _, some (27, false)⟩) (v := ?_) rfl ?_ (by assumption) ?_
       rotate_left
       ·((intro w hSw; obtain ⟨d0, d2, d9, d10⟩ := hcr.out w hSw; go_simp) <;> with_reducible rfl)
       try simp only [Act.put, zT, z0, zS]
       refine tkF (i := 33) (oi := ⟨some 40, .fieldAddr 33 (.tmp 3) 3, _, _, _, some (27, false)⟩) (v := ?_) rfl ?_ (by assumption) ?_
       rotate_left
       ·((intro w hSw; clear hSw; go_simp) <;> with_reducible rfl)
       try simp only [Act.put, zT, z0, zS]
       refine tkF (i := 34) (oi := ⟨some 41, .load 3 (.tmp 40), _, _, _, some (27, false)⟩) (v := ?_) rfl ?_ (by assumption) ?_
       rotate_left
       ·((intro w hSw; obtain ⟨d0, d2, d9, d10⟩ := hcr.out w hSw; go_simp) <;> with_reducible rfl)
       try simp only [Act.put, zT, z0, zS]
       refine wpAnyF_ready (rs := [35]) (by kernel_rfl) (by simp) ?_
       refine AllReadyF.cons (o := ⟨some 42, .call { callee := .value (.func 125), args := #[(.tmp 39), (.tmp 41)], argTypes := #[24, 3] }, _, _, _, some (27, false)⟩) rfl (fun K hK => ?_) ?_
       ·skip
        go_simp
        with_reducible refine (k3.out _ hHeld).mono ?_
        rintro e w3 ⟨rfl, rfl⟩
        go_wp2_with fail
        refine hK.out _ _ ?_ (fun hHeld => ?_)
        ·exact hHeld
        clear hK K
        try simp only [Act.put, zT, z0, zS]
        refine tkF (i := 36) (oi := ⟨some 43, .pick (.tmp 34) ((.const (.bool true))) (.tmp 42), _, _, _, none⟩) (v := ?_) rfl ?_ (by assumption) ?_
        rotate_left
        ·((intro w hSw; clear hSw; go_simp) <;> with_reducible rfl)
        try simp only [Act.put, zT, z0, zS]
        refine wpAnyF_done (by kernel_rfl) ?_ _
        obtain ⟨d0, d2, d9, d10⟩ := hcr.out _ hHeld
        go_wp2_with fail
        with_reducible refine (k4.out _ hHeld).mono ?_
        rintro e w4 ⟨r, rfl, hO, b4⟩
        have h4 := hHeld.trans (b4.mono hHeld.size)
        have k5' := Lib.hid (k5.out _ hHeld w4 b4 r hO)
        obtain ⟨ra, rc, rfl⟩ := hO.DL.shape
        obtain ⟨d0, d2, d9, d10⟩ := hcr.out _ h4
        clear b4 hO
        go_wp2_with fail
        with_reducible refine k5'.out.mono ?_
        rintro e w6 ⟨rfl, q1, q2, q3⟩
        have hD6 := q1.out
        have hK6 := q2.out
        have hO6 := q3.out
        clear q1 q2 q3
        have hK6d : KD B w1 w6.drew := ⟨hK6.below.drew, hK6.keep⟩
        replace hO6 : OwnI w6.drew _ _ _ := World.ownsRow.drew hO6
        replace hD6 : DrV w6.drew B db _ ev _ mv _ := ⟨hD6.hB, hD6.box, hD6.v, hD6.e, hD6.d, hD6.m⟩
        go_wp2_with fail
        refine wp_region_F (fun w' : World => w'.cell? ⟨w.heap.size, 9, none⟩ = some (.int .i64 c.id) ∧ w'.cell? ⟨w.heap.size, 10, none⟩ = some (.int .i64 c.n)) 999 (by kernel_rfl) (hcb.out _ hK6d) (fun hHeld => ?_)
        refine tkF (i := 0) (oi := ⟨some 54, .fieldAddr 33 (.tmp 3) 4, _, _, _, none⟩) (v := ?_) rfl ?_ (by assumption) ?_
        rotate_left
        ·((intro w hSw; clear hSw; go_simp) <;> with_reducible rfl)
        try simp only [Act.put, zT, z0, zS]
        refine tkF (i := 1) (oi := ⟨some 55, .load 3 (.tmp 54), _, _, _, none⟩) (v := ?_) rfl ?_ (by assumption) ?_
        rotate_left
        ·((intro w hSw; obtain ⟨e9, e10⟩ := hSw; go_simp) <;> with_reducible rfl)
        try simp only [Act.put, zT, z0, zS]
        refine tkF (i := 2) (oi := ⟨some 56, .move (.tmp 0), _, _, _, none⟩) (v := ?_) rfl ?_ (by assumption) ?_
        rotate_left
        ·((intro w hSw; clear hSw; go_simp) <;> with_reducible rfl)
        try simp only [Act.put, zT, z0, zS]
        refine tkF (i := 3) (oi := ⟨some 57, .fieldAddr 33 (.tmp 3) 3, _, _, _, none⟩) (v := ?_) rfl ?_ (by assumption) ?_
        rotate_left
        ·((intro w hSw; clear hSw; go_simp) <;> with_reducible rfl)
        try simp only [Act.put, zT, z0, zS]
        refine tkF (i := 4) (oi := ⟨some 58, .load 3 (.tmp 57), _, _, _, none⟩) (v := ?_) rfl ?_ (by assumption) ?_
        rotate_left
        ·((intro w hSw; obtain ⟨e9, e10⟩ := hSw; go_simp) <;> with_reducible rfl)
        try simp only [Act.put, zT, z0, zS]
        refine tkF (i := 6) (oi := ⟨some 60, .move (.tmp 6), _, _, _, none⟩) (v := ?_) rfl ?_ (by assumption) ?_
        rotate_left
        ·((intro w hSw; clear hSw; go_simp) <;> with_reducible rfl)
        try simp only [Act.put, zT, z0, zS]
        refine wpAnyF_ready (rs := [5]) (by kernel_rfl) (by simp) ?_
        refine AllReadyF.cons (o := ⟨some 59, .call { callee := .value (.func 127), args := #[(.tmp 56), (.tmp 58)], argTypes := #[89, 3] }, _, _, _, none⟩) rfl (fun K hK => ?_) ?_
        ·skip
         go_simp
         refine (k6.out _ hD6 hx1).mono ?_
         rintro e w7 ⟨rfl, vv', hD7, hK7⟩
         have K7 := hK6d.trans hK7
         have r7 := hrx.out w7 K7
         have O7 := (hO6.kd hK7).row33 r7 (chCells { zC with kind := 8, id := c.n, v := gu, ends := E } (.slice ra E.length rc) (.slice none 0 0))
         have cb7 := hcb.out w7 K7
         have cb8 := Lib.hid (show (w7.setRow (w.heap.size + 1) (chCells { zC with kind := 8, id := c.n, v := gu, ends := E } (.slice ra E.length rc) (.slice none 0 0))).cell? ⟨w.heap.size, 9, none⟩ = some (.int .i64 c.id) ∧ (w7.setRow (w.heap.size + 1) (chCells { zC with kind := 8, id := c.n, v := gu, ends := E } (.slice ra E.length rc) (.slice none 0 0))).cell? ⟨w.heap.size, 10, none⟩ = some (.int .i64 c.n) from ⟨by rw [World.cell?_of_block (setRow_other _ _ _ _ (by show w.heap.size ≠ w.heap.size + 1; omega))]; exact cb7.1, by rw [World.cell?_of_block (setRow_other _ _ _ _ (by show w.heap.size ≠ w.heap.size + 1; omega))]; exact cb7.2⟩)
         go_wp2_with fail
         refine hK.out _ _ ?_ (fun hHeld => ?_)
         ·exact cb7
         clear hK K
         try simp only [Act.put, zT, z0, zS]
         refine tkF (i := 7) (oi := ⟨some 61, .build 33 #[(0, (.const (.int .i64 8))), (3, (.tmp 55)), (1, (.tmp 59)), (5, (.tmp 60))], _, _, _, none⟩) (v := ?_) rfl ?_ (by assumption) ?_
         rotate_left
         ·((intro w hSw; clear hSw; go_simp) <;> with_reducible rfl)
         try simp only [Act.put, zT, z0, zS]
         refine wpAnyF_ready (rs := [8]) (by kernel_rfl) (by simp) ?_
         refine AllReadyF.cons (o := ⟨none, .store 33 (.tmp 4) (.tmp 61), _, _, _, none⟩) rfl (fun K hK => ?_) ?_
         ·skip
          refine wp_store_row 33 (.tmp 4) (.tmp 61) rfl (w.heap.size + 1) (chCells { zC with kind := 8, id := c.n, v := gu, ends := E } (.slice ra E.length rc) (.slice none 0 0)) rfl rfl 33 _ r7 (info33 _ _ _) rfl (ch_all _ _ _ _ _ _ _) ?_
          refine hK.out _ _ ?_ (fun hHeld => ?_)
          ·exact cb8.out
          clear hK K
          try simp only [Act.put, zT, z0, zS]
          refine tkF (i := 9) (oi := ⟨some 5, .assign ((.const (.bool true))), _, _, _, none⟩) (v := ?_) rfl ?_ (by assumption) ?_
          rotate_left
          ·((intro w hSw; clear hSw; go_simp) <;> with_reducible rfl)
          try simp only [Act.put, zT, z0, zS]
          refine wpAnyF_done (by kernel_rfl) ?_ _
          go_wp2_with fail
          refine bodyPost_ret (results_cell_tmp_row (fn := Tryz.f110) rfl _ _ (w.heap.size + 1) 33 (chCells { zC with kind := 8, id := c.n, v := gu, ends := E } (.slice ra E.length rc) (.slice none 0 0)) (0, 0) _ _ rfl rfl (setRow_heap _ _ _ _ _ _ r7) Tryz.underlying33 rfl (info33 _ _ _)) rfl ?_
          exact fin_some hB hK1 K7 hD7 r7 hact2.out O7.base0 (nil_O _)
         exact AllReadyF.nil
        exact AllReadyF.nil
       exact AllReadyF.nil
      exact AllReadyF.nil
     exact AllReadyF.nil
end Go.Proofs.YtlaldnlgapeckaaGreat
