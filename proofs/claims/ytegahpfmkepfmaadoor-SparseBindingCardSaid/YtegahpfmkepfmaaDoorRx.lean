/- Read, also of openings with very long rows. -/
import Derived.Test.YtegahpfmkepfmaaDoorRd
import Derived.Test.YtegahpfmkepfmaaDoorSk
namespace Go.Proofs.YtegahpfmkepfmaaDoor
open Go.RowKit
set_option linter.unusedSimpArgs false in
set_option maxRecDepth 100000 in
set_option maxHeartbeats 2000000 in
theorem formedX_any (v : Value) (ks : List Int) (vs ps : List Str) (w : World) (hv : OpV w v ks vs ps) (hk : ks.length ≤ 140737488351232) (_ : vs.length ≤ 9223372036854775807) (_ : ps.length ≤ 9223372036854775807) :
  Calls Tryd.prog 76 #[v] w fun e w' => e = .returned (.bool (formB ks vs ps)) ∧ Below w.heap.size w w' := by
 obtain ⟨a, b, c, rfl, ha, hb, hc⟩ := hv
 obtain ⟨w1, hw1⟩ : ∃ w1, w1 = w.alloc (.cells #[a, b, c] 37) := ⟨_, rfl⟩
 obtain ⟨B1, z1, hcell⟩ := box_world w w1 a b c 37 hw1
 have h1 := Lib.hid (fun W (B : Below w1.heap.size w1 W) => keyList_any a ks W ((ha.below B1).below B) hk)
 have h2 := Lib.hid (fun (hs : vs.length ≤ 140737488351232) W (B : Below w1.heap.size w1 W) => anyTl b vs W ((hb.below B1).below B) hs)
 have h4 := Lib.hid (fun (hs : ps.length ≤ 140737488351232) W (B : Below w1.heap.size w1 W) => anyNoD c ps W ((hc.below B1).below B) hs)
 have hcl4 : (closedL (tN ks)).length ≤ 64 := clF_size (tN ks) 6 1
 have h3 := Lib.hid (show ascB (-1) ks = true → ∀ W (B : Below w1.heap.size w1 W), Calls Tryd.prog 48 #[a] W fun e w' => ∃ xa xc, e = .returned (.slice xa (closedL (tN ks)).length xc) ∧ Below W.heap.size W w' from fun hasc W B => by
  have hbd := ascB_bd ks (-1) (by omega) hasc
  have hlen := ascB_len ks (-1) (by omega) (by omega) hasc
  have ha' : SI W a (nI (tN ks)) := by rw [nI_tN ks (fun x hx => by have := (hbd x hx).1; omega)]; exact (ha.below B1).below B
  refine (closed_any a (tN ks) W ha' rfl (fun k hk => ?_) (by simp [tN]; omega)).mono ?_
  ·simp only [tN, List.mem_map] at hk
   obtain ⟨x, hx, rfl⟩ := hk
   have := hbd x hx; omega
  ·rintro e w' ⟨r, rfl, ho, hB⟩
   obtain ⟨xa, xc, hr⟩ := (OwnG.SL eI_len ho).shape
   refine ⟨xa, xc, ?_, hB⟩
   rw [hr]; simp [nI])
 obtain ⟨a1, a2, rfl⟩ := ha.shape
 obtain ⟨b1, b2, rfl⟩ := hb.shape
 obtain ⟨c1, c2, rfl⟩ := hc.shape
 have hS0 := Lib.hid (hcell w1 (Below.refl _ _))
 have sK := Lib.hid hcell
 have hB1 := Lib.hid B1
 have hr : Hid (formB ks vs ps = (ascB (-1) ks && (vs.length == ks.length) && !(vs.any tl) && (ps.length == (closedL (tN ks)).length) && !(ps.any noD))) := rfl
 generalize formB ks vs ps = R at *
 generalize ascB (-1) ks = r1 at *
 generalize vs.any tl = r3 at *
 generalize ps.any noD = r5 at *
 generalize (closedL (tN ks)).length = n4 at *
 generalize ks.length = n1 at *
 generalize vs.length = n2 at *
 generalize ps.length = n3 at *
 have hw1 := Lib.hid hw1
 rename_i hw1o
 clear hw1o ha hb hc hcell B1 z1
 cases r1 with
 | false =>
  have hR : R = false := by rw [hr.out]; simp
  subst hR
  clear hr h2 h3 h4
  go_enter Tryd.func76, Tryd.ntmps76
  go_wp2_with fail
  rw [← hw1.out]
  refine wp_region_held_drew (S := (fun w' : World => w'.cell? ⟨w.heap.size, 0, none⟩ = some (.slice a1 n1 a2) ∧ w'.cell? ⟨w.heap.size, 1, none⟩ = some (.slice b1 n2 b2) ∧ w'.cell? ⟨w.heap.size, 2, none⟩ = some (.slice c1 n3 c2))) (by kernel_rfl) hS0.out (fun hHeld => ?_)
  refine takeH (i := 0) (oi := { dst := some 3, op := .fieldAddr 37 (.tmp 1) 0, type := _, pos := _, after := _, guard := none }) (v := ?_) rfl (Or.inl ⟨by rfl, ?_⟩) (by assumption) ?_
  rotate_left
  ·(intro w hSw; (try dsimp only at hSw); go_simp) <;> with_reducible rfl
  try simp only [Act.put, zT, z0, zS]
  refine takeH (i := 1) (oi := { dst := some 4, op := .load 24 (.tmp 3), type := _, pos := _, after := _, guard := none }) (v := ?_) rfl (Or.inl ⟨by rfl, ?_⟩) (by assumption) ?_
  rotate_left
  ·(intro w hSw; (try dsimp only at hSw); go_simp) <;> with_reducible rfl
  try simp only [Act.put, zT, z0, zS]
  refine wpAnyH_ready (rs := [2]) (by kernel_rfl) (by simp) ?_
  refine AllReadyH.cons (o := { dst := some 5, op := .call { callee := .value (.func 45), args := #[(.tmp 4)], argTypes := #[24] }, type := _, pos := _, after := _, guard := none }) rfl (fun K hK => ?_) ?_
  ·skip
   go_simp
   with_reducible refine (h1.out _ (Below.refl _ _).drew).mono ?_
   rintro e W2 ⟨rfl, d2⟩
   have B2 : Below w1.heap.size w1 W2 := (Below.refl _ w1).drew.trans d2
   clear d2
   go_wp2_with fail
   refine hK.out _ _ ?_ (fun hHeld => ?_)
   ·exact sK.out W2 B2
   clear hK K
   try simp only [Act.put, zT, z0, zS]
   refine takeH (i := 3) (oi := { dst := some 6, op := .move (.tmp 5), type := _, pos := _, after := _, guard := none }) (v := ?_) rfl (Or.inl ⟨by rfl, ?_⟩) (by assumption) ?_
   rotate_left
   ·(intro w hSw; (try dsimp only at hSw); go_simp) <;> with_reducible rfl
   try simp only [Act.put, zT, z0, zS]
   refine takeH (i := 4) (oi := { dst := some 7, op := .fieldAddr 37 (.tmp 1) 1, type := _, pos := _, after := _, guard := some (3, true) }) (v := undef) rfl (Or.inr ⟨by rfl, rfl⟩) (by assumption) ?_
   try simp only [Act.put, zT, z0, zS]
   refine takeH (i := 5) (oi := { dst := some 8, op := .load 35 (.tmp 7), type := _, pos := _, after := _, guard := some (3, true) }) (v := undef) rfl (Or.inr ⟨by rfl, rfl⟩) (by assumption) ?_
   try simp only [Act.put, zT, z0, zS]
   refine takeH (i := 6) (oi := { dst := some 9, op := .call { callee := .builtin .len, args := #[(.tmp 8)], argTypes := #[35] }, type := _, pos := _, after := _, guard := some (3, true) }) (v := undef) rfl (Or.inr ⟨by rfl, rfl⟩) (by assumption) ?_
   try simp only [Act.put, zT, z0, zS]
   refine takeH (i := 7) (oi := { dst := some 10, op := .fieldAddr 37 (.tmp 1) 0, type := _, pos := _, after := _, guard := some (3, true) }) (v := undef) rfl (Or.inr ⟨by rfl, rfl⟩) (by assumption) ?_
   try simp only [Act.put, zT, z0, zS]
   refine takeH (i := 8) (oi := { dst := some 11, op := .load 24 (.tmp 10), type := _, pos := _, after := _, guard := some (3, true) }) (v := undef) rfl (Or.inr ⟨by rfl, rfl⟩) (by assumption) ?_
   try simp only [Act.put, zT, z0, zS]
   refine takeH (i := 9) (oi := { dst := some 12, op := .call { callee := .builtin .len, args := #[(.tmp 11)], argTypes := #[24] }, type := _, pos := _, after := _, guard := some (3, true) }) (v := undef) rfl (Or.inr ⟨by rfl, rfl⟩) (by assumption) ?_
   try simp only [Act.put, zT, z0, zS]
   refine takeH (i := 10) (oi := { dst := some 13, op := .binOp BinOp.eql 3 (.tmp 9) (.tmp 12) 3, type := _, pos := _, after := _, guard := some (3, true) }) (v := undef) rfl (Or.inr ⟨by rfl, rfl⟩) (by assumption) ?_
   try simp only [Act.put, zT, z0, zS]
   refine takeH (i := 11) (oi := { dst := some 14, op := .pick (.tmp 6) (.tmp 13) ((Operand.const (Value.bool false))), type := _, pos := _, after := _, guard := none }) (v := ?_) rfl (Or.inl ⟨by rfl, ?_⟩) (by assumption) ?_
   rotate_left
   ·(intro w hSw; (try dsimp only at hSw); go_simp) <;> with_reducible rfl
   try simp only [Act.put, zT, z0, zS]
   refine takeH (i := 12) (oi := { dst := some 15, op := .move (.tmp 14), type := _, pos := _, after := _, guard := none }) (v := ?_) rfl (Or.inl ⟨by rfl, ?_⟩) (by assumption) ?_
   rotate_left
   ·(intro w hSw; (try dsimp only at hSw); go_simp) <;> with_reducible rfl
   try simp only [Act.put, zT, z0, zS]
   refine takeH (i := 13) (oi := { dst := some 16, op := .fieldAddr 37 (.tmp 1) 1, type := _, pos := _, after := _, guard := some (12, true) }) (v := undef) rfl (Or.inr ⟨by rfl, rfl⟩) (by assumption) ?_
   try simp only [Act.put, zT, z0, zS]
   refine takeH (i := 14) (oi := { dst := some 17, op := .load 35 (.tmp 16), type := _, pos := _, after := _, guard := some (12, true) }) (v := undef) rfl (Or.inr ⟨by rfl, rfl⟩) (by assumption) ?_
   try simp only [Act.put, zT, z0, zS]
   refine takeH (i := 15) (oi := { dst := some 18, op := .call { callee := .value (.func 88), args := #[(.tmp 17), Operand.func 67], argTypes := #[35, 99] }, type := _, pos := _, after := _, guard := some (12, true) }) (v := undef) rfl (Or.inr ⟨by rfl, rfl⟩) (by assumption) ?_
   try simp only [Act.put, zT, z0, zS]
   refine takeH (i := 16) (oi := { dst := some 19, op := .unOp UnOp.not 4 (.tmp 18), type := _, pos := _, after := _, guard := some (12, true) }) (v := undef) rfl (Or.inr ⟨by rfl, rfl⟩) (by assumption) ?_
   try simp only [Act.put, zT, z0, zS]
   refine takeH (i := 17) (oi := { dst := some 20, op := .pick (.tmp 15) (.tmp 19) ((Operand.const (Value.bool false))), type := _, pos := _, after := _, guard := none }) (v := ?_) rfl (Or.inl ⟨by rfl, ?_⟩) (by assumption) ?_
   rotate_left
   ·(intro w hSw; (try dsimp only at hSw); go_simp) <;> with_reducible rfl
   try simp only [Act.put, zT, z0, zS]
   refine takeH (i := 18) (oi := { dst := some 21, op := .move (.tmp 20), type := _, pos := _, after := _, guard := none }) (v := ?_) rfl (Or.inl ⟨by rfl, ?_⟩) (by assumption) ?_
   rotate_left
   ·(intro w hSw; (try dsimp only at hSw); go_simp) <;> with_reducible rfl
   try simp only [Act.put, zT, z0, zS]
   refine takeH (i := 19) (oi := { dst := some 22, op := .fieldAddr 37 (.tmp 1) 2, type := _, pos := _, after := _, guard := some (18, true) }) (v := undef) rfl (Or.inr ⟨by rfl, rfl⟩) (by assumption) ?_
   try simp only [Act.put, zT, z0, zS]
   refine takeH (i := 20) (oi := { dst := some 23, op := .load 35 (.tmp 22), type := _, pos := _, after := _, guard := some (18, true) }) (v := undef) rfl (Or.inr ⟨by rfl, rfl⟩) (by assumption) ?_
   try simp only [Act.put, zT, z0, zS]
   refine takeH (i := 21) (oi := { dst := some 24, op := .call { callee := .builtin .len, args := #[(.tmp 23)], argTypes := #[35] }, type := _, pos := _, after := _, guard := some (18, true) }) (v := undef) rfl (Or.inr ⟨by rfl, rfl⟩) (by assumption) ?_
   try simp only [Act.put, zT, z0, zS]
   refine takeH (i := 22) (oi := { dst := some 25, op := .fieldAddr 37 (.tmp 1) 0, type := _, pos := _, after := _, guard := some (18, true) }) (v := undef) rfl (Or.inr ⟨by rfl, rfl⟩) (by assumption) ?_
   try simp only [Act.put, zT, z0, zS]
   refine takeH (i := 23) (oi := { dst := some 26, op := .load 24 (.tmp 25), type := _, pos := _, after := _, guard := some (18, true) }) (v := undef) rfl (Or.inr ⟨by rfl, rfl⟩) (by assumption) ?_
   try simp only [Act.put, zT, z0, zS]
   refine takeH (i := 24) (oi := { dst := some 27, op := .call { callee := .value (.func 48), args := #[(.tmp 26)], argTypes := #[24] }, type := _, pos := _, after := _, guard := some (18, true) }) (v := undef) rfl (Or.inr ⟨by rfl, rfl⟩) (by assumption) ?_
   try simp only [Act.put, zT, z0, zS]
   refine takeH (i := 25) (oi := { dst := some 28, op := .call { callee := .builtin .len, args := #[(.tmp 27)], argTypes := #[24] }, type := _, pos := _, after := _, guard := some (18, true) }) (v := undef) rfl (Or.inr ⟨by rfl, rfl⟩) (by assumption) ?_
   try simp only [Act.put, zT, z0, zS]
   refine takeH (i := 26) (oi := { dst := some 29, op := .binOp BinOp.eql 3 (.tmp 24) (.tmp 28) 3, type := _, pos := _, after := _, guard := some (18, true) }) (v := undef) rfl (Or.inr ⟨by rfl, rfl⟩) (by assumption) ?_
   try simp only [Act.put, zT, z0, zS]
   refine takeH (i := 27) (oi := { dst := some 30, op := .pick (.tmp 21) (.tmp 29) ((Operand.const (Value.bool false))), type := _, pos := _, after := _, guard := none }) (v := ?_) rfl (Or.inl ⟨by rfl, ?_⟩) (by assumption) ?_
   rotate_left
   ·(intro w hSw; (try dsimp only at hSw); go_simp) <;> with_reducible rfl
   try simp only [Act.put, zT, z0, zS]
   refine takeH (i := 28) (oi := { dst := some 31, op := .move (.tmp 30), type := _, pos := _, after := _, guard := none }) (v := ?_) rfl (Or.inl ⟨by rfl, ?_⟩) (by assumption) ?_
   rotate_left
   ·(intro w hSw; (try dsimp only at hSw); go_simp) <;> with_reducible rfl
   try simp only [Act.put, zT, z0, zS]
   refine takeH (i := 29) (oi := { dst := some 32, op := .fieldAddr 37 (.tmp 1) 2, type := _, pos := _, after := _, guard := some (28, true) }) (v := undef) rfl (Or.inr ⟨by rfl, rfl⟩) (by assumption) ?_
   try simp only [Act.put, zT, z0, zS]
   refine takeH (i := 30) (oi := { dst := some 33, op := .load 35 (.tmp 32), type := _, pos := _, after := _, guard := some (28, true) }) (v := undef) rfl (Or.inr ⟨by rfl, rfl⟩) (by assumption) ?_
   try simp only [Act.put, zT, z0, zS]
   refine takeH (i := 31) (oi := { dst := some 34, op := .call { callee := .value (.func 88), args := #[(.tmp 33), Operand.func 89], argTypes := #[35, 99] }, type := _, pos := _, after := _, guard := some (28, true) }) (v := undef) rfl (Or.inr ⟨by rfl, rfl⟩) (by assumption) ?_
   try simp only [Act.put, zT, z0, zS]
   refine takeH (i := 32) (oi := { dst := some 35, op := .unOp UnOp.not 4 (.tmp 34), type := _, pos := _, after := _, guard := some (28, true) }) (v := undef) rfl (Or.inr ⟨by rfl, rfl⟩) (by assumption) ?_
   try simp only [Act.put, zT, z0, zS]
   refine takeH (i := 33) (oi := { dst := some 36, op := .pick (.tmp 31) (.tmp 35) ((Operand.const (Value.bool false))), type := _, pos := _, after := _, guard := none }) (v := ?_) rfl (Or.inl ⟨by rfl, ?_⟩) (by assumption) ?_
   rotate_left
   ·(intro w hSw; (try dsimp only at hSw); go_simp) <;> with_reducible rfl
   try simp only [Act.put, zT, z0, zS]
   refine takeH (i := 34) (oi := { dst := some 2, op := .assign (.tmp 36), type := _, pos := _, after := _, guard := none }) (v := ?_) rfl (Or.inl ⟨by rfl, ?_⟩) (by assumption) ?_
   rotate_left
   ·(intro w hSw; (try dsimp only at hSw); go_simp) <;> with_reducible rfl
   try simp only [Act.put, zT, z0, zS]
   refine wpAnyH_done (by kernel_rfl) ?_ _
   go_wp2_with fail
   go_ret
   exact ⟨rfl, hB1.out.trans (B2.mono hB1.out.size)⟩
  exact AllReadyH.nil
 | true =>
  have g3 := Lib.hid (h3.out rfl)
  clear h3
  by_cases e2 : n2 = n1
  ·have hR : R = (!r3 && (n3 == n4) && !r5) := by rw [hr.out, e2]; simp
   have t1 : ((n2 : Int) == (n1 : Int)) = true := by rw [e2]; simp
   have t2 : (n2 == n1) = true := by rw [e2]; simp
   have hRh := Lib.hid hR
   have hs2 : n2 ≤ 140737488351232 := by omega
   clear hr hR e2
   cases r3 with
   | true =>
    have hR : R = false := by rw [hRh.out]; simp
    subst hR
    clear hRh g3 h4
    go_enter Tryd.func76, Tryd.ntmps76
    go_wp2_with fail
    rw [← hw1.out]
    refine wp_region_held_drew (S := (fun w' : World => w'.cell? ⟨w.heap.size, 0, none⟩ = some (.slice a1 n1 a2) ∧ w'.cell? ⟨w.heap.size, 1, none⟩ = some (.slice b1 n2 b2) ∧ w'.cell? ⟨w.heap.size, 2, none⟩ = some (.slice c1 n3 c2))) (by kernel_rfl) hS0.out (fun hHeld => ?_)
    refine takeH (i := 0) (oi := { dst := some 3, op := .fieldAddr 37 (.tmp 1) 0, type := _, pos := _, after := _, guard := none }) (v := ?_) rfl (Or.inl ⟨by rfl, ?_⟩) (by assumption) ?_
    rotate_left
    ·(intro w hSw; (try dsimp only at hSw); go_simp) <;> with_reducible rfl
    try simp only [Act.put, zT, z0, zS]
    refine takeH (i := 1) (oi := { dst := some 4, op := .load 24 (.tmp 3), type := _, pos := _, after := _, guard := none }) (v := ?_) rfl (Or.inl ⟨by rfl, ?_⟩) (by assumption) ?_
    rotate_left
    ·(intro w hSw; (try dsimp only at hSw); go_simp) <;> with_reducible rfl
    try simp only [Act.put, zT, z0, zS]
    refine wpAnyH_ready (rs := [2]) (by kernel_rfl) (by simp) ?_
    refine AllReadyH.cons (o := { dst := some 5, op := .call { callee := .value (.func 45), args := #[(.tmp 4)], argTypes := #[24] }, type := _, pos := _, after := _, guard := none }) rfl (fun K hK => ?_) ?_
    ·skip
     go_simp
     with_reducible refine (h1.out _ (Below.refl _ _).drew).mono ?_
     rintro e W2 ⟨rfl, d2⟩
     have B2 : Below w1.heap.size w1 W2 := (Below.refl _ w1).drew.trans d2
     clear d2
     go_wp2_with fail
     refine hK.out _ _ ?_ (fun hHeld => ?_)
     ·exact sK.out W2 B2
     clear hK K
     try simp only [Act.put, zT, z0, zS]
     refine takeH (i := 3) (oi := { dst := some 6, op := .move (.tmp 5), type := _, pos := _, after := _, guard := none }) (v := ?_) rfl (Or.inl ⟨by rfl, ?_⟩) (by assumption) ?_
     rotate_left
     ·(intro w hSw; (try dsimp only at hSw); go_simp) <;> with_reducible rfl
     try simp only [Act.put, zT, z0, zS]
     refine takeH (i := 4) (oi := { dst := some 7, op := .fieldAddr 37 (.tmp 1) 1, type := _, pos := _, after := _, guard := some (3, true) }) (v := ?_) rfl (Or.inl ⟨by rfl, ?_⟩) (by assumption) ?_
     rotate_left
     ·(intro w hSw; (try dsimp only at hSw); go_simp) <;> with_reducible rfl
     try simp only [Act.put, zT, z0, zS]
     refine takeH (i := 5) (oi := { dst := some 8, op := .load 35 (.tmp 7), type := _, pos := _, after := _, guard := some (3, true) }) (v := ?_) rfl (Or.inl ⟨by rfl, ?_⟩) (by assumption) ?_
     rotate_left
     ·(intro w hSw; (try dsimp only at hSw); go_simp) <;> with_reducible rfl
     try simp only [Act.put, zT, z0, zS]
     refine takeH (i := 6) (oi := { dst := some 9, op := .call { callee := .builtin .len, args := #[(.tmp 8)], argTypes := #[35] }, type := _, pos := _, after := _, guard := some (3, true) }) (v := ?_) rfl (Or.inl ⟨by rfl, ?_⟩) (by assumption) ?_
     rotate_left
     ·(intro w hSw; (try dsimp only at hSw); go_simp) <;> with_reducible rfl
     try simp only [Act.put, zT, z0, zS]
     refine takeH (i := 7) (oi := { dst := some 10, op := .fieldAddr 37 (.tmp 1) 0, type := _, pos := _, after := _, guard := some (3, true) }) (v := ?_) rfl (Or.inl ⟨by rfl, ?_⟩) (by assumption) ?_
     rotate_left
     ·(intro w hSw; (try dsimp only at hSw); go_simp) <;> with_reducible rfl
     try simp only [Act.put, zT, z0, zS]
     refine takeH (i := 8) (oi := { dst := some 11, op := .load 24 (.tmp 10), type := _, pos := _, after := _, guard := some (3, true) }) (v := ?_) rfl (Or.inl ⟨by rfl, ?_⟩) (by assumption) ?_
     rotate_left
     ·(intro w hSw; (try dsimp only at hSw); go_simp) <;> with_reducible rfl
     try simp only [Act.put, zT, z0, zS]
     refine takeH (i := 9) (oi := { dst := some 12, op := .call { callee := .builtin .len, args := #[(.tmp 11)], argTypes := #[24] }, type := _, pos := _, after := _, guard := some (3, true) }) (v := ?_) rfl (Or.inl ⟨by rfl, ?_⟩) (by assumption) ?_
     rotate_left
     ·(intro w hSw; (try dsimp only at hSw); go_simp) <;> with_reducible rfl
     try simp only [Act.put, zT, z0, zS]
     refine takeH (i := 10) (oi := { dst := some 13, op := .binOp BinOp.eql 3 (.tmp 9) (.tmp 12) 3, type := _, pos := _, after := _, guard := some (3, true) }) (v := ?_) rfl (Or.inl ⟨by rfl, ?_⟩) (by assumption) ?_
     rotate_left
     ·(intro w hSw; (try dsimp only at hSw); go_simp) <;> with_reducible rfl
     try simp only [Act.put, zT, z0, zS]
     refine takeH (i := 11) (oi := { dst := some 14, op := .pick (.tmp 6) (.tmp 13) ((Operand.const (Value.bool false))), type := _, pos := _, after := _, guard := none }) (v := ?_) rfl (Or.inl ⟨by rfl, ?_⟩) (by assumption) ?_
     rotate_left
     ·(intro w hSw; (try dsimp only at hSw); go_simp) <;> with_reducible rfl
     try simp only [Act.put, zT, z0, zS]
     refine takeH (i := 12) (oi := { dst := some 15, op := .move (.tmp 14), type := _, pos := _, after := _, guard := none }) (v := ?_) rfl (Or.inl ⟨by rfl, ?_⟩) (by assumption) ?_
     rotate_left
     ·(intro w hSw; (try dsimp only at hSw); go_simp) <;> with_reducible rfl
     try simp only [Act.put, zT, z0, zS]
     refine takeH (i := 13) (oi := { dst := some 16, op := .fieldAddr 37 (.tmp 1) 1, type := _, pos := _, after := _, guard := some (12, true) }) (v := ?_) rfl (Or.inl ⟨by rfl, ?_⟩) (by assumption) ?_
     rotate_left
     ·(intro w hSw; (try dsimp only at hSw); go_simp) <;> with_reducible rfl
     try simp only [Act.put, zT, z0, zS]
     refine takeH (i := 14) (oi := { dst := some 17, op := .load 35 (.tmp 16), type := _, pos := _, after := _, guard := some (12, true) }) (v := ?_) rfl (Or.inl ⟨by rfl, ?_⟩) (by assumption) ?_
     rotate_left
     ·(intro w hSw; (try dsimp only at hSw); go_simp) <;> with_reducible rfl
     try simp only [Act.put, zT, z0, zS]
     refine wpAnyH_ready (rs := [15]) (by kernel_rfl) (by simp) ?_
     refine AllReadyH.cons (o := { dst := some 18, op := .call { callee := .value (.func 88), args := #[(.tmp 17), Operand.func 67], argTypes := #[35, 99] }, type := _, pos := _, after := _, guard := some (12, true) }) rfl (fun K hK => ?_) ?_
     ·skip
      go_simp
      with_reducible refine (h2.out hs2 _ B2).mono ?_
      rintro e W3 ⟨rfl, d3⟩
      have B3 : Below w1.heap.size w1 W3 := B2.trans (d3.mono B2.size)
      clear d3
      go_wp2_with fail
      refine hK.out _ _ ?_ (fun hHeld => ?_)
      ·exact sK.out W3 B3
      clear hK K
      try simp only [Act.put, zT, z0, zS]
      refine takeH (i := 16) (oi := { dst := some 19, op := .unOp UnOp.not 4 (.tmp 18), type := _, pos := _, after := _, guard := some (12, true) }) (v := ?_) rfl (Or.inl ⟨by rfl, ?_⟩) (by assumption) ?_
      rotate_left
      ·(intro w hSw; (try dsimp only at hSw); go_simp) <;> with_reducible rfl
      try simp only [Act.put, zT, z0, zS]
      refine takeH (i := 17) (oi := { dst := some 20, op := .pick (.tmp 15) (.tmp 19) ((Operand.const (Value.bool false))), type := _, pos := _, after := _, guard := none }) (v := ?_) rfl (Or.inl ⟨by rfl, ?_⟩) (by assumption) ?_
      rotate_left
      ·(intro w hSw; (try dsimp only at hSw); go_simp) <;> with_reducible rfl
      try simp only [Act.put, zT, z0, zS]
      refine takeH (i := 18) (oi := { dst := some 21, op := .move (.tmp 20), type := _, pos := _, after := _, guard := none }) (v := ?_) rfl (Or.inl ⟨by rfl, ?_⟩) (by assumption) ?_
      rotate_left
      ·(intro w hSw; (try dsimp only at hSw); go_simp) <;> with_reducible rfl
      try simp only [Act.put, zT, z0, zS]
      refine takeH (i := 19) (oi := { dst := some 22, op := .fieldAddr 37 (.tmp 1) 2, type := _, pos := _, after := _, guard := some (18, true) }) (v := undef) rfl (Or.inr ⟨by rfl, rfl⟩) (by assumption) ?_
      try simp only [Act.put, zT, z0, zS]
      refine takeH (i := 20) (oi := { dst := some 23, op := .load 35 (.tmp 22), type := _, pos := _, after := _, guard := some (18, true) }) (v := undef) rfl (Or.inr ⟨by rfl, rfl⟩) (by assumption) ?_
      try simp only [Act.put, zT, z0, zS]
      refine takeH (i := 21) (oi := { dst := some 24, op := .call { callee := .builtin .len, args := #[(.tmp 23)], argTypes := #[35] }, type := _, pos := _, after := _, guard := some (18, true) }) (v := undef) rfl (Or.inr ⟨by rfl, rfl⟩) (by assumption) ?_
      try simp only [Act.put, zT, z0, zS]
      refine takeH (i := 22) (oi := { dst := some 25, op := .fieldAddr 37 (.tmp 1) 0, type := _, pos := _, after := _, guard := some (18, true) }) (v := undef) rfl (Or.inr ⟨by rfl, rfl⟩) (by assumption) ?_
      try simp only [Act.put, zT, z0, zS]
      refine takeH (i := 23) (oi := { dst := some 26, op := .load 24 (.tmp 25), type := _, pos := _, after := _, guard := some (18, true) }) (v := undef) rfl (Or.inr ⟨by rfl, rfl⟩) (by assumption) ?_
      try simp only [Act.put, zT, z0, zS]
      refine takeH (i := 24) (oi := { dst := some 27, op := .call { callee := .value (.func 48), args := #[(.tmp 26)], argTypes := #[24] }, type := _, pos := _, after := _, guard := some (18, true) }) (v := undef) rfl (Or.inr ⟨by rfl, rfl⟩) (by assumption) ?_
      try simp only [Act.put, zT, z0, zS]
      refine takeH (i := 25) (oi := { dst := some 28, op := .call { callee := .builtin .len, args := #[(.tmp 27)], argTypes := #[24] }, type := _, pos := _, after := _, guard := some (18, true) }) (v := undef) rfl (Or.inr ⟨by rfl, rfl⟩) (by assumption) ?_
      try simp only [Act.put, zT, z0, zS]
      refine takeH (i := 26) (oi := { dst := some 29, op := .binOp BinOp.eql 3 (.tmp 24) (.tmp 28) 3, type := _, pos := _, after := _, guard := some (18, true) }) (v := undef) rfl (Or.inr ⟨by rfl, rfl⟩) (by assumption) ?_
      try simp only [Act.put, zT, z0, zS]
      refine takeH (i := 27) (oi := { dst := some 30, op := .pick (.tmp 21) (.tmp 29) ((Operand.const (Value.bool false))), type := _, pos := _, after := _, guard := none }) (v := ?_) rfl (Or.inl ⟨by rfl, ?_⟩) (by assumption) ?_
      rotate_left
      ·(intro w hSw; (try dsimp only at hSw); go_simp) <;> with_reducible rfl
      try simp only [Act.put, zT, z0, zS]
      refine takeH (i := 28) (oi := { dst := some 31, op := .move (.tmp 30), type := _, pos := _, after := _, guard := none }) (v := ?_) rfl (Or.inl ⟨by rfl, ?_⟩) (by assumption) ?_
      rotate_left
      ·(intro w hSw; (try dsimp only at hSw); go_simp) <;> with_reducible rfl
      try simp only [Act.put, zT, z0, zS]
      refine takeH (i := 29) (oi := { dst := some 32, op := .fieldAddr 37 (.tmp 1) 2, type := _, pos := _, after := _, guard := some (28, true) }) (v := undef) rfl (Or.inr ⟨by rfl, rfl⟩) (by assumption) ?_
      try simp only [Act.put, zT, z0, zS]
      refine takeH (i := 30) (oi := { dst := some 33, op := .load 35 (.tmp 32), type := _, pos := _, after := _, guard := some (28, true) }) (v := undef) rfl (Or.inr ⟨by rfl, rfl⟩) (by assumption) ?_
      try simp only [Act.put, zT, z0, zS]
      refine takeH (i := 31) (oi := { dst := some 34, op := .call { callee := .value (.func 88), args := #[(.tmp 33), Operand.func 89], argTypes := #[35, 99] }, type := _, pos := _, after := _, guard := some (28, true) }) (v := undef) rfl (Or.inr ⟨by rfl, rfl⟩) (by assumption) ?_
      try simp only [Act.put, zT, z0, zS]
      refine takeH (i := 32) (oi := { dst := some 35, op := .unOp UnOp.not 4 (.tmp 34), type := _, pos := _, after := _, guard := some (28, true) }) (v := undef) rfl (Or.inr ⟨by rfl, rfl⟩) (by assumption) ?_
      try simp only [Act.put, zT, z0, zS]
      refine takeH (i := 33) (oi := { dst := some 36, op := .pick (.tmp 31) (.tmp 35) ((Operand.const (Value.bool false))), type := _, pos := _, after := _, guard := none }) (v := ?_) rfl (Or.inl ⟨by rfl, ?_⟩) (by assumption) ?_
      rotate_left
      ·(intro w hSw; (try dsimp only at hSw); go_simp) <;> with_reducible rfl
      try simp only [Act.put, zT, z0, zS]
      refine takeH (i := 34) (oi := { dst := some 2, op := .assign (.tmp 36), type := _, pos := _, after := _, guard := none }) (v := ?_) rfl (Or.inl ⟨by rfl, ?_⟩) (by assumption) ?_
      rotate_left
      ·(intro w hSw; (try dsimp only at hSw); go_simp) <;> with_reducible rfl
      try simp only [Act.put, zT, z0, zS]
      refine wpAnyH_done (by kernel_rfl) ?_ _
      go_wp2_with fail
      go_ret
      exact ⟨rfl, hB1.out.trans (B3.mono hB1.out.size)⟩
     exact AllReadyH.nil
    exact AllReadyH.nil
   | false =>
    by_cases e4 : n3 = n4
    ·have hR : R = !r5 := by rw [hRh.out, e4]; simp
     have t3 : ((n3 : Int) == (n4 : Int)) = true := by rw [e4]; simp
     have t4 : (n3 == n4) = true := by rw [e4]; simp
     subst hR
     have hs4 : n3 ≤ 140737488351232 := by omega
     clear hRh e4
     go_enter Tryd.func76, Tryd.ntmps76
     go_wp2_with fail
     rw [← hw1.out]
     refine wp_region_held_drew (S := (fun w' : World => w'.cell? ⟨w.heap.size, 0, none⟩ = some (.slice a1 n1 a2) ∧ w'.cell? ⟨w.heap.size, 1, none⟩ = some (.slice b1 n2 b2) ∧ w'.cell? ⟨w.heap.size, 2, none⟩ = some (.slice c1 n3 c2))) (by kernel_rfl) hS0.out (fun hHeld => ?_)
     refine takeH (i := 0) (oi := { dst := some 3, op := .fieldAddr 37 (.tmp 1) 0, type := _, pos := _, after := _, guard := none }) (v := ?_) rfl (Or.inl ⟨by rfl, ?_⟩) (by assumption) ?_
     rotate_left
     ·(intro w hSw; (try dsimp only at hSw); go_simp) <;> with_reducible rfl
     try simp only [Act.put, zT, z0, zS]
     refine takeH (i := 1) (oi := { dst := some 4, op := .load 24 (.tmp 3), type := _, pos := _, after := _, guard := none }) (v := ?_) rfl (Or.inl ⟨by rfl, ?_⟩) (by assumption) ?_
     rotate_left
     ·(intro w hSw; (try dsimp only at hSw); go_simp) <;> with_reducible rfl
     try simp only [Act.put, zT, z0, zS]
     refine wpAnyH_ready (rs := [2]) (by kernel_rfl) (by simp) ?_
     refine AllReadyH.cons (o := { dst := some 5, op := .call { callee := .value (.func 45), args := #[(.tmp 4)], argTypes := #[24] }, type := _, pos := _, after := _, guard := none }) rfl (fun K hK => ?_) ?_
     ·skip
      go_simp
      with_reducible refine (h1.out _ (Below.refl _ _).drew).mono ?_
      rintro e W2 ⟨rfl, d2⟩
      have B2 : Below w1.heap.size w1 W2 := (Below.refl _ w1).drew.trans d2
      clear d2
      go_wp2_with fail
      refine hK.out _ _ ?_ (fun hHeld => ?_)
      ·exact sK.out W2 B2
      clear hK K
      try simp only [Act.put, zT, z0, zS]
      refine takeH (i := 3) (oi := { dst := some 6, op := .move (.tmp 5), type := _, pos := _, after := _, guard := none }) (v := ?_) rfl (Or.inl ⟨by rfl, ?_⟩) (by assumption) ?_
      rotate_left
      ·(intro w hSw; (try dsimp only at hSw); go_simp) <;> with_reducible rfl
      try simp only [Act.put, zT, z0, zS]
      refine takeH (i := 4) (oi := { dst := some 7, op := .fieldAddr 37 (.tmp 1) 1, type := _, pos := _, after := _, guard := some (3, true) }) (v := ?_) rfl (Or.inl ⟨by rfl, ?_⟩) (by assumption) ?_
      rotate_left
      ·(intro w hSw; (try dsimp only at hSw); go_simp) <;> with_reducible rfl
      try simp only [Act.put, zT, z0, zS]
      refine takeH (i := 5) (oi := { dst := some 8, op := .load 35 (.tmp 7), type := _, pos := _, after := _, guard := some (3, true) }) (v := ?_) rfl (Or.inl ⟨by rfl, ?_⟩) (by assumption) ?_
      rotate_left
      ·(intro w hSw; (try dsimp only at hSw); go_simp) <;> with_reducible rfl
      try simp only [Act.put, zT, z0, zS]
      refine takeH (i := 6) (oi := { dst := some 9, op := .call { callee := .builtin .len, args := #[(.tmp 8)], argTypes := #[35] }, type := _, pos := _, after := _, guard := some (3, true) }) (v := ?_) rfl (Or.inl ⟨by rfl, ?_⟩) (by assumption) ?_
      rotate_left
      ·(intro w hSw; (try dsimp only at hSw); go_simp) <;> with_reducible rfl
      try simp only [Act.put, zT, z0, zS]
      refine takeH (i := 7) (oi := { dst := some 10, op := .fieldAddr 37 (.tmp 1) 0, type := _, pos := _, after := _, guard := some (3, true) }) (v := ?_) rfl (Or.inl ⟨by rfl, ?_⟩) (by assumption) ?_
      rotate_left
      ·(intro w hSw; (try dsimp only at hSw); go_simp) <;> with_reducible rfl
      try simp only [Act.put, zT, z0, zS]
      refine takeH (i := 8) (oi := { dst := some 11, op := .load 24 (.tmp 10), type := _, pos := _, after := _, guard := some (3, true) }) (v := ?_) rfl (Or.inl ⟨by rfl, ?_⟩) (by assumption) ?_
      rotate_left
      ·(intro w hSw; (try dsimp only at hSw); go_simp) <;> with_reducible rfl
      try simp only [Act.put, zT, z0, zS]
      refine takeH (i := 9) (oi := { dst := some 12, op := .call { callee := .builtin .len, args := #[(.tmp 11)], argTypes := #[24] }, type := _, pos := _, after := _, guard := some (3, true) }) (v := ?_) rfl (Or.inl ⟨by rfl, ?_⟩) (by assumption) ?_
      rotate_left
      ·(intro w hSw; (try dsimp only at hSw); go_simp) <;> with_reducible rfl
      try simp only [Act.put, zT, z0, zS]
      refine takeH (i := 10) (oi := { dst := some 13, op := .binOp BinOp.eql 3 (.tmp 9) (.tmp 12) 3, type := _, pos := _, after := _, guard := some (3, true) }) (v := ?_) rfl (Or.inl ⟨by rfl, ?_⟩) (by assumption) ?_
      rotate_left
      ·(intro w hSw; (try dsimp only at hSw); go_simp) <;> with_reducible rfl
      try simp only [Act.put, zT, z0, zS]
      refine takeH (i := 11) (oi := { dst := some 14, op := .pick (.tmp 6) (.tmp 13) ((Operand.const (Value.bool false))), type := _, pos := _, after := _, guard := none }) (v := ?_) rfl (Or.inl ⟨by rfl, ?_⟩) (by assumption) ?_
      rotate_left
      ·(intro w hSw; (try dsimp only at hSw); go_simp) <;> with_reducible rfl
      try simp only [Act.put, zT, z0, zS]
      refine takeH (i := 12) (oi := { dst := some 15, op := .move (.tmp 14), type := _, pos := _, after := _, guard := none }) (v := ?_) rfl (Or.inl ⟨by rfl, ?_⟩) (by assumption) ?_
      rotate_left
      ·(intro w hSw; (try dsimp only at hSw); go_simp) <;> with_reducible rfl
      try simp only [Act.put, zT, z0, zS]
      refine takeH (i := 13) (oi := { dst := some 16, op := .fieldAddr 37 (.tmp 1) 1, type := _, pos := _, after := _, guard := some (12, true) }) (v := ?_) rfl (Or.inl ⟨by rfl, ?_⟩) (by assumption) ?_
      rotate_left
      ·(intro w hSw; (try dsimp only at hSw); go_simp) <;> with_reducible rfl
      try simp only [Act.put, zT, z0, zS]
      refine takeH (i := 14) (oi := { dst := some 17, op := .load 35 (.tmp 16), type := _, pos := _, after := _, guard := some (12, true) }) (v := ?_) rfl (Or.inl ⟨by rfl, ?_⟩) (by assumption) ?_
      rotate_left
      ·(intro w hSw; (try dsimp only at hSw); go_simp) <;> with_reducible rfl
      try simp only [Act.put, zT, z0, zS]
      refine wpAnyH_ready (rs := [15]) (by kernel_rfl) (by simp) ?_
      refine AllReadyH.cons (o := { dst := some 18, op := .call { callee := .value (.func 88), args := #[(.tmp 17), Operand.func 67], argTypes := #[35, 99] }, type := _, pos := _, after := _, guard := some (12, true) }) rfl (fun K hK => ?_) ?_
      ·skip
       go_simp
       with_reducible refine (h2.out hs2 _ B2).mono ?_
       rintro e W3 ⟨rfl, d3⟩
       have B3 : Below w1.heap.size w1 W3 := B2.trans (d3.mono B2.size)
       clear d3
       go_wp2_with fail
       refine hK.out _ _ ?_ (fun hHeld => ?_)
       ·exact sK.out W3 B3
       clear hK K
       try simp only [Act.put, zT, z0, zS]
       refine takeH (i := 16) (oi := { dst := some 19, op := .unOp UnOp.not 4 (.tmp 18), type := _, pos := _, after := _, guard := some (12, true) }) (v := ?_) rfl (Or.inl ⟨by rfl, ?_⟩) (by assumption) ?_
       rotate_left
       ·(intro w hSw; (try dsimp only at hSw); go_simp) <;> with_reducible rfl
       try simp only [Act.put, zT, z0, zS]
       refine takeH (i := 17) (oi := { dst := some 20, op := .pick (.tmp 15) (.tmp 19) ((Operand.const (Value.bool false))), type := _, pos := _, after := _, guard := none }) (v := ?_) rfl (Or.inl ⟨by rfl, ?_⟩) (by assumption) ?_
       rotate_left
       ·(intro w hSw; (try dsimp only at hSw); go_simp) <;> with_reducible rfl
       try simp only [Act.put, zT, z0, zS]
       refine takeH (i := 18) (oi := { dst := some 21, op := .move (.tmp 20), type := _, pos := _, after := _, guard := none }) (v := ?_) rfl (Or.inl ⟨by rfl, ?_⟩) (by assumption) ?_
       rotate_left
       ·(intro w hSw; (try dsimp only at hSw); go_simp) <;> with_reducible rfl
       try simp only [Act.put, zT, z0, zS]
       refine takeH (i := 19) (oi := { dst := some 22, op := .fieldAddr 37 (.tmp 1) 2, type := _, pos := _, after := _, guard := some (18, true) }) (v := ?_) rfl (Or.inl ⟨by rfl, ?_⟩) (by assumption) ?_
       rotate_left
       ·(intro w hSw; (try dsimp only at hSw); go_simp) <;> with_reducible rfl
       try simp only [Act.put, zT, z0, zS]
       refine takeH (i := 20) (oi := { dst := some 23, op := .load 35 (.tmp 22), type := _, pos := _, after := _, guard := some (18, true) }) (v := ?_) rfl (Or.inl ⟨by rfl, ?_⟩) (by assumption) ?_
       rotate_left
       ·(intro w hSw; (try dsimp only at hSw); go_simp) <;> with_reducible rfl
       try simp only [Act.put, zT, z0, zS]
       refine takeH (i := 21) (oi := { dst := some 24, op := .call { callee := .builtin .len, args := #[(.tmp 23)], argTypes := #[35] }, type := _, pos := _, after := _, guard := some (18, true) }) (v := ?_) rfl (Or.inl ⟨by rfl, ?_⟩) (by assumption) ?_
       rotate_left
       ·(intro w hSw; (try dsimp only at hSw); go_simp) <;> with_reducible rfl
       try simp only [Act.put, zT, z0, zS]
       refine takeH (i := 22) (oi := { dst := some 25, op := .fieldAddr 37 (.tmp 1) 0, type := _, pos := _, after := _, guard := some (18, true) }) (v := ?_) rfl (Or.inl ⟨by rfl, ?_⟩) (by assumption) ?_
       rotate_left
       ·(intro w hSw; (try dsimp only at hSw); go_simp) <;> with_reducible rfl
       try simp only [Act.put, zT, z0, zS]
       refine takeH (i := 23) (oi := { dst := some 26, op := .load 24 (.tmp 25), type := _, pos := _, after := _, guard := some (18, true) }) (v := ?_) rfl (Or.inl ⟨by rfl, ?_⟩) (by assumption) ?_
       rotate_left
       ·(intro w hSw; (try dsimp only at hSw); go_simp) <;> with_reducible rfl
       try simp only [Act.put, zT, z0, zS]
       refine wpAnyH_ready (rs := [24]) (by kernel_rfl) (by simp) ?_
       refine AllReadyH.cons (o := { dst := some 27, op := .call { callee := .value (.func 48), args := #[(.tmp 26)], argTypes := #[24] }, type := _, pos := _, after := _, guard := some (18, true) }) rfl (fun K hK => ?_) ?_
       ·skip
        go_simp
        with_reducible refine (g3.out _ B3).mono ?_
        rintro e W4 ⟨xa, xc, rfl, d4⟩
        have B4 : Below w1.heap.size w1 W4 := B3.trans (d4.mono B3.size)
        clear d4
        go_wp2_with fail
        refine hK.out _ _ ?_ (fun hHeld => ?_)
        ·exact sK.out W4 B4
        clear hK K
        try simp only [Act.put, zT, z0, zS]
        refine takeH (i := 25) (oi := { dst := some 28, op := .call { callee := .builtin .len, args := #[(.tmp 27)], argTypes := #[24] }, type := _, pos := _, after := _, guard := some (18, true) }) (v := ?_) rfl (Or.inl ⟨by rfl, ?_⟩) (by assumption) ?_
        rotate_left
        ·(intro w hSw; (try dsimp only at hSw); go_simp) <;> with_reducible rfl
        try simp only [Act.put, zT, z0, zS]
        refine takeH (i := 26) (oi := { dst := some 29, op := .binOp BinOp.eql 3 (.tmp 24) (.tmp 28) 3, type := _, pos := _, after := _, guard := some (18, true) }) (v := ?_) rfl (Or.inl ⟨by rfl, ?_⟩) (by assumption) ?_
        rotate_left
        ·(intro w hSw; (try dsimp only at hSw); go_simp) <;> with_reducible rfl
        try simp only [Act.put, zT, z0, zS]
        refine takeH (i := 27) (oi := { dst := some 30, op := .pick (.tmp 21) (.tmp 29) ((Operand.const (Value.bool false))), type := _, pos := _, after := _, guard := none }) (v := ?_) rfl (Or.inl ⟨by rfl, ?_⟩) (by assumption) ?_
        rotate_left
        ·(intro w hSw; (try dsimp only at hSw); go_simp) <;> with_reducible rfl
        try simp only [Act.put, zT, z0, zS]
        refine takeH (i := 28) (oi := { dst := some 31, op := .move (.tmp 30), type := _, pos := _, after := _, guard := none }) (v := ?_) rfl (Or.inl ⟨by rfl, ?_⟩) (by assumption) ?_
        rotate_left
        ·(intro w hSw; (try dsimp only at hSw); go_simp) <;> with_reducible rfl
        try simp only [Act.put, zT, z0, zS]
        refine takeH (i := 29) (oi := { dst := some 32, op := .fieldAddr 37 (.tmp 1) 2, type := _, pos := _, after := _, guard := some (28, true) }) (v := ?_) rfl (Or.inl ⟨by rfl, ?_⟩) (by assumption) ?_
        rotate_left
        ·(intro w hSw; (try dsimp only at hSw); go_simp) <;> with_reducible rfl
        try simp only [Act.put, zT, z0, zS]
        refine takeH (i := 30) (oi := { dst := some 33, op := .load 35 (.tmp 32), type := _, pos := _, after := _, guard := some (28, true) }) (v := ?_) rfl (Or.inl ⟨by rfl, ?_⟩) (by assumption) ?_
        rotate_left
        ·(intro w hSw; (try dsimp only at hSw); go_simp) <;> with_reducible rfl
        try simp only [Act.put, zT, z0, zS]
        refine wpAnyH_ready (rs := [31]) (by kernel_rfl) (by simp) ?_
        refine AllReadyH.cons (o := { dst := some 34, op := .call { callee := .value (.func 88), args := #[(.tmp 33), Operand.func 89], argTypes := #[35, 99] }, type := _, pos := _, after := _, guard := some (28, true) }) rfl (fun K hK => ?_) ?_
        ·skip
         go_simp
         with_reducible refine (h4.out hs4 _ B4).mono ?_
         rintro e W5 ⟨rfl, d5⟩
         have B5 : Below w1.heap.size w1 W5 := B4.trans (d5.mono B4.size)
         clear d5
         go_wp2_with fail
         refine hK.out _ _ ?_ (fun hHeld => ?_)
         ·exact sK.out W5 B5
         clear hK K
         try simp only [Act.put, zT, z0, zS]
         refine takeH (i := 32) (oi := { dst := some 35, op := .unOp UnOp.not 4 (.tmp 34), type := _, pos := _, after := _, guard := some (28, true) }) (v := ?_) rfl (Or.inl ⟨by rfl, ?_⟩) (by assumption) ?_
         rotate_left
         ·(intro w hSw; (try dsimp only at hSw); go_simp) <;> with_reducible rfl
         try simp only [Act.put, zT, z0, zS]
         refine takeH (i := 33) (oi := { dst := some 36, op := .pick (.tmp 31) (.tmp 35) ((Operand.const (Value.bool false))), type := _, pos := _, after := _, guard := none }) (v := ?_) rfl (Or.inl ⟨by rfl, ?_⟩) (by assumption) ?_
         rotate_left
         ·(intro w hSw; (try dsimp only at hSw); go_simp) <;> with_reducible rfl
         try simp only [Act.put, zT, z0, zS]
         refine takeH (i := 34) (oi := { dst := some 2, op := .assign (.tmp 36), type := _, pos := _, after := _, guard := none }) (v := ?_) rfl (Or.inl ⟨by rfl, ?_⟩) (by assumption) ?_
         rotate_left
         ·(intro w hSw; (try dsimp only at hSw); go_simp) <;> with_reducible rfl
         try simp only [Act.put, zT, z0, zS]
         refine wpAnyH_done (by kernel_rfl) ?_ _
         go_wp2_with fail
         go_ret
         exact ⟨rfl, hB1.out.trans (B5.mono hB1.out.size)⟩
        exact AllReadyH.nil
       exact AllReadyH.nil
      exact AllReadyH.nil
     exact AllReadyH.nil
    ·have hR : R = false := by rw [hRh.out]; simp [e4]
     have t3 : ((n3 : Int) == (n4 : Int)) = false := by rw [beq_eq_false_iff_ne]; omega
     have t4 : (n3 == n4) = false := by rw [beq_eq_false_iff_ne]; omega
     subst hR
     clear hRh e4 h4
     go_enter Tryd.func76, Tryd.ntmps76
     go_wp2_with fail
     rw [← hw1.out]
     refine wp_region_held_drew (S := (fun w' : World => w'.cell? ⟨w.heap.size, 0, none⟩ = some (.slice a1 n1 a2) ∧ w'.cell? ⟨w.heap.size, 1, none⟩ = some (.slice b1 n2 b2) ∧ w'.cell? ⟨w.heap.size, 2, none⟩ = some (.slice c1 n3 c2))) (by kernel_rfl) hS0.out (fun hHeld => ?_)
     refine takeH (i := 0) (oi := { dst := some 3, op := .fieldAddr 37 (.tmp 1) 0, type := _, pos := _, after := _, guard := none }) (v := ?_) rfl (Or.inl ⟨by rfl, ?_⟩) (by assumption) ?_
     rotate_left
     ·(intro w hSw; (try dsimp only at hSw); go_simp) <;> with_reducible rfl
     try simp only [Act.put, zT, z0, zS]
     refine takeH (i := 1) (oi := { dst := some 4, op := .load 24 (.tmp 3), type := _, pos := _, after := _, guard := none }) (v := ?_) rfl (Or.inl ⟨by rfl, ?_⟩) (by assumption) ?_
     rotate_left
     ·(intro w hSw; (try dsimp only at hSw); go_simp) <;> with_reducible rfl
     try simp only [Act.put, zT, z0, zS]
     refine wpAnyH_ready (rs := [2]) (by kernel_rfl) (by simp) ?_
     refine AllReadyH.cons (o := { dst := some 5, op := .call { callee := .value (.func 45), args := #[(.tmp 4)], argTypes := #[24] }, type := _, pos := _, after := _, guard := none }) rfl (fun K hK => ?_) ?_
     ·skip
      go_simp
      with_reducible refine (h1.out _ (Below.refl _ _).drew).mono ?_
      rintro e W2 ⟨rfl, d2⟩
      have B2 : Below w1.heap.size w1 W2 := (Below.refl _ w1).drew.trans d2
      clear d2
      go_wp2_with fail
      refine hK.out _ _ ?_ (fun hHeld => ?_)
      ·exact sK.out W2 B2
      clear hK K
      try simp only [Act.put, zT, z0, zS]
      refine takeH (i := 3) (oi := { dst := some 6, op := .move (.tmp 5), type := _, pos := _, after := _, guard := none }) (v := ?_) rfl (Or.inl ⟨by rfl, ?_⟩) (by assumption) ?_
      rotate_left
      ·(intro w hSw; (try dsimp only at hSw); go_simp) <;> with_reducible rfl
      try simp only [Act.put, zT, z0, zS]
      refine takeH (i := 4) (oi := { dst := some 7, op := .fieldAddr 37 (.tmp 1) 1, type := _, pos := _, after := _, guard := some (3, true) }) (v := ?_) rfl (Or.inl ⟨by rfl, ?_⟩) (by assumption) ?_
      rotate_left
      ·(intro w hSw; (try dsimp only at hSw); go_simp) <;> with_reducible rfl
      try simp only [Act.put, zT, z0, zS]
      refine takeH (i := 5) (oi := { dst := some 8, op := .load 35 (.tmp 7), type := _, pos := _, after := _, guard := some (3, true) }) (v := ?_) rfl (Or.inl ⟨by rfl, ?_⟩) (by assumption) ?_
      rotate_left
      ·(intro w hSw; (try dsimp only at hSw); go_simp) <;> with_reducible rfl
      try simp only [Act.put, zT, z0, zS]
      refine takeH (i := 6) (oi := { dst := some 9, op := .call { callee := .builtin .len, args := #[(.tmp 8)], argTypes := #[35] }, type := _, pos := _, after := _, guard := some (3, true) }) (v := ?_) rfl (Or.inl ⟨by rfl, ?_⟩) (by assumption) ?_
      rotate_left
      ·(intro w hSw; (try dsimp only at hSw); go_simp) <;> with_reducible rfl
      try simp only [Act.put, zT, z0, zS]
      refine takeH (i := 7) (oi := { dst := some 10, op := .fieldAddr 37 (.tmp 1) 0, type := _, pos := _, after := _, guard := some (3, true) }) (v := ?_) rfl (Or.inl ⟨by rfl, ?_⟩) (by assumption) ?_
      rotate_left
      ·(intro w hSw; (try dsimp only at hSw); go_simp) <;> with_reducible rfl
      try simp only [Act.put, zT, z0, zS]
      refine takeH (i := 8) (oi := { dst := some 11, op := .load 24 (.tmp 10), type := _, pos := _, after := _, guard := some (3, true) }) (v := ?_) rfl (Or.inl ⟨by rfl, ?_⟩) (by assumption) ?_
      rotate_left
      ·(intro w hSw; (try dsimp only at hSw); go_simp) <;> with_reducible rfl
      try simp only [Act.put, zT, z0, zS]
      refine takeH (i := 9) (oi := { dst := some 12, op := .call { callee := .builtin .len, args := #[(.tmp 11)], argTypes := #[24] }, type := _, pos := _, after := _, guard := some (3, true) }) (v := ?_) rfl (Or.inl ⟨by rfl, ?_⟩) (by assumption) ?_
      rotate_left
      ·(intro w hSw; (try dsimp only at hSw); go_simp) <;> with_reducible rfl
      try simp only [Act.put, zT, z0, zS]
      refine takeH (i := 10) (oi := { dst := some 13, op := .binOp BinOp.eql 3 (.tmp 9) (.tmp 12) 3, type := _, pos := _, after := _, guard := some (3, true) }) (v := ?_) rfl (Or.inl ⟨by rfl, ?_⟩) (by assumption) ?_
      rotate_left
      ·(intro w hSw; (try dsimp only at hSw); go_simp) <;> with_reducible rfl
      try simp only [Act.put, zT, z0, zS]
      refine takeH (i := 11) (oi := { dst := some 14, op := .pick (.tmp 6) (.tmp 13) ((Operand.const (Value.bool false))), type := _, pos := _, after := _, guard := none }) (v := ?_) rfl (Or.inl ⟨by rfl, ?_⟩) (by assumption) ?_
      rotate_left
      ·(intro w hSw; (try dsimp only at hSw); go_simp) <;> with_reducible rfl
      try simp only [Act.put, zT, z0, zS]
      refine takeH (i := 12) (oi := { dst := some 15, op := .move (.tmp 14), type := _, pos := _, after := _, guard := none }) (v := ?_) rfl (Or.inl ⟨by rfl, ?_⟩) (by assumption) ?_
      rotate_left
      ·(intro w hSw; (try dsimp only at hSw); go_simp) <;> with_reducible rfl
      try simp only [Act.put, zT, z0, zS]
      refine takeH (i := 13) (oi := { dst := some 16, op := .fieldAddr 37 (.tmp 1) 1, type := _, pos := _, after := _, guard := some (12, true) }) (v := ?_) rfl (Or.inl ⟨by rfl, ?_⟩) (by assumption) ?_
      rotate_left
      ·(intro w hSw; (try dsimp only at hSw); go_simp) <;> with_reducible rfl
      try simp only [Act.put, zT, z0, zS]
      refine takeH (i := 14) (oi := { dst := some 17, op := .load 35 (.tmp 16), type := _, pos := _, after := _, guard := some (12, true) }) (v := ?_) rfl (Or.inl ⟨by rfl, ?_⟩) (by assumption) ?_
      rotate_left
      ·(intro w hSw; (try dsimp only at hSw); go_simp) <;> with_reducible rfl
      try simp only [Act.put, zT, z0, zS]
      refine wpAnyH_ready (rs := [15]) (by kernel_rfl) (by simp) ?_
      refine AllReadyH.cons (o := { dst := some 18, op := .call { callee := .value (.func 88), args := #[(.tmp 17), Operand.func 67], argTypes := #[35, 99] }, type := _, pos := _, after := _, guard := some (12, true) }) rfl (fun K hK => ?_) ?_
      ·skip
       go_simp
       with_reducible refine (h2.out hs2 _ B2).mono ?_
       rintro e W3 ⟨rfl, d3⟩
       have B3 : Below w1.heap.size w1 W3 := B2.trans (d3.mono B2.size)
       clear d3
       go_wp2_with fail
       refine hK.out _ _ ?_ (fun hHeld => ?_)
       ·exact sK.out W3 B3
       clear hK K
       try simp only [Act.put, zT, z0, zS]
       refine takeH (i := 16) (oi := { dst := some 19, op := .unOp UnOp.not 4 (.tmp 18), type := _, pos := _, after := _, guard := some (12, true) }) (v := ?_) rfl (Or.inl ⟨by rfl, ?_⟩) (by assumption) ?_
       rotate_left
       ·(intro w hSw; (try dsimp only at hSw); go_simp) <;> with_reducible rfl
       try simp only [Act.put, zT, z0, zS]
       refine takeH (i := 17) (oi := { dst := some 20, op := .pick (.tmp 15) (.tmp 19) ((Operand.const (Value.bool false))), type := _, pos := _, after := _, guard := none }) (v := ?_) rfl (Or.inl ⟨by rfl, ?_⟩) (by assumption) ?_
       rotate_left
       ·(intro w hSw; (try dsimp only at hSw); go_simp) <;> with_reducible rfl
       try simp only [Act.put, zT, z0, zS]
       refine takeH (i := 18) (oi := { dst := some 21, op := .move (.tmp 20), type := _, pos := _, after := _, guard := none }) (v := ?_) rfl (Or.inl ⟨by rfl, ?_⟩) (by assumption) ?_
       rotate_left
       ·(intro w hSw; (try dsimp only at hSw); go_simp) <;> with_reducible rfl
       try simp only [Act.put, zT, z0, zS]
       refine takeH (i := 19) (oi := { dst := some 22, op := .fieldAddr 37 (.tmp 1) 2, type := _, pos := _, after := _, guard := some (18, true) }) (v := ?_) rfl (Or.inl ⟨by rfl, ?_⟩) (by assumption) ?_
       rotate_left
       ·(intro w hSw; (try dsimp only at hSw); go_simp) <;> with_reducible rfl
       try simp only [Act.put, zT, z0, zS]
       refine takeH (i := 20) (oi := { dst := some 23, op := .load 35 (.tmp 22), type := _, pos := _, after := _, guard := some (18, true) }) (v := ?_) rfl (Or.inl ⟨by rfl, ?_⟩) (by assumption) ?_
       rotate_left
       ·(intro w hSw; (try dsimp only at hSw); go_simp) <;> with_reducible rfl
       try simp only [Act.put, zT, z0, zS]
       refine takeH (i := 21) (oi := { dst := some 24, op := .call { callee := .builtin .len, args := #[(.tmp 23)], argTypes := #[35] }, type := _, pos := _, after := _, guard := some (18, true) }) (v := ?_) rfl (Or.inl ⟨by rfl, ?_⟩) (by assumption) ?_
       rotate_left
       ·(intro w hSw; (try dsimp only at hSw); go_simp) <;> with_reducible rfl
       try simp only [Act.put, zT, z0, zS]
       refine takeH (i := 22) (oi := { dst := some 25, op := .fieldAddr 37 (.tmp 1) 0, type := _, pos := _, after := _, guard := some (18, true) }) (v := ?_) rfl (Or.inl ⟨by rfl, ?_⟩) (by assumption) ?_
       rotate_left
       ·(intro w hSw; (try dsimp only at hSw); go_simp) <;> with_reducible rfl
       try simp only [Act.put, zT, z0, zS]
       refine takeH (i := 23) (oi := { dst := some 26, op := .load 24 (.tmp 25), type := _, pos := _, after := _, guard := some (18, true) }) (v := ?_) rfl (Or.inl ⟨by rfl, ?_⟩) (by assumption) ?_
       rotate_left
       ·(intro w hSw; (try dsimp only at hSw); go_simp) <;> with_reducible rfl
       try simp only [Act.put, zT, z0, zS]
       refine wpAnyH_ready (rs := [24]) (by kernel_rfl) (by simp) ?_
       refine AllReadyH.cons (o := { dst := some 27, op := .call { callee := .value (.func 48), args := #[(.tmp 26)], argTypes := #[24] }, type := _, pos := _, after := _, guard := some (18, true) }) rfl (fun K hK => ?_) ?_
       ·skip
        go_simp
        with_reducible refine (g3.out _ B3).mono ?_
        rintro e W4 ⟨xa, xc, rfl, d4⟩
        have B4 : Below w1.heap.size w1 W4 := B3.trans (d4.mono B3.size)
        clear d4
        go_wp2_with fail
        refine hK.out _ _ ?_ (fun hHeld => ?_)
        ·exact sK.out W4 B4
        clear hK K
        try simp only [Act.put, zT, z0, zS]
        refine takeH (i := 25) (oi := { dst := some 28, op := .call { callee := .builtin .len, args := #[(.tmp 27)], argTypes := #[24] }, type := _, pos := _, after := _, guard := some (18, true) }) (v := ?_) rfl (Or.inl ⟨by rfl, ?_⟩) (by assumption) ?_
        rotate_left
        ·(intro w hSw; (try dsimp only at hSw); go_simp) <;> with_reducible rfl
        try simp only [Act.put, zT, z0, zS]
        refine takeH (i := 26) (oi := { dst := some 29, op := .binOp BinOp.eql 3 (.tmp 24) (.tmp 28) 3, type := _, pos := _, after := _, guard := some (18, true) }) (v := ?_) rfl (Or.inl ⟨by rfl, ?_⟩) (by assumption) ?_
        rotate_left
        ·(intro w hSw; (try dsimp only at hSw); go_simp) <;> with_reducible rfl
        try simp only [Act.put, zT, z0, zS]
        refine takeH (i := 27) (oi := { dst := some 30, op := .pick (.tmp 21) (.tmp 29) ((Operand.const (Value.bool false))), type := _, pos := _, after := _, guard := none }) (v := ?_) rfl (Or.inl ⟨by rfl, ?_⟩) (by assumption) ?_
        rotate_left
        ·(intro w hSw; (try dsimp only at hSw); go_simp) <;> with_reducible rfl
        try simp only [Act.put, zT, z0, zS]
        refine takeH (i := 28) (oi := { dst := some 31, op := .move (.tmp 30), type := _, pos := _, after := _, guard := none }) (v := ?_) rfl (Or.inl ⟨by rfl, ?_⟩) (by assumption) ?_
        rotate_left
        ·(intro w hSw; (try dsimp only at hSw); go_simp) <;> with_reducible rfl
        try simp only [Act.put, zT, z0, zS]
        refine takeH (i := 29) (oi := { dst := some 32, op := .fieldAddr 37 (.tmp 1) 2, type := _, pos := _, after := _, guard := some (28, true) }) (v := undef) rfl (Or.inr ⟨by rfl, rfl⟩) (by assumption) ?_
        try simp only [Act.put, zT, z0, zS]
        refine takeH (i := 30) (oi := { dst := some 33, op := .load 35 (.tmp 32), type := _, pos := _, after := _, guard := some (28, true) }) (v := undef) rfl (Or.inr ⟨by rfl, rfl⟩) (by assumption) ?_
        try simp only [Act.put, zT, z0, zS]
        refine takeH (i := 31) (oi := { dst := some 34, op := .call { callee := .value (.func 88), args := #[(.tmp 33), Operand.func 89], argTypes := #[35, 99] }, type := _, pos := _, after := _, guard := some (28, true) }) (v := undef) rfl (Or.inr ⟨by rfl, rfl⟩) (by assumption) ?_
        try simp only [Act.put, zT, z0, zS]
        refine takeH (i := 32) (oi := { dst := some 35, op := .unOp UnOp.not 4 (.tmp 34), type := _, pos := _, after := _, guard := some (28, true) }) (v := undef) rfl (Or.inr ⟨by rfl, rfl⟩) (by assumption) ?_
        try simp only [Act.put, zT, z0, zS]
        refine takeH (i := 33) (oi := { dst := some 36, op := .pick (.tmp 31) (.tmp 35) ((Operand.const (Value.bool false))), type := _, pos := _, after := _, guard := none }) (v := ?_) rfl (Or.inl ⟨by rfl, ?_⟩) (by assumption) ?_
        rotate_left
        ·(intro w hSw; (try dsimp only at hSw); go_simp) <;> with_reducible rfl
        try simp only [Act.put, zT, z0, zS]
        refine takeH (i := 34) (oi := { dst := some 2, op := .assign (.tmp 36), type := _, pos := _, after := _, guard := none }) (v := ?_) rfl (Or.inl ⟨by rfl, ?_⟩) (by assumption) ?_
        rotate_left
        ·(intro w hSw; (try dsimp only at hSw); go_simp) <;> with_reducible rfl
        try simp only [Act.put, zT, z0, zS]
        refine wpAnyH_done (by kernel_rfl) ?_ _
        go_wp2_with fail
        go_ret
        exact ⟨rfl, hB1.out.trans (B4.mono hB1.out.size)⟩
       exact AllReadyH.nil
      exact AllReadyH.nil
     exact AllReadyH.nil
  ·have hR : R = false := by rw [hr.out]; simp [e2]
   have t1 : ((n2 : Int) == (n1 : Int)) = false := by rw [beq_eq_false_iff_ne]; omega
   have t2 : (n2 == n1) = false := by rw [beq_eq_false_iff_ne]; omega
   subst hR
   clear hr e2 h2 g3 h4
   go_enter Tryd.func76, Tryd.ntmps76
   go_wp2_with fail
   rw [← hw1.out]
   refine wp_region_held_drew (S := (fun w' : World => w'.cell? ⟨w.heap.size, 0, none⟩ = some (.slice a1 n1 a2) ∧ w'.cell? ⟨w.heap.size, 1, none⟩ = some (.slice b1 n2 b2) ∧ w'.cell? ⟨w.heap.size, 2, none⟩ = some (.slice c1 n3 c2))) (by kernel_rfl) hS0.out (fun hHeld => ?_)
   refine takeH (i := 0) (oi := { dst := some 3, op := .fieldAddr 37 (.tmp 1) 0, type := _, pos := _, after := _, guard := none }) (v := ?_) rfl (Or.inl ⟨by rfl, ?_⟩) (by assumption) ?_
   rotate_left
   ·(intro w hSw; (try dsimp only at hSw); go_simp) <;> with_reducible rfl
   try simp only [Act.put, zT, z0, zS]
   refine takeH (i := 1) (oi := { dst := some 4, op := .load 24 (.tmp 3), type := _, pos := _, after := _, guard := none }) (v := ?_) rfl (Or.inl ⟨by rfl, ?_⟩) (by assumption) ?_
   rotate_left
   ·(intro w hSw; (try dsimp only at hSw); go_simp) <;> with_reducible rfl
   try simp only [Act.put, zT, z0, zS]
   refine wpAnyH_ready (rs := [2]) (by kernel_rfl) (by simp) ?_
   refine AllReadyH.cons (o := { dst := some 5, op := .call { callee := .value (.func 45), args := #[(.tmp 4)], argTypes := #[24] }, type := _, pos := _, after := _, guard := none }) rfl (fun K hK => ?_) ?_
   ·skip
    go_simp
    with_reducible refine (h1.out _ (Below.refl _ _).drew).mono ?_
    rintro e W2 ⟨rfl, d2⟩
    have B2 : Below w1.heap.size w1 W2 := (Below.refl _ w1).drew.trans d2
    clear d2
    go_wp2_with fail
    refine hK.out _ _ ?_ (fun hHeld => ?_)
    ·exact sK.out W2 B2
    clear hK K
    try simp only [Act.put, zT, z0, zS]
    refine takeH (i := 3) (oi := { dst := some 6, op := .move (.tmp 5), type := _, pos := _, after := _, guard := none }) (v := ?_) rfl (Or.inl ⟨by rfl, ?_⟩) (by assumption) ?_
    rotate_left
    ·(intro w hSw; (try dsimp only at hSw); go_simp) <;> with_reducible rfl
    try simp only [Act.put, zT, z0, zS]
    refine takeH (i := 4) (oi := { dst := some 7, op := .fieldAddr 37 (.tmp 1) 1, type := _, pos := _, after := _, guard := some (3, true) }) (v := ?_) rfl (Or.inl ⟨by rfl, ?_⟩) (by assumption) ?_
    rotate_left
    ·(intro w hSw; (try dsimp only at hSw); go_simp) <;> with_reducible rfl
    try simp only [Act.put, zT, z0, zS]
    refine takeH (i := 5) (oi := { dst := some 8, op := .load 35 (.tmp 7), type := _, pos := _, after := _, guard := some (3, true) }) (v := ?_) rfl (Or.inl ⟨by rfl, ?_⟩) (by assumption) ?_
    rotate_left
    ·(intro w hSw; (try dsimp only at hSw); go_simp) <;> with_reducible rfl
    try simp only [Act.put, zT, z0, zS]
    refine takeH (i := 6) (oi := { dst := some 9, op := .call { callee := .builtin .len, args := #[(.tmp 8)], argTypes := #[35] }, type := _, pos := _, after := _, guard := some (3, true) }) (v := ?_) rfl (Or.inl ⟨by rfl, ?_⟩) (by assumption) ?_
    rotate_left
    ·(intro w hSw; (try dsimp only at hSw); go_simp) <;> with_reducible rfl
    try simp only [Act.put, zT, z0, zS]
    refine takeH (i := 7) (oi := { dst := some 10, op := .fieldAddr 37 (.tmp 1) 0, type := _, pos := _, after := _, guard := some (3, true) }) (v := ?_) rfl (Or.inl ⟨by rfl, ?_⟩) (by assumption) ?_
    rotate_left
    ·(intro w hSw; (try dsimp only at hSw); go_simp) <;> with_reducible rfl
    try simp only [Act.put, zT, z0, zS]
    refine takeH (i := 8) (oi := { dst := some 11, op := .load 24 (.tmp 10), type := _, pos := _, after := _, guard := some (3, true) }) (v := ?_) rfl (Or.inl ⟨by rfl, ?_⟩) (by assumption) ?_
    rotate_left
    ·(intro w hSw; (try dsimp only at hSw); go_simp) <;> with_reducible rfl
    try simp only [Act.put, zT, z0, zS]
    refine takeH (i := 9) (oi := { dst := some 12, op := .call { callee := .builtin .len, args := #[(.tmp 11)], argTypes := #[24] }, type := _, pos := _, after := _, guard := some (3, true) }) (v := ?_) rfl (Or.inl ⟨by rfl, ?_⟩) (by assumption) ?_
    rotate_left
    ·(intro w hSw; (try dsimp only at hSw); go_simp) <;> with_reducible rfl
    try simp only [Act.put, zT, z0, zS]
    refine takeH (i := 10) (oi := { dst := some 13, op := .binOp BinOp.eql 3 (.tmp 9) (.tmp 12) 3, type := _, pos := _, after := _, guard := some (3, true) }) (v := ?_) rfl (Or.inl ⟨by rfl, ?_⟩) (by assumption) ?_
    rotate_left
    ·(intro w hSw; (try dsimp only at hSw); go_simp) <;> with_reducible rfl
    try simp only [Act.put, zT, z0, zS]
    refine takeH (i := 11) (oi := { dst := some 14, op := .pick (.tmp 6) (.tmp 13) ((Operand.const (Value.bool false))), type := _, pos := _, after := _, guard := none }) (v := ?_) rfl (Or.inl ⟨by rfl, ?_⟩) (by assumption) ?_
    rotate_left
    ·(intro w hSw; (try dsimp only at hSw); go_simp) <;> with_reducible rfl
    try simp only [Act.put, zT, z0, zS]
    refine takeH (i := 12) (oi := { dst := some 15, op := .move (.tmp 14), type := _, pos := _, after := _, guard := none }) (v := ?_) rfl (Or.inl ⟨by rfl, ?_⟩) (by assumption) ?_
    rotate_left
    ·(intro w hSw; (try dsimp only at hSw); go_simp) <;> with_reducible rfl
    try simp only [Act.put, zT, z0, zS]
    refine takeH (i := 13) (oi := { dst := some 16, op := .fieldAddr 37 (.tmp 1) 1, type := _, pos := _, after := _, guard := some (12, true) }) (v := undef) rfl (Or.inr ⟨by rfl, rfl⟩) (by assumption) ?_
    try simp only [Act.put, zT, z0, zS]
    refine takeH (i := 14) (oi := { dst := some 17, op := .load 35 (.tmp 16), type := _, pos := _, after := _, guard := some (12, true) }) (v := undef) rfl (Or.inr ⟨by rfl, rfl⟩) (by assumption) ?_
    try simp only [Act.put, zT, z0, zS]
    refine takeH (i := 15) (oi := { dst := some 18, op := .call { callee := .value (.func 88), args := #[(.tmp 17), Operand.func 67], argTypes := #[35, 99] }, type := _, pos := _, after := _, guard := some (12, true) }) (v := undef) rfl (Or.inr ⟨by rfl, rfl⟩) (by assumption) ?_
    try simp only [Act.put, zT, z0, zS]
    refine takeH (i := 16) (oi := { dst := some 19, op := .unOp UnOp.not 4 (.tmp 18), type := _, pos := _, after := _, guard := some (12, true) }) (v := undef) rfl (Or.inr ⟨by rfl, rfl⟩) (by assumption) ?_
    try simp only [Act.put, zT, z0, zS]
    refine takeH (i := 17) (oi := { dst := some 20, op := .pick (.tmp 15) (.tmp 19) ((Operand.const (Value.bool false))), type := _, pos := _, after := _, guard := none }) (v := ?_) rfl (Or.inl ⟨by rfl, ?_⟩) (by assumption) ?_
    rotate_left
    ·(intro w hSw; (try dsimp only at hSw); go_simp) <;> with_reducible rfl
    try simp only [Act.put, zT, z0, zS]
    refine takeH (i := 18) (oi := { dst := some 21, op := .move (.tmp 20), type := _, pos := _, after := _, guard := none }) (v := ?_) rfl (Or.inl ⟨by rfl, ?_⟩) (by assumption) ?_
    rotate_left
    ·(intro w hSw; (try dsimp only at hSw); go_simp) <;> with_reducible rfl
    try simp only [Act.put, zT, z0, zS]
    refine takeH (i := 19) (oi := { dst := some 22, op := .fieldAddr 37 (.tmp 1) 2, type := _, pos := _, after := _, guard := some (18, true) }) (v := undef) rfl (Or.inr ⟨by rfl, rfl⟩) (by assumption) ?_
    try simp only [Act.put, zT, z0, zS]
    refine takeH (i := 20) (oi := { dst := some 23, op := .load 35 (.tmp 22), type := _, pos := _, after := _, guard := some (18, true) }) (v := undef) rfl (Or.inr ⟨by rfl, rfl⟩) (by assumption) ?_
    try simp only [Act.put, zT, z0, zS]
    refine takeH (i := 21) (oi := { dst := some 24, op := .call { callee := .builtin .len, args := #[(.tmp 23)], argTypes := #[35] }, type := _, pos := _, after := _, guard := some (18, true) }) (v := undef) rfl (Or.inr ⟨by rfl, rfl⟩) (by assumption) ?_
    try simp only [Act.put, zT, z0, zS]
    refine takeH (i := 22) (oi := { dst := some 25, op := .fieldAddr 37 (.tmp 1) 0, type := _, pos := _, after := _, guard := some (18, true) }) (v := undef) rfl (Or.inr ⟨by rfl, rfl⟩) (by assumption) ?_
    try simp only [Act.put, zT, z0, zS]
    refine takeH (i := 23) (oi := { dst := some 26, op := .load 24 (.tmp 25), type := _, pos := _, after := _, guard := some (18, true) }) (v := undef) rfl (Or.inr ⟨by rfl, rfl⟩) (by assumption) ?_
    try simp only [Act.put, zT, z0, zS]
    refine takeH (i := 24) (oi := { dst := some 27, op := .call { callee := .value (.func 48), args := #[(.tmp 26)], argTypes := #[24] }, type := _, pos := _, after := _, guard := some (18, true) }) (v := undef) rfl (Or.inr ⟨by rfl, rfl⟩) (by assumption) ?_
    try simp only [Act.put, zT, z0, zS]
    refine takeH (i := 25) (oi := { dst := some 28, op := .call { callee := .builtin .len, args := #[(.tmp 27)], argTypes := #[24] }, type := _, pos := _, after := _, guard := some (18, true) }) (v := undef) rfl (Or.inr ⟨by rfl, rfl⟩) (by assumption) ?_
    try simp only [Act.put, zT, z0, zS]
    refine takeH (i := 26) (oi := { dst := some 29, op := .binOp BinOp.eql 3 (.tmp 24) (.tmp 28) 3, type := _, pos := _, after := _, guard := some (18, true) }) (v := undef) rfl (Or.inr ⟨by rfl, rfl⟩) (by assumption) ?_
    try simp only [Act.put, zT, z0, zS]
    refine takeH (i := 27) (oi := { dst := some 30, op := .pick (.tmp 21) (.tmp 29) ((Operand.const (Value.bool false))), type := _, pos := _, after := _, guard := none }) (v := ?_) rfl (Or.inl ⟨by rfl, ?_⟩) (by assumption) ?_
    rotate_left
    ·(intro w hSw; (try dsimp only at hSw); go_simp) <;> with_reducible rfl
    try simp only [Act.put, zT, z0, zS]
    refine takeH (i := 28) (oi := { dst := some 31, op := .move (.tmp 30), type := _, pos := _, after := _, guard := none }) (v := ?_) rfl (Or.inl ⟨by rfl, ?_⟩) (by assumption) ?_
    rotate_left
    ·(intro w hSw; (try dsimp only at hSw); go_simp) <;> with_reducible rfl
    try simp only [Act.put, zT, z0, zS]
    refine takeH (i := 29) (oi := { dst := some 32, op := .fieldAddr 37 (.tmp 1) 2, type := _, pos := _, after := _, guard := some (28, true) }) (v := undef) rfl (Or.inr ⟨by rfl, rfl⟩) (by assumption) ?_
    try simp only [Act.put, zT, z0, zS]
    refine takeH (i := 30) (oi := { dst := some 33, op := .load 35 (.tmp 32), type := _, pos := _, after := _, guard := some (28, true) }) (v := undef) rfl (Or.inr ⟨by rfl, rfl⟩) (by assumption) ?_
    try simp only [Act.put, zT, z0, zS]
    refine takeH (i := 31) (oi := { dst := some 34, op := .call { callee := .value (.func 88), args := #[(.tmp 33), Operand.func 89], argTypes := #[35, 99] }, type := _, pos := _, after := _, guard := some (28, true) }) (v := undef) rfl (Or.inr ⟨by rfl, rfl⟩) (by assumption) ?_
    try simp only [Act.put, zT, z0, zS]
    refine takeH (i := 32) (oi := { dst := some 35, op := .unOp UnOp.not 4 (.tmp 34), type := _, pos := _, after := _, guard := some (28, true) }) (v := undef) rfl (Or.inr ⟨by rfl, rfl⟩) (by assumption) ?_
    try simp only [Act.put, zT, z0, zS]
    refine takeH (i := 33) (oi := { dst := some 36, op := .pick (.tmp 31) (.tmp 35) ((Operand.const (Value.bool false))), type := _, pos := _, after := _, guard := none }) (v := ?_) rfl (Or.inl ⟨by rfl, ?_⟩) (by assumption) ?_
    rotate_left
    ·(intro w hSw; (try dsimp only at hSw); go_simp) <;> with_reducible rfl
    try simp only [Act.put, zT, z0, zS]
    refine takeH (i := 34) (oi := { dst := some 2, op := .assign (.tmp 36), type := _, pos := _, after := _, guard := none }) (v := ?_) rfl (Or.inl ⟨by rfl, ?_⟩) (by assumption) ?_
    rotate_left
    ·(intro w hSw; (try dsimp only at hSw); go_simp) <;> with_reducible rfl
    try simp only [Act.put, zT, z0, zS]
    refine wpAnyH_done (by kernel_rfl) ?_ _
    go_wp2_with fail
    go_ret
    exact ⟨rfl, hB1.out.trans (B2.mono hB1.out.size)⟩
   exact AllReadyH.nil
set_option linter.unusedSimpArgs false in
set_option maxRecDepth 100000 in
set_option maxHeartbeats 2000000 in
theorem shownX_any (vo : Value) (root : Str) (ks : List Int) (vs ps : List Str) (w : World) {W0 : World} (hW : W0 = w) (hv : OpV W0 vo ks vs ps) (hkl : ks.length ≤ 140737488351232) (hvl : vs.length ≤ 9223372036854775807) (hpl : ps.length ≤ 9223372036854775807) (hT : Tab W0) :
  Calls Tryd.prog 52 #[.string ⟨root.toArray⟩, vo] w (ShownPost root ks vs ps w) := by
 subst hW
 obtain ⟨a, b, c, rfl, ha, hb, hc⟩ := hv
 obtain ⟨w1, hw1⟩ : ∃ w1, w1 = ((W0.alloc (.cells #[a, b, c] 37)).alloc (.cells (cT emp).toArray 73)).alloc (.cells (cT emp).toArray 73) := ⟨_, rfl⟩
 obtain ⟨B1, z1, hcell, r1, r2⟩ := box3_world W0 w1 a b c hw1
 have hform := Lib.hid (formedX_any (.agg #[a, b, c]) ks vs ps w1 ⟨a, b, c, rfl, ha.below B1, hb.below B1, hc.below B1⟩ hkl hvl hpl)
 have hsB : Hid (shownB root ks vs ps = (formB ks vs ps && (standS ks ps (shownV ks vs) == root))) := rfl
 have hff := Lib.hid (formB_facts ks vs ps)
 have hab := Lib.hid ha
 have hbb := Lib.hid hb
 have hcb := Lib.hid hc
 have hTh := Lib.hid hT
 obtain ⟨a1, a2, hae⟩ := ha.shape
 obtain ⟨b1, b2, hbe⟩ := hb.shape
 obtain ⟨c1, c2, hce⟩ := hc.shape
 have hcellh := Lib.hid hcell
 have hw1h := Lib.hid hw1
 have c0 := hcell w1 (Below.refl _ _)
 cases hf : formB ks vs ps with
 | false =>
  rw [hf] at hform hsB
  have hR : shownB root ks vs ps = false := by rw [hsB.out]; rfl
  unfold ShownPost
  rw [hR]
  have f1 := Lib.hid r1
  have f2 := Lib.hid r2
  have z2 := Lib.hid (size73l emp rfl)
  subst hae hbe hce
  obtain ⟨d0, d1, d2⟩ := c0
  clear hR hff hsB hab hbb hcb hTh ha hb hc hcell hw1 r1 r2 hT hcellh
  have B1h := Lib.hid B1
  clear B1 z1
  go_enter Tryd.func52, Tryd.ntmps52
  go_upto_region 2 with (fail)
  rw [z64s, ← hw1h.out]
  go_wp2_with fail
  refine hform.out.mono ?_
  rintro e W ⟨rfl, b2⟩
  have q1 := Lib.hid (f1.out.below b2 f1.out.lt)
  have q2 := Lib.hid (f2.out.below b2 f2.out.lt)
  have B2 := Lib.hid (B1h.out.trans (b2.mono B1h.out.size))
  clear b2 d0 d1 d2
  go_wp2_with (first
   | (refine wpList_load_row rfl 73 (.tmp 6) rfl (W0.heap.size + 1 + 1) rfl 73 (cT emp).toArray (0, 0) _ q2.out Tryd.underlying73 rfl z2.out ?_)
   | (refine wpList_store_row rfl 73 (.tmp 4) (.tmp 12) rfl (W0.heap.size + 1) (cT emp).toArray rfl rfl 73 _ q1.out z2.out rfl (cT_all _) ?_))
  refine bodyPost_ret (v := _) (results_cell_tmp (fn := Tryd.f52) rfl _ _ (W0.heap.size + 1) _ _ emp (.bool false) rfl rfl (q1.out.setRow _) Tryd.underlying73 z2.out) rfl ?_
  exact ⟨emp, rfl, (fun h => by rw [hf] at h; cases h), rfl, below_setRow B2.out (by omega) _⟩
 | true =>
  obtain ⟨k1, k2, k3, k4, k5⟩ := hff.out hf
  rw [hf] at hform hsB
  have hlen := ascB_len ks (-1) (by omega) (by omega) k1
  have hbd := Lib.hid (ascB_bd ks (-1) (by omega) k1)
  obtain ⟨N, hN⟩ : ∃ N, Hid (N = ks.length) := ⟨_, rfl⟩
  have hNv : Hid (N = vs.length) := by show _ = _; rw [hN.out, k2]
  have hN64 : N ≤ 64 := by rw [hN.out]; omega
  have hca := Lib.hid (show ∀ (k : Nat) (hk : k < ks.length), _ from fun k hk => SI.at ha k hk)
  have hcb := Lib.hid (show ∀ (k : Nat) (hk : k < vs.length), _ from fun k hk => SS.at hb k hk)
  have hsmall := Lib.hid (shownV_small ks vs 1000000 (fun s hs => by have := k3 s hs; omega))
  have hst0 := Lib.hid (show ∀ W, Below W0.heap.size W0 W → Calls Tryd.prog 56 #[.agg #[a, b, c], .agg (cT (shownV ks vs)).toArray] W fun e w' => e = .returned (.string ⟨(standS ks ps (shownV ks vs)).toArray⟩) ∧ Below W.heap.size W w' from fun W B =>
   standsFor_any (.agg #[a, b, c]) ks vs ps (shownV ks vs) W ⟨a, b, c, rfl, ha.below B, hb.below B, hc.below B⟩ k1 k4 (fun s hs => by have := k5 s hs; omega) (putS_len _ _ _) hsmall.out (hT.below B))
  have f1 := Lib.hid r1
  have f2 : RowT 73 w1 (W0.heap.size + 1 + 1) (putS ks vs 0) := r2
  have f2 := Lib.hid f2
  subst hae hbe hce
  clear c0
  rw [← hN.out] at hform hst0 hcellh hw1h
  rw [← hNv.out] at hform hst0 hcellh hw1h
  unfold ShownPost
  rw [← hN.out, ← hNv.out]
  generalize ps.length = n3 at *
  obtain ⟨d0, d1, d2⟩ := hcellh.out w1 (Below.refl _ _)
  have B1h := Lib.hid B1
  clear hff hab hbb hcb hTh ha hb hc hcell hw1 r1 r2 hT k1 k2 k3 k4 k5 hlen hkl hvl hpl B1 z1
  go_enter Tryd.func52, Tryd.ntmps52
  go_upto_region 2 with (fail)
  rw [z64s, ← hw1h.out]
  go_wp2_with fail
  refine hform.out.mono ?_
  rintro e W ⟨rfl, b2⟩
  have q1 := f1.out.below b2 f1.out.lt
  have q2 := f2.out.below b2 f2.out.lt
  have hc2 := Lib.hid (show ∀ W', Below (W0.heap.size + 1) W W' → _ from fun W' B => hcellh.out W' ((b2.mono (by have := f2.out.lt; omega)).trans B))
  have B2 := B1h.out.trans (b2.mono B1h.out.size)
  clear b2 d0 d1 d2 hcellh
  obtain ⟨d0, d1, d2⟩ := hc2.out W (Below.refl _ _)
  go_wp2_with fail
  go_loopw [16] (fun i wr => ∃ n : Nat, n ≤ N ∧ i = .int .i64 n ∧ RowT 73 wr (W0.heap.size + 1) emp ∧ RowT 73 wr (W0.heap.size + 1 + 1) (putS ks vs n) ∧ Below (W0.heap.size + 1) W wr ∧ Below W0.heap.size W0 wr) (fun i _ => N - (intOf i).toNat)
  case atStart => exact ⟨0, by omega, rfl, q1, q2, Below.refl _ _, B2⟩
  case round =>
   clear q1 q2 B2 d0 d1 d2
   obtain ⟨n, hn, rfl, q1, q2, BW, B⟩ := hrel
   obtain ⟨d0, d1, d2⟩ := hc2.out wr BW
   by_cases hlt : n < N
   ·have hnk : n < ks.length := by rw [← hN.out]; exact hlt
    have hnv : n < vs.length := by rw [← hNv.out]; exact hlt
    obtain ⟨b1', o1', c1', he, hcl⟩ := hca.out n hnk
    injection he with he1 he2 he3
    subst he1
    have e1 := hcl wr B
    obtain ⟨b2', o2', c2', he, hcl2⟩ := hcb.out n hnv
    injection he with he4 he5 he6
    subst he4
    have e2 := hcl2 wr B
    have hb := hbd.out ks[n] (List.getElem_mem hnk)
    have hsn := putS_snoc ks vs n hnk hnv
    have hln := putS_len ks vs n
    clear hcl hcl2 he2 he3 he5 he6
    obtain ⟨p, hp⟩ : ∃ p : Nat, ks[n] = (p : Int) := ⟨ks[n].toNat, by omega⟩
    rw [hp] at e1 hb hsn
    rw [Int.toNat_natCast] at hsn
    have hsn := Lib.hid hsn
    rename_i hsno
    clear hsno hp
    generalize vs[n] = s at *
    generalize putS ks vs n = l at *
    have i0 : (0 : Int) ≤ (n : Int) := by omega
    have i1 : (n : Int) < (N : Int) := by omega
    have i2 : (0 : Int) ≤ (p : Int) := by omega
    have i3 : (p : Int) < 64 := by omega
    have g1 := q2.cell p (by omega)
    have g2 := q2.free p
    have y2 := Lib.hid (q2.set p s)
    have y1 := Lib.hid (q1.other (g := W0.heap.size + 1 + 1) (i := p) (v := .string ⟨s.toArray⟩) (by omega))
    have yB := Lib.hid (B.setCell (p := ⟨W0.heap.size + 1 + 1, p, none⟩) (by simp; omega) (.string ⟨s.toArray⟩))
    have yW := Lib.hid (BW.setCell (p := ⟨W0.heap.size + 1 + 1, p, none⟩) (by simp) (.string ⟨s.toArray⟩))
    generalize l.getD p [] = old at *
    clear q1 q2 BW B hb hln
    go_wp2_with fail
    go_roundw
    case rel => exact ⟨n + 1, by omega, by go_num, y1.out, by rw [hsn.out]; exact y2.out, yW.out, yB.out⟩
    case measure => simp [intOf]; omega
   ·have hnN : n = ks.length := by rw [← hN.out]; omega
    have hV : Hid (shownV ks vs = putS ks vs n) := by show _ = _; rw [hnN]; rfl
    rw [← hV.out] at q2
    have zl : (shownV ks vs).length = 64 := putS_len _ _ _
    have z2 := Lib.hid (size73l _ zl)
    have z3 := Lib.hid (size_eq emp (shownV ks vs) (by rw [zl]; rfl))
    have hst := Lib.hid (show ∀ W', Below wr.heap.size wr W' → _ from fun W' B' => hst0.out W' (B.trans (B'.mono B.size)))
    have hrow := Lib.hid (show ∀ W', Below wr.heap.size wr W' → RowT 73 W' (W0.heap.size + 1) emp from fun W' B' => q1.below B' q1.lt)
    have sK := Lib.hid (show ∀ W', Below wr.heap.size wr W' → (Instr.loadAt 73 (.pointer (some ⟨W0.heap.size + 1 + 1, 0, none⟩))).run Tryd.prog W' = .ok (.agg (cT (shownV ks vs)).toArray) W' ∧ _ from fun W' B' => ⟨loadAt_row 73 _ W' _ _ _ Tryd.underlying73 z2.out (q2.below B' q2.lt), hc2.out W' (BW.trans (B'.mono (by have := q1.lt; omega)))⟩)
    have sS := Lib.hid (show ∀ W', Below wr.heap.size wr W' → (Instr.loadAt 73 (.pointer (some ⟨W0.heap.size + 1 + 1, 0, none⟩))).run Tryd.prog (W'.setRow (W0.heap.size + 1) (cT (shownV ks vs)).toArray) = .ok (.agg (cT (shownV ks vs)).toArray) (W'.setRow (W0.heap.size + 1) (cT (shownV ks vs)).toArray) ∧ _ from fun W' B' => ⟨loadAt_row 73 _ _ _ _ _ Tryd.underlying73 z2.out ((q2.below B' q2.lt).setRow_other _ (by omega)), hc2.out (W'.setRow (W0.heap.size + 1) (cT (shownV ks vs)).toArray) (below_setRow (BW.trans (B'.mono (by have := q1.lt; omega))) (by omega) _)⟩)
    have hS0 := Lib.hid (sK.out wr.drew (Below.refl _ _).drew)
    have hBh := Lib.hid B
    have i1 : ¬ (n : Int) < (N : Int) := by omega
    clear hca hcb hst0 hc2 hnN hV q1 q2 B BW hbd hsmall hform f1 f2 B1h
    generalize hVq : shownV ks vs = V at *
    have hVq := Lib.hid hVq
    rename_i hVqo
    clear hVqo
    generalize standS ks ps V = R at *
    go_wp2_with fail
    refine wp_region_held_drew (S := (fun w' : World => ((Instr.loadAt 73 (.pointer (some ⟨W0.heap.size + 1 + 1, 0, none⟩))).run Tryd.prog w' = .ok (.agg (cT V).toArray) w') ∧ w'.cell? ⟨W0.heap.size, 0, none⟩ = some (.slice a1 N a2) ∧ w'.cell? ⟨W0.heap.size, 1, none⟩ = some (.slice b1 N b2) ∧ w'.cell? ⟨W0.heap.size, 2, none⟩ = some (.slice c1 n3 c2))) (by kernel_rfl) hS0.out (fun hHeld => ?_)
    refine takeH (i := 0) (oi := { dst := some 29, op := .load 73 (.tmp 6), type := _, pos := _, after := _, guard := none }) (v := ?_) rfl (Or.inl ⟨by rfl, ?_⟩) (by assumption) ?_
    rotate_left
    ·(intro W hSw; refine exec_load _ 73 (.tmp 6) rfl _ ?_; exact hSw.1)
    try simp only [Act.put, zT, z0, zS]
    refine takeH (i := 1) (oi := { dst := some 30, op := .load 37 (.tmp 3), type := _, pos := _, after := _, guard := none }) (v := ?_) rfl (Or.inl ⟨by rfl, ?_⟩) (by assumption) ?_
    rotate_left
    ·(intro w hSw; (try dsimp only at hSw); go_simp) <;> with_reducible rfl
    try simp only [Act.put, zT, z0, zS]
    refine takeH (i := 2) (oi := { dst := some 31, op := .load 73 (.tmp 6), type := _, pos := _, after := _, guard := none }) (v := ?_) rfl (Or.inl ⟨by rfl, ?_⟩) (by assumption) ?_
    rotate_left
    ·(intro W hSw; refine exec_load _ 73 (.tmp 6) rfl _ ?_; exact hSw.1)
    try simp only [Act.put, zT, z0, zS]
    refine takeH (i := 4) (oi := { dst := some 33, op := .move (.tmp 0), type := _, pos := _, after := _, guard := none }) (v := ?_) rfl (Or.inl ⟨by rfl, ?_⟩) (by assumption) ?_
    rotate_left
    ·(intro w hSw; (try dsimp only at hSw); go_simp) <;> with_reducible rfl
    try simp only [Act.put, zT, z0, zS]
    refine wpAnyH_ready (rs := [3]) (by kernel_rfl) (by simp) ?_
    refine AllReadyH.cons (o := { dst := some 32, op := .call { callee := .value (.func 56), args := #[(.tmp 30), (.tmp 31)], argTypes := #[37, 73] }, type := _, pos := _, after := _, guard := none }) rfl (fun K hK => ?_) ?_
    ·skip
     go_simp
     with_reducible refine (hst.out _ (Below.refl _ _).drew).mono ?_
     rintro e W2 ⟨rfl, d2⟩
     have B2 : Below wr.heap.size wr W2 := (Below.refl _ wr).drew.trans d2
     have g2 := hrow.out W2 B2
     clear d2
     go_wp2_with fail
     refine hK.out _ _ ?_ (fun hHeld => ?_)
     ·exact sK.out W2 B2
     clear hK K
     try simp only [Act.put, zT, z0, zS]
     refine takeH (i := 5) (oi := { dst := some 34, op := .binOp BinOp.eql 9 (.tmp 32) (.tmp 33) 9, type := _, pos := _, after := _, guard := none }) (v := ?_) rfl (Or.inl ⟨by rfl, ?_⟩) (by assumption) ?_
     rotate_left
     ·(intro w hSw; (try dsimp only at hSw); go_simp) <;> with_reducible rfl
     try simp only [Act.put, zT, z0, zS]
     refine wpAnyH_ready (rs := [6]) (by kernel_rfl) (by simp) ?_
     refine AllReadyH.cons (o := { dst := none, op := .store 73 (.tmp 4) (.tmp 29), type := _, pos := _, after := _, guard := none }) rfl (fun K hK => ?_) ?_
     ·skip
      refine wp_store_row 73 (.tmp 4) (.tmp 29) rfl (W0.heap.size + 1) (cT V).toArray rfl rfl 73 _ g2 z2.out z3.out (cT_all _) ?_
      refine hK.out _ _ ?_ (fun hHeld => ?_)
      ·exact sS.out W2 B2
      clear hK K
      try simp only [Act.put, zT, z0, zS]
      refine takeH (i := 7) (oi := { dst := some 5, op := .assign (.tmp 34), type := _, pos := _, after := _, guard := none }) (v := ?_) rfl (Or.inl ⟨by rfl, ?_⟩) (by assumption) ?_
      rotate_left
      ·(intro w hSw; (try dsimp only at hSw); go_simp) <;> with_reducible rfl
      try simp only [Act.put, zT, z0, zS]
      refine wpAnyH_done (by kernel_rfl) ?_ _
      go_wp2_with fail
      refine bodyPost_ret (v := _) (results_cell_tmp (fn := Tryd.f52) rfl _ _ (W0.heap.size + 1) _ _ V _ rfl rfl (g2.setRow _) Tryd.underlying73 z2.out) rfl ?_
      exact ⟨V, by rw [hsB.out]; rfl, fun _ => hVq.out.symm, zl, below_setRow (hBh.out.trans (B2.mono hBh.out.size)) (by omega) _⟩
     exact AllReadyH.nil
    exact AllReadyH.nil
set_option maxRecDepth 100000 in
set_option maxHeartbeats 2000000 in
theorem ReadX_any (root : Str) (vo : Value) (ks : List Int) (vs ps : List Str) (w : World) {W0 : World} (hW : W0 = w) (hv : OpV W0 vo ks vs ps) (hkl : ks.length ≤ 140737488351232) (hvl : vs.length ≤ 9223372036854775807) (hpl : ps.length ≤ 9223372036854775807) (hT : Tab W0) :
  Calls Tryd.prog 23 #[.string ⟨root.toArray⟩, vo] w (ReadPost root ks vs ps w) := by
 subst hW
 obtain ⟨a, b, c, rfl, ha, hb, hc⟩ := hv
 obtain ⟨w1, hw1⟩ : ∃ w1, w1 = W0.alloc (.cells #[a, b, c] 37) := ⟨_, rfl⟩
 obtain ⟨B1, z1, hcell⟩ := box_world W0 w1 a b c 37 hw1
 have hsh := Lib.hid (shownX_any (.agg #[a, b, c]) root ks vs ps w1 rfl ⟨a, b, c, rfl, ha.below B1, hb.below B1, hc.below B1⟩ hkl hvl hpl (hT.below B1))
 have hka := Lib.hid (show ∀ (k : Nat) (hk : k < ks.length), _ from fun k hk => SI.at ha k hk)
 have hcE := Lib.hid hcell
 have hw1h := Lib.hid hw1
 have B1h := Lib.hid B1
 obtain ⟨a1, n1, a2, rfl, hn1⟩ := ha.shape'
 obtain ⟨b1, n2, b2, rfl, hn2⟩ := hb.shape'
 obtain ⟨c1, n3, c2, rfl, hn3⟩ := hc.shape'
 clear ha hb hc hT hkl hvl hpl hcell hw1 B1 z1
 go_enter Tryd.func23, Tryd.ntmps23
 go_upto_region 1 with (fail)
 rw [← hw1h.out]
 obtain ⟨d0, d1, d2⟩ := hcE.out w1 (Below.refl _ _)
 go_wp2_with fail
 refine hsh.out.mono ?_
 rintro e w2 ⟨V, rfl, hV, hVl, b2⟩
 have hVh := Lib.hid hV
 have zz1 := Lib.hid (size73l V hVl)
 have zz2 := Lib.hid (sz64 V hVl)
 have hVlh := Lib.hid hVl
 clear hV hVl d0 d1 d2 hsh
 go_upto_region 2 with (refine wpList_store_row rfl 73 (.tmp 7) (.tmp 17) rfl w2.heap.size (cT V).toArray rfl rfl 73 _ (heap_alloc_new w2 _) zz1.out zz2.out (cT_all _) ?_)
 rw [z64s]
 obtain ⟨W3, hW3⟩ : ∃ W3, W3 = (w2.alloc (.cells (cT emp).toArray 73)).setRow w2.heap.size (cT V).toArray := ⟨_, rfl⟩
 rw [← hW3]
 have hr8 : RowT 73 W3 w2.heap.size V := by rw [hW3]; exact setRow_heap _ _ _ _ _ _ (heap_alloc_new w2 _)
 have b3 : Below w1.heap.size w1 W3 := by rw [hW3]; exact below_setRow (b2.alloc b2.size _) b2.size _
 have s8 : w2.heap.size < W3.heap.size := hr8.lt
 clear hW3 b2
 obtain ⟨b8, hb8⟩ : ∃ b8, w2.heap.size = b8 := ⟨_, rfl⟩
 rw [hb8] at hr8 s8 ⊢
 clear hb8
 have toW := Lib.hid (show ∀ W, Below W3.heap.size W3 W → Below W0.heap.size W0 W from fun W B => (B1h.out.trans (b3.mono B1h.out.size)).trans (B.mono (by have := b3.size; have := B1h.out.size; omega)))
 have cE := Lib.hid (show ∀ W, Below W3.heap.size W3 W → _ from fun W B => hcE.out W (b3.trans (B.mono b3.size)))
 have fR := Lib.hid (show ∀ W, Below W3.heap.size W3 W → RowT 73 W b8 V from fun W B => hr8.below B s8)
 clear hr8 b3 hcE s8
 cases hsb : shownB root ks vs ps with
 | false =>
  have hb1 := Lib.hid (show ReadPost root ks vs ps W0 (.returned (.tuple #[.slice none 0 0, .slice none 0 0, .bool false])) W3 from .inl ⟨hsb, rfl, toW.out _ (Below.refl _ _)⟩)
  clear cE fR hsb
  go_wp2_with fail
  go_ret3
  exact hb1.out
 | true =>
  have hform : formB ks vs ps = true := by
   have h := hsb
   unfold shownB at h
   simp only [Bool.and_eq_true] at h
   exact h.1
  have hVe := hVh.out hform
  have hkb := Lib.hid (ascB_bd ks (-1) (by omega) (formB_facts ks vs ps hform).1)
  have hkl := ascB_len ks (-1) (by omega) (by omega) (formB_facts ks vs ps hform).1
  rw [← hn1.out] at hkl
  have hn64 : n1 ≤ 64 := by omega
  have hVs := Lib.hid (show ∀ k, (vF V k).length ≤ 1000000 from fun k => by
   unfold vF; rw [List.getD_eq_getElem?_getD]
   cases e : V[k]? with
   | none => simp
   | some s => exact shownV_small ks vs 1000000 (fun s hs => by have := (formB_facts ks vs ps hform).2.2.1 s hs; omega) s (by rw [← hVe]; exact List.mem_of_getElem? e))
  have hgood := Lib.hid (show ∀ t a W, SE W t (rdE V ks) → SI W a (rdA V ks) → Below W3.heap.size W3 W → ReadPost root ks vs ps W0 (.returned (.tuple #[t, a, .bool true])) W from fun t a W h1 h2 B => .inr ⟨hsb, t, a, rfl, by rw [← hVe]; exact h1, by rw [← hVe]; exact h2, toW.out W B⟩)
  clear hVe hform hVh hsb hkl
  obtain ⟨d0, d1, d2⟩ := cE.out W3 (Below.refl _ _)
  go_wp2_with fail
  go_loopw [9, 10, 24] (fun tv av i wr => ∃ n : Nat, n ≤ n1 ∧ i = .int .i64 n ∧ (∃ x1 x2 x3, tv = .slice x1 x2 x3) ∧ (∃ x1 x2 x3, av = .slice x1 x2 x3) ∧ OE wr W3.heap.size tv (rdE V (ks.take n)) ∧ OI wr W3.heap.size av (rdA V (ks.take n)) ∧ Dj tv av ∧ Below W3.heap.size W3 wr) (fun _ _ i _ => n1 - (intOf i).toNat)
  case atStart => exact ⟨0, by omega, rfl, ⟨_, _, _, rfl⟩, ⟨_, _, _, rfl⟩, OwnG.nil _ _, OwnG.nil _ _, (fun g h => by cases h), Below.refl _ _⟩
  case round =>
   clear d0 d1 d2
   obtain ⟨n, hn, rfl, ⟨x1, x2, x3, rfl⟩, ⟨y1, y2, y3, rfl⟩, ot, oa, hd, B⟩ := hrel
   by_cases hlt : n < n1
   ·have hnk : n < ks.length := by rw [← hn1.out]; exact hlt
    obtain ⟨bk, ok, ck, he, hcell⟩ := hka.out n hnk
    injection he with he1 he2 he3
    subst he1
    have hcc := hcell wr (toW.out _ B)
    have hb := hkb.out ks[n] (List.getElem_mem hnk)
    have hyes := Lib.hid (rd_yes V ks n hnk)
    have hno := Lib.hid (rd_no V ks n hnk)
    have lt1 : (rdE V (ks.take n)).length ≤ 1000 := by have := rdE_len V (ks.take n); have := List.length_take_le n ks; omega
    have la1 : (rdA V (ks.take n)).length ≤ 1000 := by have := rdA_len V (ks.take n); have := List.length_take_le n ks; omega
    clear hcell he2 he3
    obtain ⟨p, hp⟩ : ∃ p : Nat, ks[n] = (p : Int) := ⟨ks[n].toNat, by omega⟩
    rw [hp] at hcc hb hyes hno
    rw [Int.toNat_natCast] at hyes hno
    clear hp
    have c7 := (fR.out wr B).cell p (by rw [hVlh.out]; omega)
    have hvd : V.getD p [] = vF V p := rfl
    rw [hvd] at c7
    have hsl := hVs.out p
    clear hvd
    have i0 : (0 : Int) ≤ (n : Int) := by omega
    have i1 : (n : Int) < (n1 : Int) := by omega
    have i2 : (0 : Int) ≤ (p : Int) := by omega
    have i3 : (p : Int) < 64 := by omega
    have Bs := B.size
    by_cases hz : vF V p = []
    ·obtain ⟨e1, e2⟩ := hno.out hz
     rw [hz] at c7
     obtain ⟨j0, hj, hj0, hj1, hj2⟩ := info_parts infoInt
     obtain ⟨v', w', ⟨z1, z2, z3, rfl⟩, hr, h1, h2, h3, h4⟩ := OwnG.snoc2 eI_len eI_one (by omega) 24 24 Tryd.underlying24 hj hj0 hj1 hj2 rfl wr W3.heap.size _ _ _ _ (p : Int) oa ot hd.symm (by omega) (by omega) Bs
     have hr : (Builtin.append_ #[24, 24] 24 #[.slice y1 y2 y3, .slice (some ⟨wr.heap.size, 0, none⟩) 1 1]).run Tryd.prog (wr.alloc (.cells #[.int .i64 (p : Int)] 3)) = .ok (.slice z1 z2 z3) w' := hr
     have hend := Lib.hid (show OE w' W3.heap.size (.slice x1 x2 x3) (rdE V (ks.take (n + 1))) ∧ OI w' W3.heap.size (.slice z1 z2 z3) (rdA V (ks.take (n + 1))) ∧ Dj (.slice x1 x2 x3) (.slice z1 z2 z3) ∧ Below W3.heap.size W3 w' from ⟨by rw [e1]; exact h2, by rw [e2]; exact h1, h3.symm, B.trans h4⟩)
     clear hyes hno hz e1 e2 h1 h2 h3 h4 ot oa hd hj hj0 hj1 hj2 B
     go_wp2_with (at_builtin; refine wpList_append_runB rfl (.tmp 32) (.tmp 34) 24 rfl (.slice y1 y2 y3) (.slice (some ⟨wr.heap.size, 0, none⟩) 1 1) rfl rfl _ _ hr ?_)
     go_roundw
     case rel => exact ⟨n + 1, by omega, by go_num, ⟨_, _, _, rfl⟩, ⟨_, _, _, rfl⟩, hend.out⟩
     case measure => simp [intOf]; omega
    ·obtain ⟨e1, e2⟩ := hyes.out hz
     have hz2 := not_empty hz
     obtain ⟨j0, hj, hj0, hj1, hj2⟩ := info_parts infoEnt
     have hcl := Lib.hid (Clone_any (vF V p) wr (by omega))
     have happ := Lib.hid (show ∀ W, Below wr.heap.size wr W → _ from fun W BW => OwnG.snoc2 eE_len eE_one (by omega) 23 23 Tryd.underlying23 hj hj0 hj1 hj2 rfl W W3.heap.size _ _ _ _ ((p : Int), vF V p) (ot.below BW) (oa.below BW) hd (by omega) (by omega) (Nat.le_trans Bs BW.size))
     have e1h := Lib.hid e1
     have e2h := Lib.hid e2
     have Bh := Lib.hid B
     clear hyes hno hz e1 e2 ot oa hd hj hj0 hj1 hj2 B
     generalize vF V p = s at *
     go_wp2_with fail
     refine hcl.out.mono ?_
     rintro e W ⟨rfl, bW⟩
     obtain ⟨v', w', ⟨z1, z2, z3, rfl⟩, hr, h1, h2, h3, h4⟩ := happ.out W bW
     have hr : (Builtin.append_ #[23, 23] 23 #[.slice x1 x2 x3, .slice (some ⟨W.heap.size, 0, none⟩) 1 1]).run Tryd.prog (W.alloc (.cells #[.int .i64 (p : Int), .string ⟨s.toArray⟩] 46)) = .ok (.slice z1 z2 z3) w' := hr
     have hend := Lib.hid (show OE w' W3.heap.size (.slice z1 z2 z3) (rdE V (ks.take (n + 1))) ∧ OI w' W3.heap.size (.slice y1 y2 y3) (rdA V (ks.take (n + 1))) ∧ Dj (.slice z1 z2 z3) (.slice y1 y2 y3) ∧ Below W3.heap.size W3 w' from ⟨by rw [e1h.out]; exact h1, by rw [e2h.out]; exact h2, h3, (Bh.out.trans (bW.mono Bh.out.size)).trans h4⟩)
     clear h1 h2 h3 h4 bW hcl happ e1h e2h
     go_wp2_with (at_builtin; refine wpList_append_runB rfl (.tmp 36) (.tmp 43) 23 rfl (.slice x1 x2 x3) (.slice (some ⟨W.heap.size, 0, none⟩) 1 1) rfl rfl _ _ hr ?_)
     go_roundw
     case rel => exact ⟨n + 1, by omega, by go_num, ⟨_, _, _, rfl⟩, ⟨_, _, _, rfl⟩, hend.out⟩
     case measure => simp [intOf]; omega
   ·have hfull : ks.take n = ks := List.take_of_length_le (by rw [← hn1.out]; omega)
    rw [hfull] at ot oa
    have hend := Lib.hid (hgood.out _ _ wr (OwnG.SL eE_len ot) (OwnG.SL eI_len oa) B)
    have i1 : ¬ (n : Int) < (n1 : Int) := by omega
    clear hfull ot oa hd B hgood hka cE fR
    go_wp2_with fail
    go_ret3
    exact hend.out
end Go.Proofs.YtegahpfmkepfmaaDoor
