import Derived.Test.YtegahpfmkepfmaaDoorBa
import Derived.BigQuiet
namespace Go.Proofs.YtegahpfmkepfmaaDoor
open Go.RowKit
def BentPost (w : World) (e : Ending) (w' : World) : Prop := ∃ vo ks vs ps, e = .returned vo ∧ OpV w' vo ks vs ps ∧ OBd ks vs ps ∧ Below w.heap.size w w'
set_option linter.unusedVariables false in
set_option linter.unusedSimpArgs false in
set_option maxRecDepth 100000 in
set_option maxHeartbeats 40000000 in
theorem bent_any (vo : Value) (ks : List Int) (vs ps : List Str) (h0 h1 h2 : Int) (w : World) {W0 : World} (ho : OpV W0 vo ks vs ps) (hW : W0 = w) (hob : OBd ks vs ps) (hh0 : I64 h0) (hh1 : I64 h1) (hh2 : I64 h2) :
  Calls Tryd.prog 22 #[vo, .agg #[.int .i64 h0, .int .i64 h1, .int .i64 h2]] w (BentPost w) := by
 subst hW
 have hO := Lib.hid hob
 obtain ⟨hk, hlen, hp, _⟩ := hob
 obtain ⟨a, b, c, rfl, ha, hb, hc⟩ := ho
 have fa := Lib.hid (fun W (B : Below W0.heap.size W0 W) => ha.below B)
 have fb := Lib.hid (fun W (B : Below W0.heap.size W0 W) => hb.below B)
 have fc := Lib.hid (fun W (B : Below W0.heap.size W0 W) => hc.below B)
 obtain ⟨a1, n1, a2, rfl, hN1⟩ := ha.shape'
 obtain ⟨b1, n2, b2, rfl, hN2⟩ := hb.shape'
 obtain ⟨c1, n3, c2, rfl, hN3⟩ := hc.shape'
 have hn12 : n2 = n1 := by rw [hN2.out, hN1.out]; exact hlen
 subst hn12
 have hn64 : n2 ≤ 64 := by rw [hN1.out]; exact hk
 have hp64 : n3 ≤ 64 := by rw [hN3.out]; exact hp
 clear ha hb hc hlen hk hp
 go_enter Tryd.func22, Tryd.ntmps22
 go_upto_region 1 with (fail)
 obtain ⟨wo, hwo⟩ : ∃ w, w = ((W0.alloc (.cells #[.slice a1 n2 a2, .slice b1 n2 b2, .slice c1 n3 c2] 37)).alloc (.cells #[.int .i64 h0, .int .i64 h1, .int .i64 h2] 42)).alloc (.cells #[.slice none 0 0, .slice none 0 0, .slice none 0 0] 37) := ⟨_, rfl⟩
 rw [← hwo]
 have bo : Below W0.heap.size W0 wo := by rw [hwo]; exact (((Below.refl _ _).alloc (Nat.le_refl _) _).alloc (by simp only [World.size_alloc]; omega) _).alloc (by simp only [World.size_alloc]; omega) _
 have zo : wo.heap.size = W0.heap.size + 3 := by rw [hwo]; simp
 have hb2 : wo.heap[W0.heap.size]? = some (.cells #[.slice a1 n2 a2, .slice b1 n2 b2, .slice c1 n3 c2] 37 (0, 0)) := by rw [hwo]; exact ((((Below.refl (W0.heap.size + 2) _).alloc (by simp) _).block W0.heap.size (by omega)).trans ((((Below.refl (W0.heap.size + 1) _).alloc (by simp) _).block W0.heap.size (by omega)).trans (heap_alloc_new W0 _)))
 have hb3 : wo.heap[W0.heap.size + 1]? = some (.cells #[.int .i64 h0, .int .i64 h1, .int .i64 h2] 42 (0, 0)) := by rw [hwo]; exact ((((Below.refl (W0.heap.size + 2) _).alloc (by simp) _).block (W0.heap.size + 1) (by omega)).trans (by have := heap_alloc_new (W0.alloc (.cells #[.slice a1 n2 a2, .slice b1 n2 b2, .slice c1 n3 c2] 37)) (.cells #[.int .i64 h0, .int .i64 h1, .int .i64 h2] 42); simpa using this))
 have hb4 : wo.heap[W0.heap.size + 1 + 1]? = some (.cells #[.slice none 0 0, .slice none 0 0, .slice none 0 0] 37 (0, 0)) := by rw [hwo]; have := heap_alloc_new ((W0.alloc (.cells #[.slice a1 n2 a2, .slice b1 n2 b2, .slice c1 n3 c2] 37)).alloc (.cells #[.int .i64 h0, .int .i64 h1, .int .i64 h2] 42)) (.cells #[.slice none 0 0, .slice none 0 0, .slice none 0 0] 37); simpa using this
 clear hwo
 obtain ⟨g2, hg2⟩ : ∃ g, W0.heap.size = g := ⟨_, rfl⟩
 have toW := Lib.hid (show ∀ W, Below wo.heap.size wo W → Below W0.heap.size W0 W from fun W B => bo.trans (B.mono bo.size))
 have cb := Lib.hid (show ∀ W, Below wo.heap.size wo W → W.cell? ⟨g2, 0, none⟩ = some (.slice a1 n2 a2) ∧ W.cell? ⟨g2, 1, none⟩ = some (.slice b1 n2 b2) ∧ W.cell? ⟨g2, 2, none⟩ = some (.slice c1 n3 c2) from fun W B => by
  rw [hg2] at hb2
  have := (B.block g2 (by omega)).trans hb2
  exact ⟨cell_of_row W g2 0 _ 37 (0, 0) this, cell_of_row W g2 1 _ 37 (0, 0) this, cell_of_row W g2 2 _ 37 (0, 0) this⟩)
 have ch := Lib.hid (show ∀ W, Below wo.heap.size wo W → W.cell? ⟨g2 + 1, 0, none⟩ = some (.int .i64 h0) ∧ W.cell? ⟨g2 + 1, 1, none⟩ = some (.int .i64 h1) ∧ W.cell? ⟨g2 + 1, 2, none⟩ = some (.int .i64 h2) from fun W B => by
  rw [hg2] at hb3
  have := (B.block (g2 + 1) (by omega)).trans hb3
  exact ⟨cell_of_row W (g2 + 1) 0 _ 42 (0, 0) this, cell_of_row W (g2 + 1) 1 _ 42 (0, 0) this, cell_of_row W (g2 + 1) 2 _ 42 (0, 0) this⟩)
 have c4 := Lib.hid (show ∀ W, Below wo.heap.size wo W → W.heap[g2 + 1 + 1]? = some (.cells #[.slice none 0 0, .slice none 0 0, .slice none 0 0] 37 (0, 0)) from fun W B => by
  rw [hg2] at hb4
  exact (B.block (g2 + 1 + 1) (by omega)).trans hb4)
 have zoh := Lib.hid zo
 rw [hg2]
 clear hb2 hb3 hb4 bo zo
 have hg2 := Lib.hid hg2
 rename_i x1
 clear x1
 refine wp_region_F (fun w' : World => w'.cell? ⟨g2, 0, none⟩ = some (.slice a1 n2 a2) ∧ w'.cell? ⟨g2, 1, none⟩ = some (.slice b1 n2 b2) ∧ w'.cell? ⟨g2, 2, none⟩ = some (.slice c1 n3 c2)) 14 (by kernel_rfl) (cb.out _ (Below.refl _ wo).drew) (fun hHeld => ?_)
 refine bent_copies _ ks vs ps h0 h1 h2 W0 wo a1 b1 c1 n2 a2 b2 n3 c2 g2 hN1 hN2 hN3 hn64 hp64 fa fb fc toW cb (fun _ _ _ _ _ h => h) ?_
 intro w hB m0 g0' x1 x2 x3 q0 m1 g1' y1 y2 y3 q1 m2 g2' u1 u2 u3 q2 gA q3 d01 d02 d03 d12 d13 d23
 obtain ⟨e0a, e0b, e0⟩ := (OwnG.SL eI_len q0.2.2.1).shape
 obtain ⟨e1a, e1b, e1⟩ := (OwnG.SL eS_len q1.2.2.1).shape
 obtain ⟨e2a, e2b, e2⟩ := (OwnG.SL eS_len q2.2.2.1).shape
 have hx2 : n2 = x2 := by injection e0 with _ e0 _; rw [e0, hN1.out]
 have hy2 : n2 = y2 := by injection e1 with _ e1 _; rw [e1, hN2.out]
 have hu2 : n3 = u2 := by injection e2 with _ e2 _; rw [e2, hN3.out]
 clear e0 e1 e2
 subst hx2 hy2 hu2
 obtain ⟨wn, hwn⟩ : ∃ W, W = w.setRow gA #[.slice x1 n2 x3, .slice y1 n2 y3, .slice u1 n3 u3] := ⟨_, rfl⟩
 rw [← hwn]
 have F : Frm w wn gA := by rw [hwn]; exact Frm.setRow _ _ _
 have r0 := Lib.hid (q0.keep F d03)
 have r1 := Lib.hid (q1.keep F d13)
 have r2 := Lib.hid (q2.keep F d23)
 have bA := Lib.hid (show wn.heap[gA]? = some (.cells #[.slice x1 n2 x3, .slice y1 n2 y3, .slice u1 n3 u3] 37 (0, 0)) by rw [hwn]; exact setRow_heap _ _ _ _ _ _ q3.2.2)
 have Bn := Lib.hid (show Below wo.heap.size wo wn by rw [hwn]; exact below_setRow hB q3.1 _)
 have hgA := Lib.hid q3.1
 have hgAs := Lib.hid (show gA < wn.heap.size from Nat.lt_of_lt_of_le q3.2.1 F.1)
 have hg4 : Hid (g2 + 1 + 1 < wo.heap.size) := by show _ < _; have := zoh.out; have := hg2.out; omega
 have hg5 : Hid (W0.heap.size ≤ g2 + 1 + 1) := by show _ ≤ _; have := hg2.out; omega
 have gz0 := Lib.hid q0.1
 have gz1 := Lib.hid q1.1
 have gz2 := Lib.hid q2.1
 clear q0 q1 q2 q3 F hwn hB
 dsimp only
 obtain ⟨f0, f1, f2⟩ : wn.cell? ⟨gA, 0, none⟩ = some (.slice x1 n2 x3) ∧ wn.cell? ⟨gA, 1, none⟩ = some (.slice y1 n2 y3) ∧ wn.cell? ⟨gA, 2, none⟩ = some (.slice u1 n3 u3) := ⟨cell_of_row _ _ 0 _ 37 (0, 0) bA.out, cell_of_row _ _ 1 _ 37 (0, 0) bA.out, cell_of_row _ _ 2 _ 37 (0, 0) bA.out⟩
 obtain ⟨e0, e1, e2⟩ := ch.out wn Bn.out
 have p0 := Lib.hid (fun W => Wr.pick_any h0 7 W hh0.1 hh0.2 (by omega) (by omega))
 obtain ⟨s, hs, hs7⟩ : ∃ s : Nat, Wr.pk h0 7 = (s : Int) ∧ s < 7 := ⟨(Wr.pk h0 7).toNat, by have := Wr.pk_lo h0 7 (by omega); omega, by have := Wr.pk_lo h0 7 (by omega); have := Wr.pk_lt h0 7 (by omega); omega⟩
 rw [hs] at p0
 clear hs
 by_cases cA : 0 < n2
 ·skip
  have tA : (0 : Int) < (n2 : Int) := by omega
  have pk := Lib.hid (fun W => Wr.pick_any h1 (n2 : Int) W hh1.1 hh1.2 (by omega) (by omega))
  obtain ⟨k, hk, kl⟩ : ∃ j : Nat, Wr.pk h1 (n2 : Int) = (j : Int) ∧ j < n2 := ⟨(Wr.pk h1 (n2 : Int)).toNat, by have := Wr.pk_lo h1 (n2 : Int) (by omega); omega, by have := Wr.pk_lo h1 (n2 : Int) (by omega); have := Wr.pk_lt h1 (n2 : Int) (by omega); omega⟩
  rw [hk] at pk
  clear hk
  by_cases cB : 0 < n3
  ·skip
   have tB : (0 : Int) < (n3 : Int) := by omega
   have pn := Lib.hid (fun W => Wr.pick_any h1 (n3 : Int) W hh1.1 hh1.2 (by omega) (by omega))
   obtain ⟨n, hn, nl⟩ : ∃ j : Nat, Wr.pk h1 (n3 : Int) = (j : Int) ∧ j < n3 := ⟨(Wr.pk h1 (n3 : Int)).toNat, by have := Wr.pk_lo h1 (n3 : Int) (by omega); omega, by have := Wr.pk_lo h1 (n3 : Int) (by omega); have := Wr.pk_lt h1 (n3 : Int) (by omega); omega⟩
   rw [hn] at pn
   clear hn
   go_wp2_with fail
   refine (pk.out _).mono ?_
   rintro e w' ⟨rfl, rfl⟩
   go_wp2_with fail
   refine (pn.out _).mono ?_
   rintro e w' ⟨rfl, rfl⟩
   go_wp2_with fail
   refine (p0.out _).mono ?_
   rintro e w' ⟨rfl, rfl⟩
   have hs' : s = 0 ∨ s = 1 ∨ s = 2 ∨ s = 3 ∨ s = 4 ∨ s = 5 ∨ s = 6 := by omega
   rcases hs' with rfl | rfl | rfl | rfl | rfl | rfl | rfl
   ·skip
    obtain ⟨hx1, hxq, hxc⟩ := RowK.openI r0.out (by rw [← hN1.out]; omega)
    subst hx1
    clear hxq
    have hkl : k < ks.length := by rw [← hN1.out]; exact kl
    have i0 : (0 : Int) ≤ (k : Int) := by omega
    have i1 : (k : Int) < (n2 : Int) := by omega
    have p2 := Lib.hid (fun W => Wr.pick_any h2 (66 : Int) W hh2.1 hh2.2 (by omega) (by omega))
    obtain ⟨y, hy, yl⟩ : ∃ j : Nat, Wr.pk h2 (66 : Int) = (j : Int) ∧ j < 66 := ⟨(Wr.pk h2 (66 : Int)).toNat, by have := Wr.pk_lo h2 (66 : Int) (by omega); omega, by have := Wr.pk_lo h2 (66 : Int) (by omega); have := Wr.pk_lt h2 (66 : Int) (by omega); omega⟩
    rw [hy] at p2
    clear hy
    have z0 : (0 : Int) ≤ (y : Int) := by omega
    have z1 : (y : Int) < 66 := by omega
    have rd := r0.out.keep (Frm.of_below (Below.refl wn.heap.size wn).drew) (by have := r0.out.2.1; omega)
    obtain ⟨cd, fd⟩ := rd.cellI k hkl
    have F1 : Frm wn (wn.drew.setCell ⟨g0', k, none⟩ (.int .i64 ((y : Int) - 1))) g0' := (Frm.drew wn g0').trans (Frm.setCell _ _ _ _)
    have n0 := Lib.hid (rd.setI k hkl ((y : Int) - 1))
    have n1 := Lib.hid (r1.out.keep F1 (Ne.symm d01))
    have n2' := Lib.hid (r2.out.keep F1 (Ne.symm d02))
    have nA := Lib.hid ((F1.2 gA hgAs.out (Ne.symm d03)).trans bA.out)
    have nB := Lib.hid (show Below wo.heap.size wo (wn.drew.setCell ⟨g0', k, none⟩ (.int .i64 ((y : Int) - 1))) from (Bn.out.drew).setCell (by have := gz0.out; simpa using this) _)
    have nO := Lib.hid (hO.out.setK k ((y : Int) - 1) (by unfold I64; omega))
    have hS0 := Lib.hid (show wn.drew.cell? ⟨gA, 0, none⟩ = some (.slice (some ⟨g0', 0, none⟩) n2 x3) ∧ wn.drew.cell? ⟨g2 + 1, 2, none⟩ = some (.int .i64 h2) from ⟨f0, e2⟩)
    clear rd F1
    go_wp2_with fail
    refine wp_region_F (fun w' : World => w'.cell? ⟨gA, 0, none⟩ = some (.slice (some ⟨g0', 0, none⟩) n2 x3) ∧ w'.cell? ⟨g2 + 1, 2, none⟩ = some (.int .i64 h2)) 8 (by kernel_rfl) hS0.out (fun hHeld => ?_)
    refine takeA (i := 0) (oi := { dst := some 51, op := .fieldAddr 37 (.tmp 5) 0, type := _, pos := _, after := _, guard := none }) (v := ?_) rfl (Or.inl ⟨by rfl, ?_⟩) (by assumption) ?_
    rotate_left
    ·(intro w hSw; (try dsimp only at hSw); go_simp) <;> with_reducible rfl
    try simp only [Act.put, zT, z0, zS]
    refine takeA (i := 1) (oi := { dst := some 52, op := .load 24 (.tmp 51), type := _, pos := _, after := _, guard := none }) (v := ?_) rfl (Or.inl ⟨by rfl, ?_⟩) (by assumption) ?_
    rotate_left
    ·(intro w hSw; (try dsimp only at hSw); go_simp) <;> with_reducible rfl
    try simp only [Act.put, zT, z0, zS]
    refine takeA (i := 2) (oi := { dst := some 53, op := .move (.tmp 6), type := _, pos := _, after := _, guard := none }) (v := ?_) rfl (Or.inl ⟨by rfl, ?_⟩) (by assumption) ?_
    rotate_left
    ·(intro w hSw; (try dsimp only at hSw); go_simp) <;> with_reducible rfl
    try simp only [Act.put, zT, z0, zS]
    refine takeA (i := 3) (oi := { dst := some 54, op := .indexAddr 42 (.tmp 3) ((Operand.const (Value.int IntKind.i64 2))), type := _, pos := _, after := _, guard := none }) (v := ?_) rfl (Or.inl ⟨by rfl, ?_⟩) (by assumption) ?_
    rotate_left
    ·(intro w hSw; (try dsimp only at hSw); go_simp) <;> with_reducible rfl
    try simp only [Act.put, zT, z0, zS]
    refine takeA (i := 4) (oi := { dst := some 55, op := .load 3 (.tmp 54), type := _, pos := _, after := _, guard := none }) (v := ?_) rfl (Or.inl ⟨by rfl, ?_⟩) (by assumption) ?_
    rotate_left
    ·(intro w hSw; (try dsimp only at hSw); go_simp) <;> with_reducible rfl
    try simp only [Act.put, zT, z0, zS]
    refine wpAnyF_ready (rs := [5]) (by kernel_rfl) (by simp) ?_
    refine AllReadyF.cons (o := { dst := some 56, op := .call { callee := .value (.func 21), args := #[(.tmp 55), (Operand.const (Value.int IntKind.i64 66))], argTypes := #[3, 3] }, type := _, pos := _, after := _, guard := none }) rfl (fun K hK => ?_) ?_
    ·skip
     go_simp
     refine (p2.out _).mono ?_
     rintro e w' ⟨rfl, rfl⟩
     go_wp2_with fail
     refine hK.out _ _ ?_ (fun hHeld => ?_)
     ·exact hHeld
     clear hK K
     try simp only [Act.put, zT, z0, zS]
     refine takeA (i := 6) (oi := { dst := some 57, op := .binOp BinOp.sub 3 (.tmp 56) ((Operand.const (Value.int IntKind.i64 1))) 3, type := _, pos := _, after := _, guard := none }) (v := ?_) rfl (Or.inl ⟨by rfl, ?_⟩) (by assumption) ?_
     rotate_left
     ·(intro w hSw; (try dsimp only at hSw); go_simp) <;> with_reducible rfl
     try simp only [Act.put, zT, z0, zS]
     refine takeA (i := 7) (oi := { dst := some 58, op := .indexAddr 24 (.tmp 52) (.tmp 53), type := _, pos := _, after := _, guard := none }) (v := ?_) rfl (Or.inl ⟨by rfl, ?_⟩) (by assumption) ?_
     rotate_left
     ·(intro w hSw; (try dsimp only at hSw); go_simp) <;> with_reducible rfl
     try simp only [Act.put, zT, z0, zS]
     refine wpAnyF_ready (rs := [8]) (by kernel_rfl) (by simp) ?_
     refine AllReadyF.last (o := { dst := none, op := .store 3 (.tmp 58) (.tmp 57), type := _, pos := _, after := _, guard := none }) rfl (fun K hK => ?_) ?_
     ·skip
      go_simp
      go_wp2_with fail
      refine hK.out _ _ ?_
      clear hK K
      try simp only [Act.put, zT, z0, zS]
      refine wpAnyF_done (by kernel_rfl) ?_ _
      have gAh := Lib.hid (show ((wn.drew.setCell ⟨g0', k, none⟩ (.int .i64 ((y : Int) - 1)))).heap[gA]? = some (.cells #[.slice (some ⟨g0', 0, none⟩) n2 x3, .slice y1 n2 y3, .slice u1 n3 u3] 37 (0, 0)) from nA.out)
      have Bf := Lib.hid (show Below wo.heap.size wo ((wn.drew.setCell ⟨g0', k, none⟩ (.int .i64 ((y : Int) - 1)))) from nB.out)
      have g4h := Lib.hid (c4.out _ Bf.out)
      have hend := Lib.hid (show OpV (((wn.drew.setCell ⟨g0', k, none⟩ (.int .i64 ((y : Int) - 1)))).setRow (g2 + 1 + 1) #[.slice (some ⟨g0', 0, none⟩) n2 x3, .slice y1 n2 y3, .slice u1 n3 u3]) (.agg #[.slice (some ⟨g0', 0, none⟩) n2 x3, .slice y1 n2 y3, .slice u1 n3 u3]) (ks.set k ((y : Int) - 1)) (vs) (ps) ∧ OBd (ks.set k ((y : Int) - 1)) (vs) (ps) ∧ Below W0.heap.size W0 (((wn.drew.setCell ⟨g0', k, none⟩ (.int .i64 ((y : Int) - 1)))).setRow (g2 + 1 + 1) #[.slice (some ⟨g0', 0, none⟩) n2 x3, .slice y1 n2 y3, .slice u1 n3 u3]) from ⟨⟨_, _, _, rfl, (SLB.frm (n0.out.SLB eI_len) (Frm.setRow _ _ _) (.inl hg4.out)).SL, (SLB.frm (n1.out.SLB eS_len) (Frm.setRow _ _ _) (.inl hg4.out)).SL, (SLB.frm (n2'.out.SLB eS_len) (Frm.setRow _ _ _) (.inl hg4.out)).SL⟩, nO.out, below_setRow (toW.out _ Bf.out) hg5.out _⟩)
      clear r0 r1 r2 bA
      go_wp2_with (first
       | (refine wpList_load_row rfl 37 (.tmp 5) rfl gA rfl 37 #[.slice (some ⟨g0', 0, none⟩) n2 x3, .slice y1 n2 y3, .slice u1 n3 u3] (0, 0) _ gAh.out Tryd.underlying37 rfl size37 ?_)
       | (refine wpList_store_row rfl 37 (.tmp 4) (.tmp 172) rfl (g2 + 1 + 1) #[.slice (some ⟨g0', 0, none⟩) n2 x3, .slice y1 n2 y3, .slice u1 n3 u3] rfl rfl 37 _ g4h.out size37 rfl (by simp [Value.oneCell']) ?_))
      refine bodyPost_ret (v := _) (results_cell_row (fn := Tryd.f22) rfl _ _ (g2 + 1 + 1) 37 #[.slice (some ⟨g0', 0, none⟩) n2 x3, .slice y1 n2 y3, .slice u1 n3 u3] (0, 0) _ rfl (setRow_heap _ _ _ _ _ _ g4h.out) Tryd.underlying37 rfl size37) rfl ?_
      exact ⟨_, _, _, _, rfl, hend.out⟩
     exact AllReadyF.nil
    exact AllReadyF.nil
   ·skip
    obtain ⟨hx1, hxq, hxc⟩ := RowK.openS r1.out (by rw [← hN2.out]; omega)
    subst hx1
    clear hxq
    have hkl : k < vs.length := by rw [← hN2.out]; exact kl
    have i0 : (0 : Int) ≤ (k : Int) := by omega
    have i1 : (k : Int) < (n2 : Int) := by omega
    have p2 := Lib.hid (fun W => Wr.pick_any h2 (3 : Int) W hh2.1 hh2.2 (by omega) (by omega))
    obtain ⟨y, hy, yl⟩ : ∃ j : Nat, Wr.pk h2 (3 : Int) = (j : Int) ∧ j < 3 := ⟨(Wr.pk h2 (3 : Int)).toNat, by have := Wr.pk_lo h2 (3 : Int) (by omega); omega, by have := Wr.pk_lo h2 (3 : Int) (by omega); have := Wr.pk_lt h2 (3 : Int) (by omega); omega⟩
    rw [hy] at p2
    clear hy
    have z0 : (0 : Int) ≤ (y : Int) := by omega
    have z1 : (y : Int) < 3 := by omega
    have s1h : ([.string ⟨#[]⟩, .string ⟨#[97]⟩, .string ⟨#[122, 122]⟩] : List Value)[y]? = some (.string ⟨(sz3 y).toArray⟩) := sz3_at y (by omega)
    have hsl := sz3_len y
    generalize sz3 y = Z at *
    have lA := hgAs.out
    have l0 := r0.out.2.1
    have l1 := r1.out.2.1
    have l2 := r2.out.2.1
    have Ba : Below wn.heap.size wn ((wn.alloc (.cells #[.string ⟨#[]⟩, .string ⟨#[97]⟩, .string ⟨#[122, 122]⟩] 9)).drew) := ((Below.refl wn.heap.size wn).alloc (Nat.le_refl _) _).drew
    have F8 := Frm.of_below Ba
    have rd := r1.out.keep F8 (by omega)
    obtain ⟨cd, fd⟩ := rd.cellS k hkl
    have F9 := Frm.setCell ((wn.alloc (.cells #[.string ⟨#[]⟩, .string ⟨#[97]⟩, .string ⟨#[122, 122]⟩] 9)).drew) g1' k (.string ⟨Z.toArray⟩)
    have n0 := Lib.hid (((r0.out.keep F8 (by omega)).keep F9 d01).SLB eI_len)
    have n1 := Lib.hid ((rd.setS k hkl Z).SLB eS_len)
    have n2' := Lib.hid (((r2.out.keep F8 (by omega)).keep F9 (Ne.symm d12)).SLB eS_len)
    have nA := Lib.hid ((F9.2 gA (Nat.lt_of_lt_of_le lA Ba.size) (Ne.symm d13)).trans ((Ba.block gA lA).trans bA.out))
    have nB := Lib.hid (show Below wo.heap.size wo (((wn.alloc (.cells #[.string ⟨#[]⟩, .string ⟨#[97]⟩, .string ⟨#[122, 122]⟩] 9)).drew).setCell ⟨g1', k, none⟩ (.string ⟨Z.toArray⟩)) from (Bn.out.trans (Ba.mono Bn.out.size)).setCell (by have := gz1.out; simpa using this) _)
    have nO := Lib.hid (hO.out.setV k Z (by omega))
    have sK := Lib.hid (show ∀ W, Below wn.heap.size wn W → W.cell? ⟨gA, 1, none⟩ = some (.slice (some ⟨g1', 0, none⟩) n2 y3) ∧ W.cell? ⟨g2 + 1, 2, none⟩ = some (.int .i64 h2) from fun W BW => ⟨cell_of_row _ _ 1 _ 37 (0, 0) ((BW.block gA lA).trans bA.out), (ch.out W (Bn.out.trans (BW.mono Bn.out.size))).2.2⟩)
    have sA := Lib.hid (sK.out _ Ba)
    have cL : ((wn.alloc (.cells #[.string ⟨#[]⟩, .string ⟨#[97]⟩, .string ⟨#[122, 122]⟩] 9)).drew).cell? ⟨wn.heap.size, y, none⟩ = some (.string ⟨Z.toArray⟩) := (cell_of_row _ _ y _ 9 (0, 0) (show ((wn.alloc (.cells #[.string ⟨#[]⟩, .string ⟨#[97]⟩, .string ⟨#[122, 122]⟩] 9)).drew).heap[wn.heap.size]? = _ from heap_alloc_new wn _)).trans (by simpa using s1h)
    clear rd F8 F9 Ba lA l0 l1 l2
    go_wp2_with fail
    refine wp_region_F (fun w' : World => w'.cell? ⟨gA, 1, none⟩ = some (.slice (some ⟨g1', 0, none⟩) n2 y3) ∧ w'.cell? ⟨g2 + 1, 2, none⟩ = some (.int .i64 h2)) 10 (by kernel_rfl) (sK.out _ (Below.refl _ wn).drew) (fun hHeld => ?_)
    refine takeA (i := 0) (oi := { dst := some 65, op := .fieldAddr 37 (.tmp 5) 1, type := _, pos := _, after := _, guard := none }) (v := ?_) rfl (Or.inl ⟨by rfl, ?_⟩) (by assumption) ?_
    rotate_left
    ·(intro w hSw; (try dsimp only at hSw); go_simp) <;> with_reducible rfl
    try simp only [Act.put, zT, z0, zS]
    refine takeA (i := 1) (oi := { dst := some 66, op := .load 35 (.tmp 65), type := _, pos := _, after := _, guard := none }) (v := ?_) rfl (Or.inl ⟨by rfl, ?_⟩) (by assumption) ?_
    rotate_left
    ·(intro w hSw; (try dsimp only at hSw); go_simp) <;> with_reducible rfl
    try simp only [Act.put, zT, z0, zS]
    refine takeA (i := 2) (oi := { dst := some 67, op := .move (.tmp 6), type := _, pos := _, after := _, guard := none }) (v := ?_) rfl (Or.inl ⟨by rfl, ?_⟩) (by assumption) ?_
    rotate_left
    ·(intro w hSw; (try dsimp only at hSw); go_simp) <;> with_reducible rfl
    try simp only [Act.put, zT, z0, zS]
    refine takeA (i := 4) (oi := { dst := some 69, op := .indexAddr 42 (.tmp 3) ((Operand.const (Value.int IntKind.i64 2))), type := _, pos := _, after := _, guard := none }) (v := ?_) rfl (Or.inl ⟨by rfl, ?_⟩) (by assumption) ?_
    rotate_left
    ·(intro w hSw; (try dsimp only at hSw); go_simp) <;> with_reducible rfl
    try simp only [Act.put, zT, z0, zS]
    refine takeA (i := 5) (oi := { dst := some 70, op := .load 3 (.tmp 69), type := _, pos := _, after := _, guard := none }) (v := ?_) rfl (Or.inl ⟨by rfl, ?_⟩) (by assumption) ?_
    rotate_left
    ·(intro w hSw; (try dsimp only at hSw); go_simp) <;> with_reducible rfl
    try simp only [Act.put, zT, z0, zS]
    refine wpAnyF_ready (rs := [3, 6]) (by kernel_rfl) (by simp) ?_
    refine AllReadyF.cons (o := { dst := some 68, op := .buildSlice 35 3 #[(0, (Operand.const (Value.string { data := #[] }))), (1, (Operand.const (Value.string { data := #[97] }))), (2, (Operand.const (Value.string { data := #[122, 122] })))], type := _, pos := _, after := _, guard := none }) rfl (fun K hK => ?_) ?_
    ·skip
     go_simp
     go_wp2_with fail
     refine hK.out _ _ sA.out (fun hHeld => ?_)
     clear hK K
     try simp only [Act.put, zT, z0, zS]
     refine wpAnyF_ready (rs := [6]) (by kernel_rfl) (by simp) ?_
     refine AllReadyF.cons (o := { dst := some 71, op := .call { callee := .value (.func 21), args := #[(.tmp 70), (Operand.const (Value.int IntKind.i64 3))], argTypes := #[3, 3] }, type := _, pos := _, after := _, guard := none }) rfl (fun K hK => ?_) ?_
     ·skip
      go_simp
      refine (p2.out _).mono ?_
      rintro e w' ⟨rfl, rfl⟩
      go_wp2_with fail
      refine hK.out _ _ hHeld (fun hHeld => ?_)
      clear hK K
      try simp only [Act.put, zT, z0, zS]
      obtain ⟨wA, hwA⟩ : ∃ W, W = (wn.alloc (.cells #[.string ⟨#[]⟩, .string ⟨#[97]⟩, .string ⟨#[122, 122]⟩] 9)).drew := ⟨_, rfl⟩
      rw [← hwA] at cd fd n0 n1 n2' nA nB sA cL ⊢
      clear hwA s1h
      refine takeA (i := 7) (oi := { dst := some 72, op := .indexAddr 35 (.tmp 68) (.tmp 71), type := _, pos := _, after := _, guard := none }) (v := ?_) rfl (Or.inl ⟨by rfl, ?_⟩) (by assumption) ?_
      rotate_left
      ·(intro w hSw; (try dsimp only at hSw); go_simp) <;> with_reducible rfl
      try simp only [Act.put, zT, z0, zS]
      refine wpAnyF_ready (rs := [8]) (by kernel_rfl) (by simp) ?_
      refine AllReadyF.cons (o := { dst := some 73, op := .load 9 (.tmp 72), type := _, pos := _, after := _, guard := none }) rfl (fun K hK => ?_) ?_
      ·skip
       go_simp
       go_wp2_with fail
       refine hK.out _ _ sA.out (fun hHeld => ?_)
       clear hK K
       try simp only [Act.put, zT, z0, zS]
       refine takeA (i := 9) (oi := { dst := some 74, op := .indexAddr 35 (.tmp 66) (.tmp 67), type := _, pos := _, after := _, guard := none }) (v := ?_) rfl (Or.inl ⟨by rfl, ?_⟩) (by assumption) ?_
       rotate_left
       ·(intro w hSw; (try dsimp only at hSw); go_simp) <;> with_reducible rfl
       try simp only [Act.put, zT, z0, zS]
       refine wpAnyF_ready (rs := [10]) (by kernel_rfl) (by simp) ?_
       refine AllReadyF.last (o := { dst := none, op := .store 9 (.tmp 74) (.tmp 73), type := _, pos := _, after := _, guard := none }) rfl (fun K hK => ?_) ?_
       ·skip
        go_simp
        go_wp2_with fail
        refine hK.out _ _ ?_
        clear hK K
        try simp only [Act.put, zT, z0, zS]
        refine wpAnyF_done (by kernel_rfl) ?_ _
        have gAh := Lib.hid (show ((wA.setCell ⟨g1', k, none⟩ (.string ⟨Z.toArray⟩))).heap[gA]? = some (.cells #[.slice x1 n2 x3, .slice (some ⟨g1', 0, none⟩) n2 y3, .slice u1 n3 u3] 37 (0, 0)) from nA.out)
        have Bf := Lib.hid (show Below wo.heap.size wo ((wA.setCell ⟨g1', k, none⟩ (.string ⟨Z.toArray⟩))) from nB.out)
        have g4h := Lib.hid (c4.out _ Bf.out)
        have hend := Lib.hid (show OpV (((wA.setCell ⟨g1', k, none⟩ (.string ⟨Z.toArray⟩))).setRow (g2 + 1 + 1) #[.slice x1 n2 x3, .slice (some ⟨g1', 0, none⟩) n2 y3, .slice u1 n3 u3]) (.agg #[.slice x1 n2 x3, .slice (some ⟨g1', 0, none⟩) n2 y3, .slice u1 n3 u3]) (ks) (vs.set k Z) (ps) ∧ OBd (ks) (vs.set k Z) (ps) ∧ Below W0.heap.size W0 (((wA.setCell ⟨g1', k, none⟩ (.string ⟨Z.toArray⟩))).setRow (g2 + 1 + 1) #[.slice x1 n2 x3, .slice (some ⟨g1', 0, none⟩) n2 y3, .slice u1 n3 u3]) from ⟨⟨_, _, _, rfl, (SLB.frm n0.out (Frm.setRow _ _ _) (.inl hg4.out)).SL, (SLB.frm n1.out (Frm.setRow _ _ _) (.inl hg4.out)).SL, (SLB.frm n2'.out (Frm.setRow _ _ _) (.inl hg4.out)).SL⟩, nO.out, below_setRow (toW.out _ Bf.out) hg5.out _⟩)
        clear r0 r1 r2 bA
        go_wp2_with (first
         | (refine wpList_load_row rfl 37 (.tmp 5) rfl gA rfl 37 #[.slice x1 n2 x3, .slice (some ⟨g1', 0, none⟩) n2 y3, .slice u1 n3 u3] (0, 0) _ gAh.out Tryd.underlying37 rfl size37 ?_)
         | (refine wpList_store_row rfl 37 (.tmp 4) (.tmp 172) rfl (g2 + 1 + 1) #[.slice x1 n2 x3, .slice (some ⟨g1', 0, none⟩) n2 y3, .slice u1 n3 u3] rfl rfl 37 _ g4h.out size37 rfl (by simp [Value.oneCell']) ?_))
        refine bodyPost_ret (v := _) (results_cell_row (fn := Tryd.f22) rfl _ _ (g2 + 1 + 1) 37 #[.slice x1 n2 x3, .slice (some ⟨g1', 0, none⟩) n2 y3, .slice u1 n3 u3] (0, 0) _ rfl (setRow_heap _ _ _ _ _ _ g4h.out) Tryd.underlying37 rfl size37) rfl ?_
        exact ⟨_, _, _, _, rfl, hend.out⟩
       exact AllReadyF.nil
      exact AllReadyF.nil
     exact AllReadyF.nil
    refine AllReadyF.cons (o := { dst := some 71, op := .call { callee := .value (.func 21), args := #[(.tmp 70), (Operand.const (Value.int IntKind.i64 3))], argTypes := #[3, 3] }, type := _, pos := _, after := _, guard := none }) rfl (fun K hK => ?_) ?_
    ·skip
     go_simp
     refine (p2.out _).mono ?_
     rintro e w' ⟨rfl, rfl⟩
     go_wp2_with fail
     refine hK.out _ _ hHeld (fun hHeld => ?_)
     clear hK K
     try simp only [Act.put, zT, z0, zS]
     refine wpAnyF_ready (rs := [3]) (by kernel_rfl) (by simp) ?_
     refine AllReadyF.cons (o := { dst := some 68, op := .buildSlice 35 3 #[(0, (Operand.const (Value.string { data := #[] }))), (1, (Operand.const (Value.string { data := #[97] }))), (2, (Operand.const (Value.string { data := #[122, 122] })))], type := _, pos := _, after := _, guard := none }) rfl (fun K hK => ?_) ?_
     ·skip
      go_simp
      go_wp2_with fail
      refine hK.out _ _ sA.out (fun hHeld => ?_)
      clear hK K
      try simp only [Act.put, zT, z0, zS]
      obtain ⟨wA, hwA⟩ : ∃ W, W = (wn.alloc (.cells #[.string ⟨#[]⟩, .string ⟨#[97]⟩, .string ⟨#[122, 122]⟩] 9)).drew := ⟨_, rfl⟩
      rw [← hwA] at cd fd n0 n1 n2' nA nB sA cL ⊢
      clear hwA s1h
      refine takeA (i := 7) (oi := { dst := some 72, op := .indexAddr 35 (.tmp 68) (.tmp 71), type := _, pos := _, after := _, guard := none }) (v := ?_) rfl (Or.inl ⟨by rfl, ?_⟩) (by assumption) ?_
      rotate_left
      ·(intro w hSw; (try dsimp only at hSw); go_simp) <;> with_reducible rfl
      try simp only [Act.put, zT, z0, zS]
      refine wpAnyF_ready (rs := [8]) (by kernel_rfl) (by simp) ?_
      refine AllReadyF.cons (o := { dst := some 73, op := .load 9 (.tmp 72), type := _, pos := _, after := _, guard := none }) rfl (fun K hK => ?_) ?_
      ·skip
       go_simp
       go_wp2_with fail
       refine hK.out _ _ sA.out (fun hHeld => ?_)
       clear hK K
       try simp only [Act.put, zT, z0, zS]
       refine takeA (i := 9) (oi := { dst := some 74, op := .indexAddr 35 (.tmp 66) (.tmp 67), type := _, pos := _, after := _, guard := none }) (v := ?_) rfl (Or.inl ⟨by rfl, ?_⟩) (by assumption) ?_
       rotate_left
       ·(intro w hSw; (try dsimp only at hSw); go_simp) <;> with_reducible rfl
       try simp only [Act.put, zT, z0, zS]
       refine wpAnyF_ready (rs := [10]) (by kernel_rfl) (by simp) ?_
       refine AllReadyF.last (o := { dst := none, op := .store 9 (.tmp 74) (.tmp 73), type := _, pos := _, after := _, guard := none }) rfl (fun K hK => ?_) ?_
       ·skip
        go_simp
        go_wp2_with fail
        refine hK.out _ _ ?_
        clear hK K
        try simp only [Act.put, zT, z0, zS]
        refine wpAnyF_done (by kernel_rfl) ?_ _
        have gAh := Lib.hid (show ((wA.setCell ⟨g1', k, none⟩ (.string ⟨Z.toArray⟩))).heap[gA]? = some (.cells #[.slice x1 n2 x3, .slice (some ⟨g1', 0, none⟩) n2 y3, .slice u1 n3 u3] 37 (0, 0)) from nA.out)
        have Bf := Lib.hid (show Below wo.heap.size wo ((wA.setCell ⟨g1', k, none⟩ (.string ⟨Z.toArray⟩))) from nB.out)
        have g4h := Lib.hid (c4.out _ Bf.out)
        have hend := Lib.hid (show OpV (((wA.setCell ⟨g1', k, none⟩ (.string ⟨Z.toArray⟩))).setRow (g2 + 1 + 1) #[.slice x1 n2 x3, .slice (some ⟨g1', 0, none⟩) n2 y3, .slice u1 n3 u3]) (.agg #[.slice x1 n2 x3, .slice (some ⟨g1', 0, none⟩) n2 y3, .slice u1 n3 u3]) (ks) (vs.set k Z) (ps) ∧ OBd (ks) (vs.set k Z) (ps) ∧ Below W0.heap.size W0 (((wA.setCell ⟨g1', k, none⟩ (.string ⟨Z.toArray⟩))).setRow (g2 + 1 + 1) #[.slice x1 n2 x3, .slice (some ⟨g1', 0, none⟩) n2 y3, .slice u1 n3 u3]) from ⟨⟨_, _, _, rfl, (SLB.frm n0.out (Frm.setRow _ _ _) (.inl hg4.out)).SL, (SLB.frm n1.out (Frm.setRow _ _ _) (.inl hg4.out)).SL, (SLB.frm n2'.out (Frm.setRow _ _ _) (.inl hg4.out)).SL⟩, nO.out, below_setRow (toW.out _ Bf.out) hg5.out _⟩)
        clear r0 r1 r2 bA
        go_wp2_with (first
         | (refine wpList_load_row rfl 37 (.tmp 5) rfl gA rfl 37 #[.slice x1 n2 x3, .slice (some ⟨g1', 0, none⟩) n2 y3, .slice u1 n3 u3] (0, 0) _ gAh.out Tryd.underlying37 rfl size37 ?_)
         | (refine wpList_store_row rfl 37 (.tmp 4) (.tmp 172) rfl (g2 + 1 + 1) #[.slice x1 n2 x3, .slice (some ⟨g1', 0, none⟩) n2 y3, .slice u1 n3 u3] rfl rfl 37 _ g4h.out size37 rfl (by simp [Value.oneCell']) ?_))
        refine bodyPost_ret (v := _) (results_cell_row (fn := Tryd.f22) rfl _ _ (g2 + 1 + 1) 37 #[.slice x1 n2 x3, .slice (some ⟨g1', 0, none⟩) n2 y3, .slice u1 n3 u3] (0, 0) _ rfl (setRow_heap _ _ _ _ _ _ g4h.out) Tryd.underlying37 rfl size37) rfl ?_
        exact ⟨_, _, _, _, rfl, hend.out⟩
       exact AllReadyF.nil
      exact AllReadyF.nil
     exact AllReadyF.nil
    exact AllReadyF.nil
   ·skip
    obtain ⟨hx1, hxq, hxc⟩ := RowK.openS r2.out (by rw [← hN3.out]; omega)
    subst hx1
    clear hxq
    have hnl : n < ps.length := by rw [← hN3.out]; exact nl
    have i0 : (0 : Int) ≤ (n : Int) := by omega
    have i1 : (n : Int) < (n3 : Int) := by omega
    have hd := hO.out.2.2.2.2.2 ps[n] (List.getElem_mem hnl)
    have cS := Lib.hid (fun W => SumR ps[n] W (by omega))
    have hX := sha_len ps[n]
    have sK := Lib.hid (show ∀ W, Below wn.heap.size wn W → W.cell? ⟨gA, 2, none⟩ = some (.slice (some ⟨g2', 0, none⟩) n3 u3) ∧ W.cell? ⟨g2', n, none⟩ = some (.string ⟨ps[n].toArray⟩) from fun W BW => ⟨by rw [BW.cell (p := ⟨gA, 2, none⟩) (by simpa using hgAs.out)]; exact f2, by rw [BW.cell (p := ⟨g2', n, none⟩) (by have := r2.out.2.1; simpa using this)]; exact (r2.out.cellS n hnl).1⟩)
    obtain ⟨Z, hZ⟩ : ∃ Z, Hid (Z = (sha ps[n])) := ⟨(sha ps[n]), Lib.hid (Eq.refl _)⟩
    rw [← hZ.out] at cS hX
    have nO := Lib.hid (hO.out.setP n Z (by omega))
    have hfin := Lib.hid (show ∀ w8, Below wn.heap.size wn w8 → w8.cell? ⟨g2', n, none⟩ = some (.string ⟨ps[n].toArray⟩) ∧ w8.frozen? ⟨g2', n, none⟩ = false ∧ SLB eI wo.heap.size (w8.setCell ⟨g2', n, none⟩ (.string ⟨Z.toArray⟩)) (.slice x1 n2 x3) ks ∧ SLB eS wo.heap.size (w8.setCell ⟨g2', n, none⟩ (.string ⟨Z.toArray⟩)) (.slice y1 n2 y3) vs ∧ SLB eS wo.heap.size (w8.setCell ⟨g2', n, none⟩ (.string ⟨Z.toArray⟩)) (.slice (some ⟨g2', 0, none⟩) n3 u3) (ps.set n Z) ∧ (w8.setCell ⟨g2', n, none⟩ (.string ⟨Z.toArray⟩)).heap[gA]? = some (.cells #[.slice x1 n2 x3, .slice y1 n2 y3, .slice (some ⟨g2', 0, none⟩) n3 u3] 37 (0, 0)) ∧ Below wo.heap.size wo (w8.setCell ⟨g2', n, none⟩ (.string ⟨Z.toArray⟩)) from fun w8 B8 => by
     have F8 := Frm.of_below B8
     have l0 := r0.out.2.1
     have l1 := r1.out.2.1
     have l2 := r2.out.2.1
     have lA := hgAs.out
     have rd := r2.out.keep F8 (by omega)
     obtain ⟨cd, fd⟩ := rd.cellS n hnl
     have F9 := Frm.setCell w8 g2' n (.string ⟨Z.toArray⟩)
     exact ⟨cd, fd, ((r0.out.keep F8 (by omega)).keep F9 d02).SLB eI_len, ((r1.out.keep F8 (by omega)).keep F9 d12).SLB eS_len, (rd.setS n hnl Z).SLB eS_len, (F9.2 gA (by have := B8.size; omega) (Ne.symm d23)).trans ((F8.2 gA lA (by omega)).trans bA.out), (Bn.out.trans (B8.mono Bn.out.size)).setCell (by have := gz2.out; simpa using this) _⟩)
    clear hd
    go_wp2_with fail
    refine wp_region_F (fun w' : World => w'.cell? ⟨gA, 2, none⟩ = some (.slice (some ⟨g2', 0, none⟩) n3 u3) ∧ w'.cell? ⟨g2', n, none⟩ = some (.string ⟨ps[n].toArray⟩)) 10 (by kernel_rfl) (sK.out _ (Below.refl _ wn).drew) (fun hHeld => ?_)
    refine takeA (i := 0) (oi := { dst := some 81, op := .fieldAddr 37 (.tmp 5) 2, type := _, pos := _, after := _, guard := none }) (v := ?_) rfl (Or.inl ⟨by rfl, ?_⟩) (by assumption) ?_
    rotate_left
    ·(intro w hSw; (try dsimp only at hSw); go_simp) <;> with_reducible rfl
    try simp only [Act.put, zT, z0, zS]
    refine takeA (i := 1) (oi := { dst := some 82, op := .load 35 (.tmp 81), type := _, pos := _, after := _, guard := none }) (v := ?_) rfl (Or.inl ⟨by rfl, ?_⟩) (by assumption) ?_
    rotate_left
    ·(intro w hSw; (try dsimp only at hSw); go_simp) <;> with_reducible rfl
    try simp only [Act.put, zT, z0, zS]
    refine takeA (i := 2) (oi := { dst := some 83, op := .move (.tmp 7), type := _, pos := _, after := _, guard := none }) (v := ?_) rfl (Or.inl ⟨by rfl, ?_⟩) (by assumption) ?_
    rotate_left
    ·(intro w hSw; (try dsimp only at hSw); go_simp) <;> with_reducible rfl
    try simp only [Act.put, zT, z0, zS]
    refine takeA (i := 3) (oi := { dst := some 84, op := .fieldAddr 37 (.tmp 5) 2, type := _, pos := _, after := _, guard := none }) (v := ?_) rfl (Or.inl ⟨by rfl, ?_⟩) (by assumption) ?_
    rotate_left
    ·(intro w hSw; (try dsimp only at hSw); go_simp) <;> with_reducible rfl
    try simp only [Act.put, zT, z0, zS]
    refine takeA (i := 4) (oi := { dst := some 85, op := .load 35 (.tmp 84), type := _, pos := _, after := _, guard := none }) (v := ?_) rfl (Or.inl ⟨by rfl, ?_⟩) (by assumption) ?_
    rotate_left
    ·(intro w hSw; (try dsimp only at hSw); go_simp) <;> with_reducible rfl
    try simp only [Act.put, zT, z0, zS]
    refine takeA (i := 5) (oi := { dst := some 86, op := .move (.tmp 7), type := _, pos := _, after := _, guard := none }) (v := ?_) rfl (Or.inl ⟨by rfl, ?_⟩) (by assumption) ?_
    rotate_left
    ·(intro w hSw; (try dsimp only at hSw); go_simp) <;> with_reducible rfl
    try simp only [Act.put, zT, z0, zS]
    refine takeA (i := 6) (oi := { dst := some 87, op := .indexAddr 35 (.tmp 85) (.tmp 86), type := _, pos := _, after := _, guard := none }) (v := ?_) rfl (Or.inl ⟨by rfl, ?_⟩) (by assumption) ?_
    rotate_left
    ·(intro w hSw; (try dsimp only at hSw); go_simp) <;> with_reducible rfl
    try simp only [Act.put, zT, z0, zS]
    refine takeA (i := 7) (oi := { dst := some 88, op := .load 9 (.tmp 87), type := _, pos := _, after := _, guard := none }) (v := ?_) rfl (Or.inl ⟨by rfl, ?_⟩) (by assumption) ?_
    rotate_left
    ·(intro w hSw; (try dsimp only at hSw); go_simp) <;> with_reducible rfl
    try simp only [Act.put, zT, z0, zS]
    refine wpAnyF_ready (rs := [8]) (by kernel_rfl) (by simp) ?_
    refine AllReadyF.cons (o := { dst := some 89, op := .call { callee := .value (.func 51), args := #[(.tmp 88)], argTypes := #[9] }, type := _, pos := _, after := _, guard := none }) rfl (fun K hK => ?_) ?_
    ·skip
     go_simp
     refine (cS.out _).mono ?_
     rintro e w8 ⟨rfl, b8⟩
     have B8 : Below wn.heap.size wn w8 := (Below.refl wn.heap.size wn).drew.trans b8
     clear b8
     obtain ⟨cd, fd, q0, q1, q2, qA, qB⟩ := hfin.out w8 B8
     have n0 := Lib.hid q0
     have n1 := Lib.hid q1
     have n2' := Lib.hid q2
     have nA := Lib.hid qA
     have nB := Lib.hid qB
     clear q0 q1 q2 qA qB
     go_wp2_with fail
     refine hK.out _ _ ?_ (fun hHeld => ?_)
     ·exact sK.out _ B8
     clear hK K
     try simp only [Act.put, zT, z0, zS]
     refine takeA (i := 9) (oi := { dst := some 90, op := .indexAddr 35 (.tmp 82) (.tmp 83), type := _, pos := _, after := _, guard := none }) (v := ?_) rfl (Or.inl ⟨by rfl, ?_⟩) (by assumption) ?_
     rotate_left
     ·(intro w hSw; (try dsimp only at hSw); go_simp) <;> with_reducible rfl
     try simp only [Act.put, zT, z0, zS]
     refine wpAnyF_ready (rs := [10]) (by kernel_rfl) (by simp) ?_
     refine AllReadyF.last (o := { dst := none, op := .store 9 (.tmp 90) (.tmp 89), type := _, pos := _, after := _, guard := none }) rfl (fun K hK => ?_) ?_
     ·skip
      go_simp
      go_wp2_with fail
      refine hK.out _ _ ?_
      clear hK K
      try simp only [Act.put, zT, z0, zS]
      refine wpAnyF_done (by kernel_rfl) ?_ _
      have gAh := Lib.hid (show ((w8.setCell ⟨g2', n, none⟩ (.string ⟨Z.toArray⟩))).heap[gA]? = some (.cells #[.slice x1 n2 x3, .slice y1 n2 y3, .slice (some ⟨g2', 0, none⟩) n3 u3] 37 (0, 0)) from nA.out)
      have Bf := Lib.hid (show Below wo.heap.size wo ((w8.setCell ⟨g2', n, none⟩ (.string ⟨Z.toArray⟩))) from nB.out)
      have g4h := Lib.hid (c4.out _ Bf.out)
      have hend := Lib.hid (show OpV (((w8.setCell ⟨g2', n, none⟩ (.string ⟨Z.toArray⟩))).setRow (g2 + 1 + 1) #[.slice x1 n2 x3, .slice y1 n2 y3, .slice (some ⟨g2', 0, none⟩) n3 u3]) (.agg #[.slice x1 n2 x3, .slice y1 n2 y3, .slice (some ⟨g2', 0, none⟩) n3 u3]) (ks) (vs) (ps.set n Z) ∧ OBd (ks) (vs) (ps.set n Z) ∧ Below W0.heap.size W0 (((w8.setCell ⟨g2', n, none⟩ (.string ⟨Z.toArray⟩))).setRow (g2 + 1 + 1) #[.slice x1 n2 x3, .slice y1 n2 y3, .slice (some ⟨g2', 0, none⟩) n3 u3]) from ⟨⟨_, _, _, rfl, (SLB.frm n0.out (Frm.setRow _ _ _) (.inl hg4.out)).SL, (SLB.frm n1.out (Frm.setRow _ _ _) (.inl hg4.out)).SL, (SLB.frm n2'.out (Frm.setRow _ _ _) (.inl hg4.out)).SL⟩, nO.out, below_setRow (toW.out _ Bf.out) hg5.out _⟩)
      clear r0 r1 r2 bA
      go_wp2_with (first
       | (refine wpList_load_row rfl 37 (.tmp 5) rfl gA rfl 37 #[.slice x1 n2 x3, .slice y1 n2 y3, .slice (some ⟨g2', 0, none⟩) n3 u3] (0, 0) _ gAh.out Tryd.underlying37 rfl size37 ?_)
       | (refine wpList_store_row rfl 37 (.tmp 4) (.tmp 172) rfl (g2 + 1 + 1) #[.slice x1 n2 x3, .slice y1 n2 y3, .slice (some ⟨g2', 0, none⟩) n3 u3] rfl rfl 37 _ g4h.out size37 rfl (by simp [Value.oneCell']) ?_))
      refine bodyPost_ret (v := _) (results_cell_row (fn := Tryd.f22) rfl _ _ (g2 + 1 + 1) 37 #[.slice x1 n2 x3, .slice y1 n2 y3, .slice (some ⟨g2', 0, none⟩) n3 u3] (0, 0) _ rfl (setRow_heap _ _ _ _ _ _ g4h.out) Tryd.underlying37 rfl size37) rfl ?_
      exact ⟨_, _, _, _, rfl, hend.out⟩
     exact AllReadyF.nil
    exact AllReadyF.nil
   ·skip
    obtain ⟨hx1, hxq, hxc⟩ := RowK.openS r2.out (by rw [← hN3.out]; omega)
    subst hx1
    clear hxq
    have hnl : n < ps.length := by rw [← hN3.out]; exact nl
    have i0 : (0 : Int) ≤ (n : Int) := by omega
    have i1 : (n : Int) < (n3 : Int) := by omega
    have cS := Lib.hid (fun W => Zero_any W)
    have hX : zero32.length = 32 := rfl
    have sK := Lib.hid (show ∀ W, Below wn.heap.size wn W → W.cell? ⟨gA, 2, none⟩ = some (.slice (some ⟨g2', 0, none⟩) n3 u3) from fun W BW => by rw [BW.cell (p := ⟨gA, 2, none⟩) (by simpa using hgAs.out)]; exact f2)
    obtain ⟨Z, hZ⟩ : ∃ Z, Hid (Z = zero32) := ⟨zero32, Lib.hid (Eq.refl _)⟩
    rw [← hZ.out] at cS hX
    have nO := Lib.hid (hO.out.setP n Z (by omega))
    have hfin := Lib.hid (show ∀ w8, Below wn.heap.size wn w8 → w8.cell? ⟨g2', n, none⟩ = some (.string ⟨ps[n].toArray⟩) ∧ w8.frozen? ⟨g2', n, none⟩ = false ∧ SLB eI wo.heap.size (w8.setCell ⟨g2', n, none⟩ (.string ⟨Z.toArray⟩)) (.slice x1 n2 x3) ks ∧ SLB eS wo.heap.size (w8.setCell ⟨g2', n, none⟩ (.string ⟨Z.toArray⟩)) (.slice y1 n2 y3) vs ∧ SLB eS wo.heap.size (w8.setCell ⟨g2', n, none⟩ (.string ⟨Z.toArray⟩)) (.slice (some ⟨g2', 0, none⟩) n3 u3) (ps.set n Z) ∧ (w8.setCell ⟨g2', n, none⟩ (.string ⟨Z.toArray⟩)).heap[gA]? = some (.cells #[.slice x1 n2 x3, .slice y1 n2 y3, .slice (some ⟨g2', 0, none⟩) n3 u3] 37 (0, 0)) ∧ Below wo.heap.size wo (w8.setCell ⟨g2', n, none⟩ (.string ⟨Z.toArray⟩)) from fun w8 B8 => by
     have F8 := Frm.of_below B8
     have l0 := r0.out.2.1
     have l1 := r1.out.2.1
     have l2 := r2.out.2.1
     have lA := hgAs.out
     have rd := r2.out.keep F8 (by omega)
     obtain ⟨cd, fd⟩ := rd.cellS n hnl
     have F9 := Frm.setCell w8 g2' n (.string ⟨Z.toArray⟩)
     exact ⟨cd, fd, ((r0.out.keep F8 (by omega)).keep F9 d02).SLB eI_len, ((r1.out.keep F8 (by omega)).keep F9 d12).SLB eS_len, (rd.setS n hnl Z).SLB eS_len, (F9.2 gA (by have := B8.size; omega) (Ne.symm d23)).trans ((F8.2 gA lA (by omega)).trans bA.out), (Bn.out.trans (B8.mono Bn.out.size)).setCell (by have := gz2.out; simpa using this) _⟩)
    clear hZ
    go_wp2_with fail
    refine wp_region_F (fun w' : World => w'.cell? ⟨gA, 2, none⟩ = some (.slice (some ⟨g2', 0, none⟩) n3 u3)) 5 (by kernel_rfl) (sK.out _ (Below.refl _ wn).drew) (fun hHeld => ?_)
    refine takeA (i := 0) (oi := { dst := some 97, op := .fieldAddr 37 (.tmp 5) 2, type := _, pos := _, after := _, guard := none }) (v := ?_) rfl (Or.inl ⟨by rfl, ?_⟩) (by assumption) ?_
    rotate_left
    ·(intro w hSw; (try dsimp only at hSw); go_simp) <;> with_reducible rfl
    try simp only [Act.put, zT, z0, zS]
    refine takeA (i := 1) (oi := { dst := some 98, op := .load 35 (.tmp 97), type := _, pos := _, after := _, guard := none }) (v := ?_) rfl (Or.inl ⟨by rfl, ?_⟩) (by assumption) ?_
    rotate_left
    ·(intro w hSw; (try dsimp only at hSw); go_simp) <;> with_reducible rfl
    try simp only [Act.put, zT, z0, zS]
    refine takeA (i := 2) (oi := { dst := some 99, op := .move (.tmp 7), type := _, pos := _, after := _, guard := none }) (v := ?_) rfl (Or.inl ⟨by rfl, ?_⟩) (by assumption) ?_
    rotate_left
    ·(intro w hSw; (try dsimp only at hSw); go_simp) <;> with_reducible rfl
    try simp only [Act.put, zT, z0, zS]
    refine wpAnyF_ready (rs := [3]) (by kernel_rfl) (by simp) ?_
    refine AllReadyF.cons (o := { dst := some 100, op := .call { callee := .value (.func 34), args := #[], argTypes := #[] }, type := _, pos := _, after := _, guard := none }) rfl (fun K hK => ?_) ?_
    ·skip
     go_simp
     refine (cS.out _).mono ?_
     rintro e w8 ⟨rfl, b8⟩
     have B8 : Below wn.heap.size wn w8 := (Below.refl wn.heap.size wn).drew.trans b8
     clear b8
     obtain ⟨cd, fd, q0, q1, q2, qA, qB⟩ := hfin.out w8 B8
     have n0 := Lib.hid q0
     have n1 := Lib.hid q1
     have n2' := Lib.hid q2
     have nA := Lib.hid qA
     have nB := Lib.hid qB
     clear q0 q1 q2 qA qB
     go_wp2_with fail
     refine hK.out _ _ ?_ (fun hHeld => ?_)
     ·exact sK.out _ B8
     clear hK K
     try simp only [Act.put, zT, z0, zS]
     refine takeA (i := 4) (oi := { dst := some 101, op := .indexAddr 35 (.tmp 98) (.tmp 99), type := _, pos := _, after := _, guard := none }) (v := ?_) rfl (Or.inl ⟨by rfl, ?_⟩) (by assumption) ?_
     rotate_left
     ·(intro w hSw; (try dsimp only at hSw); go_simp) <;> with_reducible rfl
     try simp only [Act.put, zT, z0, zS]
     refine wpAnyF_ready (rs := [5]) (by kernel_rfl) (by simp) ?_
     refine AllReadyF.last (o := { dst := none, op := .store 9 (.tmp 101) (.tmp 100), type := _, pos := _, after := _, guard := none }) rfl (fun K hK => ?_) ?_
     ·skip
      go_simp
      go_wp2_with fail
      refine hK.out _ _ ?_
      clear hK K
      try simp only [Act.put, zT, z0, zS]
      refine wpAnyF_done (by kernel_rfl) ?_ _
      have gAh := Lib.hid (show ((w8.setCell ⟨g2', n, none⟩ (.string ⟨Z.toArray⟩))).heap[gA]? = some (.cells #[.slice x1 n2 x3, .slice y1 n2 y3, .slice (some ⟨g2', 0, none⟩) n3 u3] 37 (0, 0)) from nA.out)
      have Bf := Lib.hid (show Below wo.heap.size wo ((w8.setCell ⟨g2', n, none⟩ (.string ⟨Z.toArray⟩))) from nB.out)
      have g4h := Lib.hid (c4.out _ Bf.out)
      have hend := Lib.hid (show OpV (((w8.setCell ⟨g2', n, none⟩ (.string ⟨Z.toArray⟩))).setRow (g2 + 1 + 1) #[.slice x1 n2 x3, .slice y1 n2 y3, .slice (some ⟨g2', 0, none⟩) n3 u3]) (.agg #[.slice x1 n2 x3, .slice y1 n2 y3, .slice (some ⟨g2', 0, none⟩) n3 u3]) (ks) (vs) (ps.set n Z) ∧ OBd (ks) (vs) (ps.set n Z) ∧ Below W0.heap.size W0 (((w8.setCell ⟨g2', n, none⟩ (.string ⟨Z.toArray⟩))).setRow (g2 + 1 + 1) #[.slice x1 n2 x3, .slice y1 n2 y3, .slice (some ⟨g2', 0, none⟩) n3 u3]) from ⟨⟨_, _, _, rfl, (SLB.frm n0.out (Frm.setRow _ _ _) (.inl hg4.out)).SL, (SLB.frm n1.out (Frm.setRow _ _ _) (.inl hg4.out)).SL, (SLB.frm n2'.out (Frm.setRow _ _ _) (.inl hg4.out)).SL⟩, nO.out, below_setRow (toW.out _ Bf.out) hg5.out _⟩)
      clear r0 r1 r2 bA
      go_wp2_with (first
       | (refine wpList_load_row rfl 37 (.tmp 5) rfl gA rfl 37 #[.slice x1 n2 x3, .slice y1 n2 y3, .slice (some ⟨g2', 0, none⟩) n3 u3] (0, 0) _ gAh.out Tryd.underlying37 rfl size37 ?_)
       | (refine wpList_store_row rfl 37 (.tmp 4) (.tmp 172) rfl (g2 + 1 + 1) #[.slice x1 n2 x3, .slice y1 n2 y3, .slice (some ⟨g2', 0, none⟩) n3 u3] rfl rfl 37 _ g4h.out size37 rfl (by simp [Value.oneCell']) ?_))
      refine bodyPost_ret (v := _) (results_cell_row (fn := Tryd.f22) rfl _ _ (g2 + 1 + 1) 37 #[.slice x1 n2 x3, .slice y1 n2 y3, .slice (some ⟨g2', 0, none⟩) n3 u3] (0, 0) _ rfl (setRow_heap _ _ _ _ _ _ g4h.out) Tryd.underlying37 rfl size37) rfl ?_
      exact ⟨_, _, _, _, rfl, hend.out⟩
     exact AllReadyF.nil
    exact AllReadyF.nil
   ·skip
    by_cases cC : 1 < n3
    rotate_left
    ·have tC : ¬ (1 : Int) < (n3 : Int) := by omega
     have gAh := Lib.hid (show (wn).heap[gA]? = some (.cells #[.slice x1 n2 x3, .slice y1 n2 y3, .slice u1 n3 u3] 37 (0, 0)) from bA.out)
     have Bf := Lib.hid (show Below wo.heap.size wo (wn) from Bn.out)
     have g4h := Lib.hid (c4.out _ Bf.out)
     have hend := Lib.hid (show OpV ((wn).setRow (g2 + 1 + 1) #[.slice x1 n2 x3, .slice y1 n2 y3, .slice u1 n3 u3]) (.agg #[.slice x1 n2 x3, .slice y1 n2 y3, .slice u1 n3 u3]) (ks) (vs) (ps) ∧ OBd (ks) (vs) (ps) ∧ Below W0.heap.size W0 ((wn).setRow (g2 + 1 + 1) #[.slice x1 n2 x3, .slice y1 n2 y3, .slice u1 n3 u3]) from ⟨⟨_, _, _, rfl, (SLB.frm (r0.out.SLB eI_len) (Frm.setRow _ _ _) (.inl hg4.out)).SL, (SLB.frm (r1.out.SLB eS_len) (Frm.setRow _ _ _) (.inl hg4.out)).SL, (SLB.frm (r2.out.SLB eS_len) (Frm.setRow _ _ _) (.inl hg4.out)).SL⟩, hO.out, below_setRow (toW.out _ Bf.out) hg5.out _⟩)
     clear r0 r1 r2 bA
     go_wp2_with (first
      | (refine wpList_load_row rfl 37 (.tmp 5) rfl gA rfl 37 #[.slice x1 n2 x3, .slice y1 n2 y3, .slice u1 n3 u3] (0, 0) _ gAh.out Tryd.underlying37 rfl size37 ?_)
      | (refine wpList_store_row rfl 37 (.tmp 4) (.tmp 172) rfl (g2 + 1 + 1) #[.slice x1 n2 x3, .slice y1 n2 y3, .slice u1 n3 u3] rfl rfl 37 _ g4h.out size37 rfl (by simp [Value.oneCell']) ?_))
     refine bodyPost_ret (v := _) (results_cell_row (fn := Tryd.f22) rfl _ _ (g2 + 1 + 1) 37 #[.slice x1 n2 x3, .slice y1 n2 y3, .slice u1 n3 u3] (0, 0) _ rfl (setRow_heap _ _ _ _ _ _ g4h.out) Tryd.underlying37 rfl size37) rfl ?_
     exact ⟨_, _, _, _, rfl, hend.out⟩
    ·have tC : (1 : Int) < (n3 : Int) := by omega
     obtain ⟨hx1, hxq, hxc⟩ := RowK.openS r2.out (by rw [← hN3.out]; omega)
     subst hx1
     clear hxq
     have hnl : n < ps.length := by rw [← hN3.out]; exact nl
     have i0 : (0 : Int) ≤ (n : Int) := by omega
     have i1 : (n : Int) < (n3 : Int) := by omega
     have p2 := Lib.hid (fun W => Wr.pick_any h2 (n3 : Int) W hh2.1 hh2.2 (by omega) (by omega))
     obtain ⟨m, hy, ml⟩ : ∃ j : Nat, Wr.pk h2 (n3 : Int) = (j : Int) ∧ j < n3 := ⟨(Wr.pk h2 (n3 : Int)).toNat, by have := Wr.pk_lo h2 (n3 : Int) (by omega); omega, by have := Wr.pk_lo h2 (n3 : Int) (by omega); have := Wr.pk_lt h2 (n3 : Int) (by omega); omega⟩
     rw [hy] at p2
     clear hy
     have hml : m < ps.length := by rw [← hN3.out]; exact ml
     have j0 : (0 : Int) ≤ (m : Int) := by omega
     have j1 : (m : Int) < (n3 : Int) := by omega
     have lA := hgAs.out
     have rd := r2.out.keep (Frm.of_below (Below.refl wn.heap.size wn).drew) (by have := r2.out.2.1; omega)
     obtain ⟨dn, hdn⟩ : ∃ d, Hid (d = ps[n]) := ⟨ps[n], Lib.hid (Eq.refl _)⟩
     obtain ⟨dm, hdm⟩ : ∃ d, Hid (d = ps[m]) := ⟨ps[m], Lib.hid (Eq.refl _)⟩
     obtain ⟨cn, fn⟩ := rd.cellS n hnl
     obtain ⟨cm, fm⟩ := rd.cellS m hml
     rw [← hdn.out] at cn
     rw [← hdm.out] at cm
     have rd2 := rd.setS n hnl dm
     have cm2 : (wn.drew.setCell ⟨g2', n, none⟩ (.string ⟨dm.toArray⟩)).cell? ⟨g2', m, none⟩ = some (.string ⟨dm.toArray⟩) := by
      have := (rd2.cellS m (by rw [List.length_set]; exact hml)).1
      rw [this]
      congr 3
      rw [List.getElem_set]
      split
      ·rfl
      ·exact congrArg List.toArray hdm.out.symm
     have fm2 := (rd2.cellS m (by rw [List.length_set]; exact hml)).2
     have rd3 := rd2.setS m (by rw [List.length_set]; exact hml) dn
     have F1 := ((Frm.drew wn g2').trans (Frm.setCell wn.drew g2' n (.string ⟨dm.toArray⟩))).trans (Frm.setCell _ g2' m (.string ⟨dn.toArray⟩))
     have Fh := (Frm.drew wn g2').trans (Frm.setCell wn.drew g2' n (.string ⟨dm.toArray⟩))
     have n0 := Lib.hid ((r0.out.keep F1 d02).SLB eI_len)
     have n1 := Lib.hid ((r1.out.keep F1 d12).SLB eS_len)
     have n2' := Lib.hid (rd3.SLB eS_len)
     have nA := Lib.hid ((F1.2 gA lA (Ne.symm d23)).trans bA.out)
     have cf2 : (wn.drew.setCell ⟨g2', n, none⟩ (.string ⟨dm.toArray⟩)).cell? ⟨gA, 2, none⟩ = some (.slice (some ⟨g2', 0, none⟩) n3 u3) := cell_of_row _ _ 2 _ 37 (0, 0) ((Fh.2 gA lA (Ne.symm d23)).trans bA.out)
     have nB := Lib.hid (show Below wo.heap.size wo ((wn.drew.setCell ⟨g2', n, none⟩ (.string ⟨dm.toArray⟩)).setCell ⟨g2', m, none⟩ (.string ⟨dn.toArray⟩)) from ((Bn.out.drew).setCell (by have := gz2.out; simpa using this) _).setCell (by have := gz2.out; simpa using this) _)
     have nO := Lib.hid ((hO.out.setP n dm (by rw [hdm.out]; exact hO.out.2.2.2.2.2 _ (List.getElem_mem hml))).setP m dn (by rw [hdn.out]; exact hO.out.2.2.2.2.2 _ (List.getElem_mem hnl)))
     have hS0 := Lib.hid (show wn.drew.cell? ⟨gA, 2, none⟩ = some (.slice (some ⟨g2', 0, none⟩) n3 u3) ∧ wn.drew.cell? ⟨g2', m, none⟩ = some (.string ⟨dm.toArray⟩) from ⟨f2, cm⟩)
     have hS1 := Lib.hid (show (wn.drew.setCell ⟨g2', n, none⟩ (.string ⟨dm.toArray⟩)).cell? ⟨gA, 2, none⟩ = some (.slice (some ⟨g2', 0, none⟩) n3 u3) ∧ (wn.drew.setCell ⟨g2', n, none⟩ (.string ⟨dm.toArray⟩)).cell? ⟨g2', m, none⟩ = some (.string ⟨dm.toArray⟩) from ⟨cf2, cm2⟩)
     clear rd rd2 rd3 F1 Fh hdn hdm lA cm cf2
     go_wp2_with fail
     refine (p2.out _).mono ?_
     rintro e w' ⟨rfl, rfl⟩
     go_wp2_with fail
     refine wp_region_F (fun w' : World => w'.cell? ⟨gA, 2, none⟩ = some (.slice (some ⟨g2', 0, none⟩) n3 u3) ∧ w'.cell? ⟨g2', m, none⟩ = some (.string ⟨dm.toArray⟩)) 19 (by kernel_rfl) hS0.out (fun hHeld => ?_)
     refine takeA (i := 0) (oi := { dst := some 114, op := .fieldAddr 37 (.tmp 5) 2, type := _, pos := _, after := _, guard := none }) (v := ?_) rfl (Or.inl ⟨by rfl, ?_⟩) (by assumption) ?_
     rotate_left
     ·(intro w hSw; (try dsimp only at hSw); go_simp) <;> with_reducible rfl
     try simp only [Act.put, zT, z0, zS]
     refine takeA (i := 1) (oi := { dst := some 115, op := .load 35 (.tmp 114), type := _, pos := _, after := _, guard := none }) (v := ?_) rfl (Or.inl ⟨by rfl, ?_⟩) (by assumption) ?_
     rotate_left
     ·(intro w hSw; (try dsimp only at hSw); go_simp) <;> with_reducible rfl
     try simp only [Act.put, zT, z0, zS]
     refine takeA (i := 2) (oi := { dst := some 116, op := .move (.tmp 7), type := _, pos := _, after := _, guard := none }) (v := ?_) rfl (Or.inl ⟨by rfl, ?_⟩) (by assumption) ?_
     rotate_left
     ·(intro w hSw; (try dsimp only at hSw); go_simp) <;> with_reducible rfl
     try simp only [Act.put, zT, z0, zS]
     refine takeA (i := 3) (oi := { dst := some 117, op := .fieldAddr 37 (.tmp 5) 2, type := _, pos := _, after := _, guard := none }) (v := ?_) rfl (Or.inl ⟨by rfl, ?_⟩) (by assumption) ?_
     rotate_left
     ·(intro w hSw; (try dsimp only at hSw); go_simp) <;> with_reducible rfl
     try simp only [Act.put, zT, z0, zS]
     refine takeA (i := 4) (oi := { dst := some 118, op := .load 35 (.tmp 117), type := _, pos := _, after := _, guard := none }) (v := ?_) rfl (Or.inl ⟨by rfl, ?_⟩) (by assumption) ?_
     rotate_left
     ·(intro w hSw; (try dsimp only at hSw); go_simp) <;> with_reducible rfl
     try simp only [Act.put, zT, z0, zS]
     refine takeA (i := 5) (oi := { dst := some 119, op := .move (.tmp 8), type := _, pos := _, after := _, guard := none }) (v := ?_) rfl (Or.inl ⟨by rfl, ?_⟩) (by assumption) ?_
     rotate_left
     ·(intro w hSw; (try dsimp only at hSw); go_simp) <;> with_reducible rfl
     try simp only [Act.put, zT, z0, zS]
     refine takeA (i := 6) (oi := { dst := some 120, op := .fieldAddr 37 (.tmp 5) 2, type := _, pos := _, after := _, guard := none }) (v := ?_) rfl (Or.inl ⟨by rfl, ?_⟩) (by assumption) ?_
     rotate_left
     ·(intro w hSw; (try dsimp only at hSw); go_simp) <;> with_reducible rfl
     try simp only [Act.put, zT, z0, zS]
     refine takeA (i := 7) (oi := { dst := some 121, op := .load 35 (.tmp 120), type := _, pos := _, after := _, guard := none }) (v := ?_) rfl (Or.inl ⟨by rfl, ?_⟩) (by assumption) ?_
     rotate_left
     ·(intro w hSw; (try dsimp only at hSw); go_simp) <;> with_reducible rfl
     try simp only [Act.put, zT, z0, zS]
     refine takeA (i := 8) (oi := { dst := some 122, op := .move (.tmp 8), type := _, pos := _, after := _, guard := none }) (v := ?_) rfl (Or.inl ⟨by rfl, ?_⟩) (by assumption) ?_
     rotate_left
     ·(intro w hSw; (try dsimp only at hSw); go_simp) <;> with_reducible rfl
     try simp only [Act.put, zT, z0, zS]
     refine takeA (i := 9) (oi := { dst := some 123, op := .indexAddr 35 (.tmp 121) (.tmp 122), type := _, pos := _, after := _, guard := none }) (v := ?_) rfl (Or.inl ⟨by rfl, ?_⟩) (by assumption) ?_
     rotate_left
     ·(intro w hSw; (try dsimp only at hSw); go_simp) <;> with_reducible rfl
     try simp only [Act.put, zT, z0, zS]
     refine takeA (i := 10) (oi := { dst := some 124, op := .load 9 (.tmp 123), type := _, pos := _, after := _, guard := none }) (v := ?_) rfl (Or.inl ⟨by rfl, ?_⟩) (by assumption) ?_
     rotate_left
     ·(intro w hSw; (try dsimp only at hSw); go_simp) <;> with_reducible rfl
     try simp only [Act.put, zT, z0, zS]
     refine takeA (i := 11) (oi := { dst := some 125, op := .fieldAddr 37 (.tmp 5) 2, type := _, pos := _, after := _, guard := none }) (v := ?_) rfl (Or.inl ⟨by rfl, ?_⟩) (by assumption) ?_
     rotate_left
     ·(intro w hSw; (try dsimp only at hSw); go_simp) <;> with_reducible rfl
     try simp only [Act.put, zT, z0, zS]
     refine takeA (i := 12) (oi := { dst := some 126, op := .load 35 (.tmp 125), type := _, pos := _, after := _, guard := none }) (v := ?_) rfl (Or.inl ⟨by rfl, ?_⟩) (by assumption) ?_
     rotate_left
     ·(intro w hSw; (try dsimp only at hSw); go_simp) <;> with_reducible rfl
     try simp only [Act.put, zT, z0, zS]
     refine takeA (i := 13) (oi := { dst := some 127, op := .move (.tmp 7), type := _, pos := _, after := _, guard := none }) (v := ?_) rfl (Or.inl ⟨by rfl, ?_⟩) (by assumption) ?_
     rotate_left
     ·(intro w hSw; (try dsimp only at hSw); go_simp) <;> with_reducible rfl
     try simp only [Act.put, zT, z0, zS]
     refine takeA (i := 14) (oi := { dst := some 128, op := .indexAddr 35 (.tmp 126) (.tmp 127), type := _, pos := _, after := _, guard := none }) (v := ?_) rfl (Or.inl ⟨by rfl, ?_⟩) (by assumption) ?_
     rotate_left
     ·(intro w hSw; (try dsimp only at hSw); go_simp) <;> with_reducible rfl
     try simp only [Act.put, zT, z0, zS]
     refine wpAnyF_ready (rs := [15]) (by kernel_rfl) (by simp) ?_
     refine AllReadyF.cons (o := { dst := some 129, op := .load 9 (.tmp 128), type := _, pos := _, after := _, guard := none }) rfl (fun K hK => ?_) ?_
     ·skip
      go_simp
      go_wp2_with fail
      refine hK.out _ _ ?_ (fun hHeld => ?_)
      ·exact hS0.out
      clear hK K
      try simp only [Act.put, zT, z0, zS]
      refine takeA (i := 16) (oi := { dst := some 130, op := .indexAddr 35 (.tmp 115) (.tmp 116), type := _, pos := _, after := _, guard := none }) (v := ?_) rfl (Or.inl ⟨by rfl, ?_⟩) (by assumption) ?_
      rotate_left
      ·(intro w hSw; (try dsimp only at hSw); go_simp) <;> with_reducible rfl
      try simp only [Act.put, zT, z0, zS]
      refine wpAnyF_ready (rs := [17]) (by kernel_rfl) (by simp) ?_
      refine AllReadyF.cons (o := { dst := none, op := .store 9 (.tmp 130) (.tmp 124), type := _, pos := _, after := _, guard := none }) rfl (fun K hK => ?_) ?_
      ·skip
       go_simp
       go_wp2_with fail
       refine hK.out _ _ ?_ (fun hHeld => ?_)
       ·exact hS1.out
       clear hK K
       try simp only [Act.put, zT, z0, zS]
       refine wpAnyF_ready (rs := [18]) (by kernel_rfl) (by simp) ?_
       refine AllReadyF.cons (o := { dst := some 131, op := .indexAddr 35 (.tmp 118) (.tmp 119), type := _, pos := _, after := _, guard := none }) rfl (fun K hK => ?_) ?_
       ·skip
        obtain ⟨wS, hwS⟩ : ∃ W, W = (wn.setCell ⟨g2', n, none⟩ (.string ⟨dm.toArray⟩)).drew := ⟨_, rfl⟩
        have hwE : wn.drew.setCell ⟨g2', n, none⟩ (.string ⟨dm.toArray⟩) = wS := by rw [hwS]; rfl
        rw [hwE] at cm2 fm2 n0 n1 n2' nA nB hS1
        rw [← hwS]
        clear hwS hwE cn fn fm
        go_simp
        go_wp2_with fail
        refine hK.out _ _ ?_ (fun hHeld => ?_)
        ·exact hS1.out
        clear hK K
        try simp only [Act.put, zT, z0, zS]
        refine wpAnyF_ready (rs := [19]) (by kernel_rfl) (by simp) ?_
        refine AllReadyF.last (o := { dst := none, op := .store 9 (.tmp 131) (.tmp 129), type := _, pos := _, after := _, guard := none }) rfl (fun K hK => ?_) ?_
        ·skip
         go_simp
         go_wp2_with fail
         refine hK.out _ _ ?_
         clear hK K
         try simp only [Act.put, zT, z0, zS]
         refine wpAnyF_done (by kernel_rfl) ?_ _
         have gAh := Lib.hid (show ((wS.setCell ⟨g2', m, none⟩ (.string ⟨dn.toArray⟩))).heap[gA]? = some (.cells #[.slice x1 n2 x3, .slice y1 n2 y3, .slice (some ⟨g2', 0, none⟩) n3 u3] 37 (0, 0)) from nA.out)
         have Bf := Lib.hid (show Below wo.heap.size wo ((wS.setCell ⟨g2', m, none⟩ (.string ⟨dn.toArray⟩))) from nB.out)
         have g4h := Lib.hid (c4.out _ Bf.out)
         have hend := Lib.hid (show OpV (((wS.setCell ⟨g2', m, none⟩ (.string ⟨dn.toArray⟩))).setRow (g2 + 1 + 1) #[.slice x1 n2 x3, .slice y1 n2 y3, .slice (some ⟨g2', 0, none⟩) n3 u3]) (.agg #[.slice x1 n2 x3, .slice y1 n2 y3, .slice (some ⟨g2', 0, none⟩) n3 u3]) (ks) (vs) ((ps.set n dm).set m dn) ∧ OBd (ks) (vs) ((ps.set n dm).set m dn) ∧ Below W0.heap.size W0 (((wS.setCell ⟨g2', m, none⟩ (.string ⟨dn.toArray⟩))).setRow (g2 + 1 + 1) #[.slice x1 n2 x3, .slice y1 n2 y3, .slice (some ⟨g2', 0, none⟩) n3 u3]) from ⟨⟨_, _, _, rfl, (SLB.frm n0.out (Frm.setRow _ _ _) (.inl hg4.out)).SL, (SLB.frm n1.out (Frm.setRow _ _ _) (.inl hg4.out)).SL, (SLB.frm n2'.out (Frm.setRow _ _ _) (.inl hg4.out)).SL⟩, nO.out, below_setRow (toW.out _ Bf.out) hg5.out _⟩)
         clear r0 r1 r2 bA
         go_wp2_with (first
          | (refine wpList_load_row rfl 37 (.tmp 5) rfl gA rfl 37 #[.slice x1 n2 x3, .slice y1 n2 y3, .slice (some ⟨g2', 0, none⟩) n3 u3] (0, 0) _ gAh.out Tryd.underlying37 rfl size37 ?_)
          | (refine wpList_store_row rfl 37 (.tmp 4) (.tmp 172) rfl (g2 + 1 + 1) #[.slice x1 n2 x3, .slice y1 n2 y3, .slice (some ⟨g2', 0, none⟩) n3 u3] rfl rfl 37 _ g4h.out size37 rfl (by simp [Value.oneCell']) ?_))
         refine bodyPost_ret (v := _) (results_cell_row (fn := Tryd.f22) rfl _ _ (g2 + 1 + 1) 37 #[.slice x1 n2 x3, .slice y1 n2 y3, .slice (some ⟨g2', 0, none⟩) n3 u3] (0, 0) _ rfl (setRow_heap _ _ _ _ _ _ g4h.out) Tryd.underlying37 rfl size37) rfl ?_
         exact ⟨_, _, _, _, rfl, hend.out⟩
        exact AllReadyF.nil
       exact AllReadyF.nil
      exact AllReadyF.nil
     exact AllReadyF.nil
   ·skip
    obtain ⟨hx1, hxq, hxc⟩ := RowK.openS r2.out (by rw [← hN3.out]; omega)
    subst hx1
    clear hxq
    have hnl : n < ps.length := by rw [← hN3.out]; exact nl
    obtain ⟨d, rest, hps⟩ : ∃ d rest, ps = d :: rest := by
     cases ps with
     | nil => simp at hnl
     | cons d rest => exact ⟨d, rest, rfl⟩
    have hO2 := hO.out
    rw [hps] at hO2
    have hn3 : n3 = rest.length + 1 := by rw [hN3.out, hps]; rfl
    have nO := Lib.hid hO2.tail
    have fA := free_of_block (i := 2) bA.out
    have F1 := fun u => Frm.setCell wn gA 2 u
    have n0 := Lib.hid (fun u => ((r0.out.keep (F1 u) d03).SLB eI_len))
    have n1 := Lib.hid (fun u => ((r1.out.keep (F1 u) d13).SLB eS_len))
    have n2' := Lib.hid (fun u => by
     have h := (r2.out.keep (F1 u) d23).SLB eS_len
     rw [hps] at h
     exact SLB.tail h hn3)
    have nA := Lib.hid (fun u => set_field (i := 2) (v := u) bA.out)
    have nB := Lib.hid (show ∀ u, Below wo.heap.size wo (wn.setCell ⟨gA, 2, none⟩ u) from fun u => Bn.out.setCell (by have := hgA.out; simpa using this) u)
    have i0 : (1 : Int) ≤ (n3 : Int) := by omega
    have i1 : (n3 : Int) ≤ (u3 : Int) := by omega
    have i3 : (1 : Int) ≤ (u3 : Int) := by omega
    clear hn3 hps hO2 F1
    go_upto_region 32 with (fail)
    obtain ⟨pa, hpa⟩ : ∃ pa : Option Addr, Hid (pa = if u3 = 1 then some ⟨g2', 0, none⟩ else some ⟨g2', 1, none⟩) := ⟨_, Lib.hid (Eq.refl _)⟩
    obtain ⟨pm, hpm⟩ : ∃ m : Nat, Hid (m = n3 - 1) := ⟨_, Lib.hid (Eq.refl _)⟩
    obtain ⟨pc, hpc⟩ : ∃ m : Nat, Hid (m = u3 - 1) := ⟨_, Lib.hid (Eq.refl _)⟩
    rw [← hpa.out, ← hpm.out, ← hpc.out]
    have n2x := Lib.hid (show ∀ u, SLB eS wo.heap.size (wn.setCell ⟨gA, 2, none⟩ u) (.slice pa pm pc) rest from fun u => by rw [hpa.out, hpm.out, hpc.out]; exact n2'.out u)
    have gAh := Lib.hid (show ((wn.setCell ⟨gA, 2, none⟩ (.slice pa pm pc))).heap[gA]? = some (.cells #[.slice x1 n2 x3, .slice y1 n2 y3, .slice pa pm pc] 37 (0, 0)) from nA.out _)
    have Bf := Lib.hid (show Below wo.heap.size wo ((wn.setCell ⟨gA, 2, none⟩ (.slice pa pm pc))) from nB.out _)
    have g4h := Lib.hid (c4.out _ Bf.out)
    have hend := Lib.hid (show OpV (((wn.setCell ⟨gA, 2, none⟩ (.slice pa pm pc))).setRow (g2 + 1 + 1) #[.slice x1 n2 x3, .slice y1 n2 y3, .slice pa pm pc]) (.agg #[.slice x1 n2 x3, .slice y1 n2 y3, .slice pa pm pc]) (ks) (vs) (rest) ∧ OBd (ks) (vs) (rest) ∧ Below W0.heap.size W0 (((wn.setCell ⟨gA, 2, none⟩ (.slice pa pm pc))).setRow (g2 + 1 + 1) #[.slice x1 n2 x3, .slice y1 n2 y3, .slice pa pm pc]) from ⟨⟨_, _, _, rfl, (SLB.frm (n0.out _) (Frm.setRow _ _ _) (.inl hg4.out)).SL, (SLB.frm (n1.out _) (Frm.setRow _ _ _) (.inl hg4.out)).SL, (SLB.frm (n2x.out _) (Frm.setRow _ _ _) (.inl hg4.out)).SL⟩, nO.out, below_setRow (toW.out _ Bf.out) hg5.out _⟩)
    clear r0 r1 r2 bA
    go_wp2_with (first
     | (refine wpList_load_row rfl 37 (.tmp 5) rfl gA rfl 37 #[.slice x1 n2 x3, .slice y1 n2 y3, .slice pa pm pc] (0, 0) _ gAh.out Tryd.underlying37 rfl size37 ?_)
     | (refine wpList_store_row rfl 37 (.tmp 4) (.tmp 172) rfl (g2 + 1 + 1) #[.slice x1 n2 x3, .slice y1 n2 y3, .slice pa pm pc] rfl rfl 37 _ g4h.out size37 rfl (by simp [Value.oneCell']) ?_))
    refine bodyPost_ret (v := _) (results_cell_row (fn := Tryd.f22) rfl _ _ (g2 + 1 + 1) 37 #[.slice x1 n2 x3, .slice y1 n2 y3, .slice pa pm pc] (0, 0) _ rfl (setRow_heap _ _ _ _ _ _ g4h.out) Tryd.underlying37 rfl size37) rfl ?_
    exact ⟨_, _, _, _, rfl, hend.out⟩
   ·skip
    obtain ⟨hx1, hxq, hxc⟩ := RowK.openI r0.out (by rw [← hN1.out]; omega)
    subst hx1
    clear hxq
    have hkl : k < ks.length := by rw [← hN1.out]; exact kl
    have hv := RowK.openS r1.out (by rw [← hN2.out]; omega)
    obtain ⟨hy1, hyq, hyc⟩ := hv
    subst hy1
    clear hyq
    have i0 : (0 : Int) ≤ (k : Int) := by omega
    have i1 : (k : Int) < (n2 : Int) := by omega
    have i2 : (k : Int) + 1 ≤ (n2 : Int) := by omega
    have i3 : (k : Int) ≤ (x3 : Int) := by omega
    have i4 : (k : Int) + 1 ≤ (x3 : Int) := by omega
    have i5 : (0 : Int) ≤ (k : Int) + 1 := by omega
    have i6 : (k : Int) ≤ (y3 : Int) := by omega
    have i7 : (k : Int) + 1 ≤ (y3 : Int) := by omega
    have i8 : (n2 : Int) ≤ (x3 : Int) := by omega
    have i9 : (n2 : Int) ≤ (y3 : Int) := by omega
    have kb : k ≤ 64 := by omega
    have kb1 : k + 1 ≤ n2 := by omega
    have kb2 : k + 1 ≤ x3 := by omega
    have kb3 : k + 1 ≤ y3 := by omega
    have hkc : Hid (IntKind.i64.wrap ((k : Int) + 1) = ((k + 1 : Nat) : Int)) := Lib.hid (by simp [IntKind.wrap, IntKind.bits, IntKind.signed]; omega)
    have i10 : (0 : Int) ≤ ((k + 1 : Nat) : Int) := by omega
    have i11 : ((k + 1 : Nat) : Int) ≤ (n2 : Int) := by omega
    obtain ⟨pa0, hp0⟩ : ∃ pa : Option Addr, Hid (pa = if x3 = k + 1 then some ⟨g0', 0, none⟩ else some ⟨g0', k + 1, none⟩) := ⟨_, Lib.hid (Eq.refl _)⟩
    obtain ⟨pa1, hp1⟩ : ∃ pa : Option Addr, Hid (pa = if y3 = k + 1 then some ⟨g1', 0, none⟩ else some ⟨g1', k + 1, none⟩) := ⟨_, Lib.hid (Eq.refl _)⟩
    have lA := hgAs.out
    have l1 := r1.out.2.1
    have l2 := r2.out.2.1
    have rd := r0.out.keep (Frm.of_below (Below.refl wn.heap.size wn).drew) (by have := r0.out.2.1; omega)
    obtain ⟨v', w9, ⟨v1, v2, v3, rfl, hv2⟩, hr, hsl, hBB, hob⟩ := cutI rd k hkl (by have := hN1.out; omega) (.slice pa0 (n2 - (k + 1)) (x3 - (k + 1))) (by rw [hp0.out]; exact SLG.dropA (OwnG.SL eI_len rd.2.2.1) hN1.out (k + 1))
    have B9 : Below wn.heap.size wn w9 := (Below.refl wn.heap.size wn).drew.trans hBB
    have bA9 := (B9.block gA lA).trans bA.out
    have cA : w9.cell? ⟨gA, 0, none⟩ = some (.slice (some ⟨g0', 0, none⟩) n2 x3) := cell_of_row _ _ 0 _ 37 (0, 0) bA9
    have fA := free_of_block (i := 0) bA9
    have F9 := Frm.of_below B9
    have F1 := Frm.setCell w9 gA 0 (.slice v1 v2 v3)
    have hob2 : ∀ b, (Value.slice v1 v2 v3).ownBlock = some b → b ≠ gA := fun b hb => by
     rcases hob b hb with e | e
     ·rw [e]; exact d03
     ·have h9 : wn.heap.size ≤ b := e
      omega
    have m0' := Lib.hid (hsl.frm2 F1 hob2)
    have m1' := Lib.hid ((r1.out.keep F9 (by omega)).keep F1 d13)
    have m2' := Lib.hid ((r2.out.keep F9 (by omega)).keep F1 d23)
    have mA := Lib.hid (show (w9.setCell ⟨gA, 0, none⟩ (.slice v1 v2 v3)).heap[gA]? = some (.cells #[.slice v1 v2 v3, .slice (some ⟨g1', 0, none⟩) n2 y3, .slice u1 n3 u3] 37 (0, 0)) from set_field (i := 0) bA9)
    have mB := Lib.hid (show Below wo.heap.size wo (w9.setCell ⟨gA, 0, none⟩ (.slice v1 v2 v3)) from (Bn.out.trans (B9.mono Bn.out.size)).setCell (by have := hgA.out; simpa using this) _)
    have mS := Lib.hid (show gA < (w9.setCell ⟨gA, 0, none⟩ (.slice v1 v2 v3)).heap.size from Nat.lt_of_lt_of_le lA (Nat.le_trans B9.size F1.1))
    have hob2 := Lib.hid hob2
    rename_i xo; clear xo
    have mO := Lib.hid (hO.out.cut k hkl)
    clear rd hsl hBB hob F9 F1 bA9 l1 l2 lA hv2
    go_wp2_with fail
    refine wp_region_F (fun w' : World => w'.cell? ⟨gA, 0, none⟩ = some (.slice (some ⟨g0', 0, none⟩) n2 x3)) 12 (by kernel_rfl) (show wn.drew.cell? ⟨gA, 0, none⟩ = some (.slice (some ⟨g0', 0, none⟩) n2 x3) from f0) (fun hHeld => ?_)
    refine takeA (i := 0) (oi := { dst := some 148, op := .fieldAddr 37 (.tmp 5) 0, type := _, pos := _, after := _, guard := none }) (v := ?_) rfl (Or.inl ⟨by rfl, ?_⟩) (by assumption) ?_
    rotate_left
    ·(intro w hSw; (try dsimp only at hSw); go_simp) <;> with_reducible rfl
    try simp only [Act.put, zT, z0, zS]
    refine takeA (i := 1) (oi := { dst := some 149, op := .load 24 (.tmp 148), type := _, pos := _, after := _, guard := none }) (v := ?_) rfl (Or.inl ⟨by rfl, ?_⟩) (by assumption) ?_
    rotate_left
    ·(intro w hSw; (try dsimp only at hSw); go_simp) <;> with_reducible rfl
    try simp only [Act.put, zT, z0, zS]
    refine takeA (i := 2) (oi := { dst := some 150, op := .move (.tmp 6), type := _, pos := _, after := _, guard := none }) (v := ?_) rfl (Or.inl ⟨by rfl, ?_⟩) (by assumption) ?_
    rotate_left
    ·(intro w hSw; (try dsimp only at hSw); go_simp) <;> with_reducible rfl
    try simp only [Act.put, zT, z0, zS]
    refine takeA (i := 3) (oi := { dst := some 151, op := .move (.tmp 6), type := _, pos := _, after := _, guard := none }) (v := ?_) rfl (Or.inl ⟨by rfl, ?_⟩) (by assumption) ?_
    rotate_left
    ·(intro w hSw; (try dsimp only at hSw); go_simp) <;> with_reducible rfl
    try simp only [Act.put, zT, z0, zS]
    refine takeA (i := 4) (oi := { dst := some 152, op := .slice 24 (.tmp 149) none (some (.tmp 150)) (some (.tmp 151)), type := _, pos := _, after := _, guard := none }) (v := ?_) rfl (Or.inl ⟨by rfl, ?_⟩) (by assumption) ?_
    rotate_left
    ·(intro w hSw; (try dsimp only at hSw); go_simp) <;> with_reducible rfl
    try simp only [Act.put, zT, z0, zS]
    refine takeA (i := 5) (oi := { dst := some 153, op := .fieldAddr 37 (.tmp 5) 0, type := _, pos := _, after := _, guard := none }) (v := ?_) rfl (Or.inl ⟨by rfl, ?_⟩) (by assumption) ?_
    rotate_left
    ·(intro w hSw; (try dsimp only at hSw); go_simp) <;> with_reducible rfl
    try simp only [Act.put, zT, z0, zS]
    refine takeA (i := 6) (oi := { dst := some 154, op := .load 24 (.tmp 153), type := _, pos := _, after := _, guard := none }) (v := ?_) rfl (Or.inl ⟨by rfl, ?_⟩) (by assumption) ?_
    rotate_left
    ·(intro w hSw; (try dsimp only at hSw); go_simp) <;> with_reducible rfl
    try simp only [Act.put, zT, z0, zS]
    refine takeA (i := 7) (oi := { dst := some 155, op := .move (.tmp 6), type := _, pos := _, after := _, guard := none }) (v := ?_) rfl (Or.inl ⟨by rfl, ?_⟩) (by assumption) ?_
    rotate_left
    ·(intro w hSw; (try dsimp only at hSw); go_simp) <;> with_reducible rfl
    try simp only [Act.put, zT, z0, zS]
    refine takeA (i := 8) (oi := { dst := some 156, op := .binOp BinOp.add 3 (.tmp 155) ((Operand.const (Value.int IntKind.i64 1))) 3, type := _, pos := _, after := _, guard := none }) (v := ?_) rfl (Or.inl ⟨by rfl, ?_⟩) (by assumption) ?_
    rotate_left
    ·(intro w hSw; (try dsimp only at hSw); go_simp; rw [hkc.out])
    try simp only [Act.put, zT, z0, zS]
    refine takeA (i := 9) (oi := { dst := some 157, op := .slice 24 (.tmp 154) (some (.tmp 156)) none none, type := _, pos := _, after := _, guard := none }) (v := ?_) rfl (Or.inl ⟨by rfl, ?_⟩) (by assumption) ?_
    rotate_left
    ·(intro w hSw; (try dsimp only at hSw); go_simp) <;> with_reducible rfl
    try simp only [Act.put, zT, z0, zS]
    rw [← hp0.out]
    refine wpAnyF_ready (rs := [10]) (by kernel_rfl) (by simp) ?_
    refine AllReadyF.cons (o := { dst := some 158, op := .call { callee := .builtin .append, args := #[(.tmp 152), (.tmp 157)], argTypes := #[24, 24] }, type := _, pos := _, after := _, guard := none }) rfl (fun K hK => ?_) ?_
    ·skip
     refine wp_append_run (.tmp 152) (.tmp 157) 24 rfl (.slice (some ⟨g0', 0, none⟩) k k) (.slice pa0 (n2 - (k + 1)) (x3 - (k + 1))) rfl rfl _ _ hr ?_
     refine hK.out _ _ cA (fun hHeld => ?_)
     clear hK K
     try simp only [Act.put, zT, z0, zS]
     refine takeA (i := 11) (oi := { dst := some 159, op := .fieldAddr 37 (.tmp 5) 0, type := _, pos := _, after := _, guard := none }) (v := ?_) rfl (Or.inl ⟨by rfl, ?_⟩) (by assumption) ?_
     rotate_left
     ·(intro w hSw; (try dsimp only at hSw); go_simp) <;> with_reducible rfl
     try simp only [Act.put, zT, z0, zS]
     refine wpAnyF_ready (rs := [12]) (by kernel_rfl) (by simp) ?_
     refine AllReadyF.last (o := { dst := none, op := .store 24 (.tmp 159) (.tmp 158), type := _, pos := _, after := _, guard := none }) rfl (fun K hK => ?_) ?_
     ·skip
      go_simp
      go_wp2_with fail
      refine hK.out _ _ ?_
      clear hK K
      try simp only [Act.put, zT, z0, zS]
      refine wpAnyF_done (by kernel_rfl) ?_ _
      clear hr cA fA hHeld
      obtain ⟨wA, hwA⟩ : ∃ W, W = (w9.setCell ⟨gA, 0, none⟩ (.slice v1 v2 v3)) := ⟨_, rfl⟩
      rw [← hwA] at m0' m1' m2' mA mB mS ⊢
      clear hwA
      have f1' : wA.drew.cell? ⟨gA, 1, none⟩ = some (.slice (some ⟨g1', 0, none⟩) n2 y3) := cell_of_row _ _ 1 _ 37 (0, 0) mA.out
      have lA := mS.out
      have l2 := m2'.out.2.1
      have rd := m1'.out.keep (Frm.of_below (Below.refl wA.heap.size wA).drew) (by have := m1'.out.2.1; omega)
      obtain ⟨v', wB, ⟨s1, s2, s3, rfl, hv2⟩, hr, hsl, hBB, hob⟩ := cutS rd k (by rw [← hN2.out]; exact kl) (by have := hN2.out; omega) (.slice pa1 (n2 - (k + 1)) (y3 - (k + 1))) (by rw [hp1.out]; exact SLG.dropA (OwnG.SL eS_len rd.2.2.1) hN2.out (k + 1))
      have B9 : Below wA.heap.size wA wB := (Below.refl wA.heap.size wA).drew.trans hBB
      have bA9 := (B9.block gA lA).trans mA.out
      have cA : wB.cell? ⟨gA, 1, none⟩ = some (.slice (some ⟨g1', 0, none⟩) n2 y3) := cell_of_row _ _ 1 _ 37 (0, 0) bA9
      have fA := free_of_block (i := 1) bA9
      have F9 := Frm.of_below B9
      have F1 := Frm.setCell wB gA 1 (.slice s1 s2 s3)
      have hob3 : ∀ b, (Value.slice s1 s2 s3).ownBlock = some b → b ≠ gA := fun b hb => by
       rcases hob b hb with e | e
       ·rw [e]; exact d13
       ·have h9 : wA.heap.size ≤ b := e
        omega
      have n0 := Lib.hid ((m0'.out.bel B9).frm2 F1 hob2.out)
      have n1 := Lib.hid (hsl.frm2 F1 hob3)
      have n2' := Lib.hid (((m2'.out.keep F9 (by omega)).keep F1 d23).SLB eS_len)
      have nA := Lib.hid (show (wB.setCell ⟨gA, 1, none⟩ (.slice s1 s2 s3)).heap[gA]? = some (.cells #[.slice v1 v2 v3, .slice s1 s2 s3, .slice u1 n3 u3] 37 (0, 0)) from set_field (i := 1) bA9)
      have nB := Lib.hid (show Below wo.heap.size wo (wB.setCell ⟨gA, 1, none⟩ (.slice s1 s2 s3)) from (mB.out.trans (B9.mono mB.out.size)).setCell (by have := hgA.out; simpa using this) _)
      clear rd hsl hBB hob F9 F1 bA9 l2 lA hv2 hob3 hob2 m0' m1' m2' mA mB mS
      go_wp2_with fail
      refine wp_region_F (fun w' : World => w'.cell? ⟨gA, 1, none⟩ = some (.slice (some ⟨g1', 0, none⟩) n2 y3)) 12 (by kernel_rfl) f1' (fun hHeld => ?_)
      refine takeA (i := 0) (oi := { dst := some 160, op := .fieldAddr 37 (.tmp 5) 1, type := _, pos := _, after := _, guard := none }) (v := ?_) rfl (Or.inl ⟨by rfl, ?_⟩) (by assumption) ?_
      rotate_left
      ·(intro w hSw; (try dsimp only at hSw); go_simp) <;> with_reducible rfl
      try simp only [Act.put, zT, z0, zS]
      refine takeA (i := 1) (oi := { dst := some 161, op := .load 35 (.tmp 160), type := _, pos := _, after := _, guard := none }) (v := ?_) rfl (Or.inl ⟨by rfl, ?_⟩) (by assumption) ?_
      rotate_left
      ·(intro w hSw; (try dsimp only at hSw); go_simp) <;> with_reducible rfl
      try simp only [Act.put, zT, z0, zS]
      refine takeA (i := 2) (oi := { dst := some 162, op := .move (.tmp 6), type := _, pos := _, after := _, guard := none }) (v := ?_) rfl (Or.inl ⟨by rfl, ?_⟩) (by assumption) ?_
      rotate_left
      ·(intro w hSw; (try dsimp only at hSw); go_simp) <;> with_reducible rfl
      try simp only [Act.put, zT, z0, zS]
      refine takeA (i := 3) (oi := { dst := some 163, op := .move (.tmp 6), type := _, pos := _, after := _, guard := none }) (v := ?_) rfl (Or.inl ⟨by rfl, ?_⟩) (by assumption) ?_
      rotate_left
      ·(intro w hSw; (try dsimp only at hSw); go_simp) <;> with_reducible rfl
      try simp only [Act.put, zT, z0, zS]
      refine takeA (i := 4) (oi := { dst := some 164, op := .slice 35 (.tmp 161) none (some (.tmp 162)) (some (.tmp 163)), type := _, pos := _, after := _, guard := none }) (v := ?_) rfl (Or.inl ⟨by rfl, ?_⟩) (by assumption) ?_
      rotate_left
      ·(intro w hSw; (try dsimp only at hSw); go_simp) <;> with_reducible rfl
      try simp only [Act.put, zT, z0, zS]
      refine takeA (i := 5) (oi := { dst := some 165, op := .fieldAddr 37 (.tmp 5) 1, type := _, pos := _, after := _, guard := none }) (v := ?_) rfl (Or.inl ⟨by rfl, ?_⟩) (by assumption) ?_
      rotate_left
      ·(intro w hSw; (try dsimp only at hSw); go_simp) <;> with_reducible rfl
      try simp only [Act.put, zT, z0, zS]
      refine takeA (i := 6) (oi := { dst := some 166, op := .load 35 (.tmp 165), type := _, pos := _, after := _, guard := none }) (v := ?_) rfl (Or.inl ⟨by rfl, ?_⟩) (by assumption) ?_
      rotate_left
      ·(intro w hSw; (try dsimp only at hSw); go_simp) <;> with_reducible rfl
      try simp only [Act.put, zT, z0, zS]
      refine takeA (i := 7) (oi := { dst := some 167, op := .move (.tmp 6), type := _, pos := _, after := _, guard := none }) (v := ?_) rfl (Or.inl ⟨by rfl, ?_⟩) (by assumption) ?_
      rotate_left
      ·(intro w hSw; (try dsimp only at hSw); go_simp) <;> with_reducible rfl
      try simp only [Act.put, zT, z0, zS]
      refine takeA (i := 8) (oi := { dst := some 168, op := .binOp BinOp.add 3 (.tmp 167) ((Operand.const (Value.int IntKind.i64 1))) 3, type := _, pos := _, after := _, guard := none }) (v := ?_) rfl (Or.inl ⟨by rfl, ?_⟩) (by assumption) ?_
      rotate_left
      ·(intro w hSw; (try dsimp only at hSw); go_simp; rw [hkc.out])
      try simp only [Act.put, zT, z0, zS]
      refine takeA (i := 9) (oi := { dst := some 169, op := .slice 35 (.tmp 166) (some (.tmp 168)) none none, type := _, pos := _, after := _, guard := none }) (v := ?_) rfl (Or.inl ⟨by rfl, ?_⟩) (by assumption) ?_
      rotate_left
      ·(intro w hSw; (try dsimp only at hSw); go_simp) <;> with_reducible rfl
      try simp only [Act.put, zT, z0, zS]
      rw [← hp1.out]
      refine wpAnyF_ready (rs := [10]) (by kernel_rfl) (by simp) ?_
      refine AllReadyF.cons (o := { dst := some 170, op := .call { callee := .builtin .append, args := #[(.tmp 164), (.tmp 169)], argTypes := #[35, 35] }, type := _, pos := _, after := _, guard := none }) rfl (fun K hK => ?_) ?_
      ·skip
       refine wp_append_run (.tmp 164) (.tmp 169) 35 rfl (.slice (some ⟨g1', 0, none⟩) k k) (.slice pa1 (n2 - (k + 1)) (y3 - (k + 1))) rfl rfl _ _ hr ?_
       refine hK.out _ _ cA (fun hHeld => ?_)
       clear hK K
       try simp only [Act.put, zT, z0, zS]
       refine takeA (i := 11) (oi := { dst := some 171, op := .fieldAddr 37 (.tmp 5) 1, type := _, pos := _, after := _, guard := none }) (v := ?_) rfl (Or.inl ⟨by rfl, ?_⟩) (by assumption) ?_
       rotate_left
       ·(intro w hSw; (try dsimp only at hSw); go_simp) <;> with_reducible rfl
       try simp only [Act.put, zT, z0, zS]
       refine wpAnyF_ready (rs := [12]) (by kernel_rfl) (by simp) ?_
       refine AllReadyF.last (o := { dst := none, op := .store 35 (.tmp 171) (.tmp 170), type := _, pos := _, after := _, guard := none }) rfl (fun K hK => ?_) ?_
       ·skip
        go_simp
        go_wp2_with fail
        refine hK.out _ _ ?_
        clear hK K
        try simp only [Act.put, zT, z0, zS]
        refine wpAnyF_done (by kernel_rfl) ?_ _
        clear hr cA fA hHeld
        have gAh := Lib.hid (show ((wB.setCell ⟨gA, 1, none⟩ (.slice s1 s2 s3))).heap[gA]? = some (.cells #[.slice v1 v2 v3, .slice s1 s2 s3, .slice u1 n3 u3] 37 (0, 0)) from nA.out)
        have Bf := Lib.hid (show Below wo.heap.size wo ((wB.setCell ⟨gA, 1, none⟩ (.slice s1 s2 s3))) from nB.out)
        have g4h := Lib.hid (c4.out _ Bf.out)
        have hend := Lib.hid (show OpV (((wB.setCell ⟨gA, 1, none⟩ (.slice s1 s2 s3))).setRow (g2 + 1 + 1) #[.slice v1 v2 v3, .slice s1 s2 s3, .slice u1 n3 u3]) (.agg #[.slice v1 v2 v3, .slice s1 s2 s3, .slice u1 n3 u3]) (ks.eraseIdx k) (vs.eraseIdx k) (ps) ∧ OBd (ks.eraseIdx k) (vs.eraseIdx k) (ps) ∧ Below W0.heap.size W0 (((wB.setCell ⟨gA, 1, none⟩ (.slice s1 s2 s3))).setRow (g2 + 1 + 1) #[.slice v1 v2 v3, .slice s1 s2 s3, .slice u1 n3 u3]) from ⟨⟨_, _, _, rfl, (SLB.frm n0.out (Frm.setRow _ _ _) (.inl hg4.out)).SL, (SLB.frm n1.out (Frm.setRow _ _ _) (.inl hg4.out)).SL, (SLB.frm n2'.out (Frm.setRow _ _ _) (.inl hg4.out)).SL⟩, mO.out, below_setRow (toW.out _ Bf.out) hg5.out _⟩)
        clear r0 r1 r2 bA
        go_wp2_with (first
         | (refine wpList_load_row rfl 37 (.tmp 5) rfl gA rfl 37 #[.slice v1 v2 v3, .slice s1 s2 s3, .slice u1 n3 u3] (0, 0) _ gAh.out Tryd.underlying37 rfl size37 ?_)
         | (refine wpList_store_row rfl 37 (.tmp 4) (.tmp 172) rfl (g2 + 1 + 1) #[.slice v1 v2 v3, .slice s1 s2 s3, .slice u1 n3 u3] rfl rfl 37 _ g4h.out size37 rfl (by simp [Value.oneCell']) ?_))
        refine bodyPost_ret (v := _) (results_cell_row (fn := Tryd.f22) rfl _ _ (g2 + 1 + 1) 37 #[.slice v1 v2 v3, .slice s1 s2 s3, .slice u1 n3 u3] (0, 0) _ rfl (setRow_heap _ _ _ _ _ _ g4h.out) Tryd.underlying37 rfl size37) rfl ?_
        exact ⟨_, _, _, _, rfl, hend.out⟩
       exact AllReadyF.nil
      exact AllReadyF.nil
     exact AllReadyF.nil
    exact AllReadyF.nil
  ·skip
   have tB : ¬ (0 : Int) < (n3 : Int) := by omega
   go_wp2_with fail
   refine (pk.out _).mono ?_
   rintro e w' ⟨rfl, rfl⟩
   go_wp2_with fail
   refine (p0.out _).mono ?_
   rintro e w' ⟨rfl, rfl⟩
   have hs' : s = 0 ∨ s = 1 ∨ s = 2 ∨ s = 3 ∨ s = 4 ∨ s = 5 ∨ s = 6 := by omega
   rcases hs' with rfl | rfl | rfl | rfl | rfl | rfl | rfl
   ·skip
    obtain ⟨hx1, hxq, hxc⟩ := RowK.openI r0.out (by rw [← hN1.out]; omega)
    subst hx1
    clear hxq
    have hkl : k < ks.length := by rw [← hN1.out]; exact kl
    have i0 : (0 : Int) ≤ (k : Int) := by omega
    have i1 : (k : Int) < (n2 : Int) := by omega
    have p2 := Lib.hid (fun W => Wr.pick_any h2 (66 : Int) W hh2.1 hh2.2 (by omega) (by omega))
    obtain ⟨y, hy, yl⟩ : ∃ j : Nat, Wr.pk h2 (66 : Int) = (j : Int) ∧ j < 66 := ⟨(Wr.pk h2 (66 : Int)).toNat, by have := Wr.pk_lo h2 (66 : Int) (by omega); omega, by have := Wr.pk_lo h2 (66 : Int) (by omega); have := Wr.pk_lt h2 (66 : Int) (by omega); omega⟩
    rw [hy] at p2
    clear hy
    have z0 : (0 : Int) ≤ (y : Int) := by omega
    have z1 : (y : Int) < 66 := by omega
    have rd := r0.out.keep (Frm.of_below (Below.refl wn.heap.size wn).drew) (by have := r0.out.2.1; omega)
    obtain ⟨cd, fd⟩ := rd.cellI k hkl
    have F1 : Frm wn (wn.drew.setCell ⟨g0', k, none⟩ (.int .i64 ((y : Int) - 1))) g0' := (Frm.drew wn g0').trans (Frm.setCell _ _ _ _)
    have n0 := Lib.hid (rd.setI k hkl ((y : Int) - 1))
    have n1 := Lib.hid (r1.out.keep F1 (Ne.symm d01))
    have n2' := Lib.hid (r2.out.keep F1 (Ne.symm d02))
    have nA := Lib.hid ((F1.2 gA hgAs.out (Ne.symm d03)).trans bA.out)
    have nB := Lib.hid (show Below wo.heap.size wo (wn.drew.setCell ⟨g0', k, none⟩ (.int .i64 ((y : Int) - 1))) from (Bn.out.drew).setCell (by have := gz0.out; simpa using this) _)
    have nO := Lib.hid (hO.out.setK k ((y : Int) - 1) (by unfold I64; omega))
    have hS0 := Lib.hid (show wn.drew.cell? ⟨gA, 0, none⟩ = some (.slice (some ⟨g0', 0, none⟩) n2 x3) ∧ wn.drew.cell? ⟨g2 + 1, 2, none⟩ = some (.int .i64 h2) from ⟨f0, e2⟩)
    clear rd F1
    go_wp2_with fail
    refine wp_region_F (fun w' : World => w'.cell? ⟨gA, 0, none⟩ = some (.slice (some ⟨g0', 0, none⟩) n2 x3) ∧ w'.cell? ⟨g2 + 1, 2, none⟩ = some (.int .i64 h2)) 8 (by kernel_rfl) hS0.out (fun hHeld => ?_)
    refine takeA (i := 0) (oi := { dst := some 51, op := .fieldAddr 37 (.tmp 5) 0, type := _, pos := _, after := _, guard := none }) (v := ?_) rfl (Or.inl ⟨by rfl, ?_⟩) (by assumption) ?_
    rotate_left
    ·(intro w hSw; (try dsimp only at hSw); go_simp) <;> with_reducible rfl
    try simp only [Act.put, zT, z0, zS]
    refine takeA (i := 1) (oi := { dst := some 52, op := .load 24 (.tmp 51), type := _, pos := _, after := _, guard := none }) (v := ?_) rfl (Or.inl ⟨by rfl, ?_⟩) (by assumption) ?_
    rotate_left
    ·(intro w hSw; (try dsimp only at hSw); go_simp) <;> with_reducible rfl
    try simp only [Act.put, zT, z0, zS]
    refine takeA (i := 2) (oi := { dst := some 53, op := .move (.tmp 6), type := _, pos := _, after := _, guard := none }) (v := ?_) rfl (Or.inl ⟨by rfl, ?_⟩) (by assumption) ?_
    rotate_left
    ·(intro w hSw; (try dsimp only at hSw); go_simp) <;> with_reducible rfl
    try simp only [Act.put, zT, z0, zS]
    refine takeA (i := 3) (oi := { dst := some 54, op := .indexAddr 42 (.tmp 3) ((Operand.const (Value.int IntKind.i64 2))), type := _, pos := _, after := _, guard := none }) (v := ?_) rfl (Or.inl ⟨by rfl, ?_⟩) (by assumption) ?_
    rotate_left
    ·(intro w hSw; (try dsimp only at hSw); go_simp) <;> with_reducible rfl
    try simp only [Act.put, zT, z0, zS]
    refine takeA (i := 4) (oi := { dst := some 55, op := .load 3 (.tmp 54), type := _, pos := _, after := _, guard := none }) (v := ?_) rfl (Or.inl ⟨by rfl, ?_⟩) (by assumption) ?_
    rotate_left
    ·(intro w hSw; (try dsimp only at hSw); go_simp) <;> with_reducible rfl
    try simp only [Act.put, zT, z0, zS]
    refine wpAnyF_ready (rs := [5]) (by kernel_rfl) (by simp) ?_
    refine AllReadyF.cons (o := { dst := some 56, op := .call { callee := .value (.func 21), args := #[(.tmp 55), (Operand.const (Value.int IntKind.i64 66))], argTypes := #[3, 3] }, type := _, pos := _, after := _, guard := none }) rfl (fun K hK => ?_) ?_
    ·skip
     go_simp
     refine (p2.out _).mono ?_
     rintro e w' ⟨rfl, rfl⟩
     go_wp2_with fail
     refine hK.out _ _ ?_ (fun hHeld => ?_)
     ·exact hHeld
     clear hK K
     try simp only [Act.put, zT, z0, zS]
     refine takeA (i := 6) (oi := { dst := some 57, op := .binOp BinOp.sub 3 (.tmp 56) ((Operand.const (Value.int IntKind.i64 1))) 3, type := _, pos := _, after := _, guard := none }) (v := ?_) rfl (Or.inl ⟨by rfl, ?_⟩) (by assumption) ?_
     rotate_left
     ·(intro w hSw; (try dsimp only at hSw); go_simp) <;> with_reducible rfl
     try simp only [Act.put, zT, z0, zS]
     refine takeA (i := 7) (oi := { dst := some 58, op := .indexAddr 24 (.tmp 52) (.tmp 53), type := _, pos := _, after := _, guard := none }) (v := ?_) rfl (Or.inl ⟨by rfl, ?_⟩) (by assumption) ?_
     rotate_left
     ·(intro w hSw; (try dsimp only at hSw); go_simp) <;> with_reducible rfl
     try simp only [Act.put, zT, z0, zS]
     refine wpAnyF_ready (rs := [8]) (by kernel_rfl) (by simp) ?_
     refine AllReadyF.last (o := { dst := none, op := .store 3 (.tmp 58) (.tmp 57), type := _, pos := _, after := _, guard := none }) rfl (fun K hK => ?_) ?_
     ·skip
      go_simp
      go_wp2_with fail
      refine hK.out _ _ ?_
      clear hK K
      try simp only [Act.put, zT, z0, zS]
      refine wpAnyF_done (by kernel_rfl) ?_ _
      have gAh := Lib.hid (show ((wn.drew.setCell ⟨g0', k, none⟩ (.int .i64 ((y : Int) - 1)))).heap[gA]? = some (.cells #[.slice (some ⟨g0', 0, none⟩) n2 x3, .slice y1 n2 y3, .slice u1 n3 u3] 37 (0, 0)) from nA.out)
      have Bf := Lib.hid (show Below wo.heap.size wo ((wn.drew.setCell ⟨g0', k, none⟩ (.int .i64 ((y : Int) - 1)))) from nB.out)
      have g4h := Lib.hid (c4.out _ Bf.out)
      have hend := Lib.hid (show OpV (((wn.drew.setCell ⟨g0', k, none⟩ (.int .i64 ((y : Int) - 1)))).setRow (g2 + 1 + 1) #[.slice (some ⟨g0', 0, none⟩) n2 x3, .slice y1 n2 y3, .slice u1 n3 u3]) (.agg #[.slice (some ⟨g0', 0, none⟩) n2 x3, .slice y1 n2 y3, .slice u1 n3 u3]) (ks.set k ((y : Int) - 1)) (vs) (ps) ∧ OBd (ks.set k ((y : Int) - 1)) (vs) (ps) ∧ Below W0.heap.size W0 (((wn.drew.setCell ⟨g0', k, none⟩ (.int .i64 ((y : Int) - 1)))).setRow (g2 + 1 + 1) #[.slice (some ⟨g0', 0, none⟩) n2 x3, .slice y1 n2 y3, .slice u1 n3 u3]) from ⟨⟨_, _, _, rfl, (SLB.frm (n0.out.SLB eI_len) (Frm.setRow _ _ _) (.inl hg4.out)).SL, (SLB.frm (n1.out.SLB eS_len) (Frm.setRow _ _ _) (.inl hg4.out)).SL, (SLB.frm (n2'.out.SLB eS_len) (Frm.setRow _ _ _) (.inl hg4.out)).SL⟩, nO.out, below_setRow (toW.out _ Bf.out) hg5.out _⟩)
      clear r0 r1 r2 bA
      go_wp2_with (first
       | (refine wpList_load_row rfl 37 (.tmp 5) rfl gA rfl 37 #[.slice (some ⟨g0', 0, none⟩) n2 x3, .slice y1 n2 y3, .slice u1 n3 u3] (0, 0) _ gAh.out Tryd.underlying37 rfl size37 ?_)
       | (refine wpList_store_row rfl 37 (.tmp 4) (.tmp 172) rfl (g2 + 1 + 1) #[.slice (some ⟨g0', 0, none⟩) n2 x3, .slice y1 n2 y3, .slice u1 n3 u3] rfl rfl 37 _ g4h.out size37 rfl (by simp [Value.oneCell']) ?_))
      refine bodyPost_ret (v := _) (results_cell_row (fn := Tryd.f22) rfl _ _ (g2 + 1 + 1) 37 #[.slice (some ⟨g0', 0, none⟩) n2 x3, .slice y1 n2 y3, .slice u1 n3 u3] (0, 0) _ rfl (setRow_heap _ _ _ _ _ _ g4h.out) Tryd.underlying37 rfl size37) rfl ?_
      exact ⟨_, _, _, _, rfl, hend.out⟩
     exact AllReadyF.nil
    exact AllReadyF.nil
   ·skip
    obtain ⟨hx1, hxq, hxc⟩ := RowK.openS r1.out (by rw [← hN2.out]; omega)
    subst hx1
    clear hxq
    have hkl : k < vs.length := by rw [← hN2.out]; exact kl
    have i0 : (0 : Int) ≤ (k : Int) := by omega
    have i1 : (k : Int) < (n2 : Int) := by omega
    have p2 := Lib.hid (fun W => Wr.pick_any h2 (3 : Int) W hh2.1 hh2.2 (by omega) (by omega))
    obtain ⟨y, hy, yl⟩ : ∃ j : Nat, Wr.pk h2 (3 : Int) = (j : Int) ∧ j < 3 := ⟨(Wr.pk h2 (3 : Int)).toNat, by have := Wr.pk_lo h2 (3 : Int) (by omega); omega, by have := Wr.pk_lo h2 (3 : Int) (by omega); have := Wr.pk_lt h2 (3 : Int) (by omega); omega⟩
    rw [hy] at p2
    clear hy
    have z0 : (0 : Int) ≤ (y : Int) := by omega
    have z1 : (y : Int) < 3 := by omega
    have s1h : ([.string ⟨#[]⟩, .string ⟨#[97]⟩, .string ⟨#[122, 122]⟩] : List Value)[y]? = some (.string ⟨(sz3 y).toArray⟩) := sz3_at y (by omega)
    have hsl := sz3_len y
    generalize sz3 y = Z at *
    have lA := hgAs.out
    have l0 := r0.out.2.1
    have l1 := r1.out.2.1
    have l2 := r2.out.2.1
    have Ba : Below wn.heap.size wn ((wn.alloc (.cells #[.string ⟨#[]⟩, .string ⟨#[97]⟩, .string ⟨#[122, 122]⟩] 9)).drew) := ((Below.refl wn.heap.size wn).alloc (Nat.le_refl _) _).drew
    have F8 := Frm.of_below Ba
    have rd := r1.out.keep F8 (by omega)
    obtain ⟨cd, fd⟩ := rd.cellS k hkl
    have F9 := Frm.setCell ((wn.alloc (.cells #[.string ⟨#[]⟩, .string ⟨#[97]⟩, .string ⟨#[122, 122]⟩] 9)).drew) g1' k (.string ⟨Z.toArray⟩)
    have n0 := Lib.hid (((r0.out.keep F8 (by omega)).keep F9 d01).SLB eI_len)
    have n1 := Lib.hid ((rd.setS k hkl Z).SLB eS_len)
    have n2' := Lib.hid (((r2.out.keep F8 (by omega)).keep F9 (Ne.symm d12)).SLB eS_len)
    have nA := Lib.hid ((F9.2 gA (Nat.lt_of_lt_of_le lA Ba.size) (Ne.symm d13)).trans ((Ba.block gA lA).trans bA.out))
    have nB := Lib.hid (show Below wo.heap.size wo (((wn.alloc (.cells #[.string ⟨#[]⟩, .string ⟨#[97]⟩, .string ⟨#[122, 122]⟩] 9)).drew).setCell ⟨g1', k, none⟩ (.string ⟨Z.toArray⟩)) from (Bn.out.trans (Ba.mono Bn.out.size)).setCell (by have := gz1.out; simpa using this) _)
    have nO := Lib.hid (hO.out.setV k Z (by omega))
    have sK := Lib.hid (show ∀ W, Below wn.heap.size wn W → W.cell? ⟨gA, 1, none⟩ = some (.slice (some ⟨g1', 0, none⟩) n2 y3) ∧ W.cell? ⟨g2 + 1, 2, none⟩ = some (.int .i64 h2) from fun W BW => ⟨cell_of_row _ _ 1 _ 37 (0, 0) ((BW.block gA lA).trans bA.out), (ch.out W (Bn.out.trans (BW.mono Bn.out.size))).2.2⟩)
    have sA := Lib.hid (sK.out _ Ba)
    have cL : ((wn.alloc (.cells #[.string ⟨#[]⟩, .string ⟨#[97]⟩, .string ⟨#[122, 122]⟩] 9)).drew).cell? ⟨wn.heap.size, y, none⟩ = some (.string ⟨Z.toArray⟩) := (cell_of_row _ _ y _ 9 (0, 0) (show ((wn.alloc (.cells #[.string ⟨#[]⟩, .string ⟨#[97]⟩, .string ⟨#[122, 122]⟩] 9)).drew).heap[wn.heap.size]? = _ from heap_alloc_new wn _)).trans (by simpa using s1h)
    clear rd F8 F9 Ba lA l0 l1 l2
    go_wp2_with fail
    refine wp_region_F (fun w' : World => w'.cell? ⟨gA, 1, none⟩ = some (.slice (some ⟨g1', 0, none⟩) n2 y3) ∧ w'.cell? ⟨g2 + 1, 2, none⟩ = some (.int .i64 h2)) 10 (by kernel_rfl) (sK.out _ (Below.refl _ wn).drew) (fun hHeld => ?_)
    refine takeA (i := 0) (oi := { dst := some 65, op := .fieldAddr 37 (.tmp 5) 1, type := _, pos := _, after := _, guard := none }) (v := ?_) rfl (Or.inl ⟨by rfl, ?_⟩) (by assumption) ?_
    rotate_left
    ·(intro w hSw; (try dsimp only at hSw); go_simp) <;> with_reducible rfl
    try simp only [Act.put, zT, z0, zS]
    refine takeA (i := 1) (oi := { dst := some 66, op := .load 35 (.tmp 65), type := _, pos := _, after := _, guard := none }) (v := ?_) rfl (Or.inl ⟨by rfl, ?_⟩) (by assumption) ?_
    rotate_left
    ·(intro w hSw; (try dsimp only at hSw); go_simp) <;> with_reducible rfl
    try simp only [Act.put, zT, z0, zS]
    refine takeA (i := 2) (oi := { dst := some 67, op := .move (.tmp 6), type := _, pos := _, after := _, guard := none }) (v := ?_) rfl (Or.inl ⟨by rfl, ?_⟩) (by assumption) ?_
    rotate_left
    ·(intro w hSw; (try dsimp only at hSw); go_simp) <;> with_reducible rfl
    try simp only [Act.put, zT, z0, zS]
    refine takeA (i := 4) (oi := { dst := some 69, op := .indexAddr 42 (.tmp 3) ((Operand.const (Value.int IntKind.i64 2))), type := _, pos := _, after := _, guard := none }) (v := ?_) rfl (Or.inl ⟨by rfl, ?_⟩) (by assumption) ?_
    rotate_left
    ·(intro w hSw; (try dsimp only at hSw); go_simp) <;> with_reducible rfl
    try simp only [Act.put, zT, z0, zS]
    refine takeA (i := 5) (oi := { dst := some 70, op := .load 3 (.tmp 69), type := _, pos := _, after := _, guard := none }) (v := ?_) rfl (Or.inl ⟨by rfl, ?_⟩) (by assumption) ?_
    rotate_left
    ·(intro w hSw; (try dsimp only at hSw); go_simp) <;> with_reducible rfl
    try simp only [Act.put, zT, z0, zS]
    refine wpAnyF_ready (rs := [3, 6]) (by kernel_rfl) (by simp) ?_
    refine AllReadyF.cons (o := { dst := some 68, op := .buildSlice 35 3 #[(0, (Operand.const (Value.string { data := #[] }))), (1, (Operand.const (Value.string { data := #[97] }))), (2, (Operand.const (Value.string { data := #[122, 122] })))], type := _, pos := _, after := _, guard := none }) rfl (fun K hK => ?_) ?_
    ·skip
     go_simp
     go_wp2_with fail
     refine hK.out _ _ sA.out (fun hHeld => ?_)
     clear hK K
     try simp only [Act.put, zT, z0, zS]
     refine wpAnyF_ready (rs := [6]) (by kernel_rfl) (by simp) ?_
     refine AllReadyF.cons (o := { dst := some 71, op := .call { callee := .value (.func 21), args := #[(.tmp 70), (Operand.const (Value.int IntKind.i64 3))], argTypes := #[3, 3] }, type := _, pos := _, after := _, guard := none }) rfl (fun K hK => ?_) ?_
     ·skip
      go_simp
      refine (p2.out _).mono ?_
      rintro e w' ⟨rfl, rfl⟩
      go_wp2_with fail
      refine hK.out _ _ hHeld (fun hHeld => ?_)
      clear hK K
      try simp only [Act.put, zT, z0, zS]
      obtain ⟨wA, hwA⟩ : ∃ W, W = (wn.alloc (.cells #[.string ⟨#[]⟩, .string ⟨#[97]⟩, .string ⟨#[122, 122]⟩] 9)).drew := ⟨_, rfl⟩
      rw [← hwA] at cd fd n0 n1 n2' nA nB sA cL ⊢
      clear hwA s1h
      refine takeA (i := 7) (oi := { dst := some 72, op := .indexAddr 35 (.tmp 68) (.tmp 71), type := _, pos := _, after := _, guard := none }) (v := ?_) rfl (Or.inl ⟨by rfl, ?_⟩) (by assumption) ?_
      rotate_left
      ·(intro w hSw; (try dsimp only at hSw); go_simp) <;> with_reducible rfl
      try simp only [Act.put, zT, z0, zS]
      refine wpAnyF_ready (rs := [8]) (by kernel_rfl) (by simp) ?_
      refine AllReadyF.cons (o := { dst := some 73, op := .load 9 (.tmp 72), type := _, pos := _, after := _, guard := none }) rfl (fun K hK => ?_) ?_
      ·skip
       go_simp
       go_wp2_with fail
       refine hK.out _ _ sA.out (fun hHeld => ?_)
       clear hK K
       try simp only [Act.put, zT, z0, zS]
       refine takeA (i := 9) (oi := { dst := some 74, op := .indexAddr 35 (.tmp 66) (.tmp 67), type := _, pos := _, after := _, guard := none }) (v := ?_) rfl (Or.inl ⟨by rfl, ?_⟩) (by assumption) ?_
       rotate_left
       ·(intro w hSw; (try dsimp only at hSw); go_simp) <;> with_reducible rfl
       try simp only [Act.put, zT, z0, zS]
       refine wpAnyF_ready (rs := [10]) (by kernel_rfl) (by simp) ?_
       refine AllReadyF.last (o := { dst := none, op := .store 9 (.tmp 74) (.tmp 73), type := _, pos := _, after := _, guard := none }) rfl (fun K hK => ?_) ?_
       ·skip
        go_simp
        go_wp2_with fail
        refine hK.out _ _ ?_
        clear hK K
        try simp only [Act.put, zT, z0, zS]
        refine wpAnyF_done (by kernel_rfl) ?_ _
        have gAh := Lib.hid (show ((wA.setCell ⟨g1', k, none⟩ (.string ⟨Z.toArray⟩))).heap[gA]? = some (.cells #[.slice x1 n2 x3, .slice (some ⟨g1', 0, none⟩) n2 y3, .slice u1 n3 u3] 37 (0, 0)) from nA.out)
        have Bf := Lib.hid (show Below wo.heap.size wo ((wA.setCell ⟨g1', k, none⟩ (.string ⟨Z.toArray⟩))) from nB.out)
        have g4h := Lib.hid (c4.out _ Bf.out)
        have hend := Lib.hid (show OpV (((wA.setCell ⟨g1', k, none⟩ (.string ⟨Z.toArray⟩))).setRow (g2 + 1 + 1) #[.slice x1 n2 x3, .slice (some ⟨g1', 0, none⟩) n2 y3, .slice u1 n3 u3]) (.agg #[.slice x1 n2 x3, .slice (some ⟨g1', 0, none⟩) n2 y3, .slice u1 n3 u3]) (ks) (vs.set k Z) (ps) ∧ OBd (ks) (vs.set k Z) (ps) ∧ Below W0.heap.size W0 (((wA.setCell ⟨g1', k, none⟩ (.string ⟨Z.toArray⟩))).setRow (g2 + 1 + 1) #[.slice x1 n2 x3, .slice (some ⟨g1', 0, none⟩) n2 y3, .slice u1 n3 u3]) from ⟨⟨_, _, _, rfl, (SLB.frm n0.out (Frm.setRow _ _ _) (.inl hg4.out)).SL, (SLB.frm n1.out (Frm.setRow _ _ _) (.inl hg4.out)).SL, (SLB.frm n2'.out (Frm.setRow _ _ _) (.inl hg4.out)).SL⟩, nO.out, below_setRow (toW.out _ Bf.out) hg5.out _⟩)
        clear r0 r1 r2 bA
        go_wp2_with (first
         | (refine wpList_load_row rfl 37 (.tmp 5) rfl gA rfl 37 #[.slice x1 n2 x3, .slice (some ⟨g1', 0, none⟩) n2 y3, .slice u1 n3 u3] (0, 0) _ gAh.out Tryd.underlying37 rfl size37 ?_)
         | (refine wpList_store_row rfl 37 (.tmp 4) (.tmp 172) rfl (g2 + 1 + 1) #[.slice x1 n2 x3, .slice (some ⟨g1', 0, none⟩) n2 y3, .slice u1 n3 u3] rfl rfl 37 _ g4h.out size37 rfl (by simp [Value.oneCell']) ?_))
        refine bodyPost_ret (v := _) (results_cell_row (fn := Tryd.f22) rfl _ _ (g2 + 1 + 1) 37 #[.slice x1 n2 x3, .slice (some ⟨g1', 0, none⟩) n2 y3, .slice u1 n3 u3] (0, 0) _ rfl (setRow_heap _ _ _ _ _ _ g4h.out) Tryd.underlying37 rfl size37) rfl ?_
        exact ⟨_, _, _, _, rfl, hend.out⟩
       exact AllReadyF.nil
      exact AllReadyF.nil
     exact AllReadyF.nil
    refine AllReadyF.cons (o := { dst := some 71, op := .call { callee := .value (.func 21), args := #[(.tmp 70), (Operand.const (Value.int IntKind.i64 3))], argTypes := #[3, 3] }, type := _, pos := _, after := _, guard := none }) rfl (fun K hK => ?_) ?_
    ·skip
     go_simp
     refine (p2.out _).mono ?_
     rintro e w' ⟨rfl, rfl⟩
     go_wp2_with fail
     refine hK.out _ _ hHeld (fun hHeld => ?_)
     clear hK K
     try simp only [Act.put, zT, z0, zS]
     refine wpAnyF_ready (rs := [3]) (by kernel_rfl) (by simp) ?_
     refine AllReadyF.cons (o := { dst := some 68, op := .buildSlice 35 3 #[(0, (Operand.const (Value.string { data := #[] }))), (1, (Operand.const (Value.string { data := #[97] }))), (2, (Operand.const (Value.string { data := #[122, 122] })))], type := _, pos := _, after := _, guard := none }) rfl (fun K hK => ?_) ?_
     ·skip
      go_simp
      go_wp2_with fail
      refine hK.out _ _ sA.out (fun hHeld => ?_)
      clear hK K
      try simp only [Act.put, zT, z0, zS]
      obtain ⟨wA, hwA⟩ : ∃ W, W = (wn.alloc (.cells #[.string ⟨#[]⟩, .string ⟨#[97]⟩, .string ⟨#[122, 122]⟩] 9)).drew := ⟨_, rfl⟩
      rw [← hwA] at cd fd n0 n1 n2' nA nB sA cL ⊢
      clear hwA s1h
      refine takeA (i := 7) (oi := { dst := some 72, op := .indexAddr 35 (.tmp 68) (.tmp 71), type := _, pos := _, after := _, guard := none }) (v := ?_) rfl (Or.inl ⟨by rfl, ?_⟩) (by assumption) ?_
      rotate_left
      ·(intro w hSw; (try dsimp only at hSw); go_simp) <;> with_reducible rfl
      try simp only [Act.put, zT, z0, zS]
      refine wpAnyF_ready (rs := [8]) (by kernel_rfl) (by simp) ?_
      refine AllReadyF.cons (o := { dst := some 73, op := .load 9 (.tmp 72), type := _, pos := _, after := _, guard := none }) rfl (fun K hK => ?_) ?_
      ·skip
       go_simp
       go_wp2_with fail
       refine hK.out _ _ sA.out (fun hHeld => ?_)
       clear hK K
       try simp only [Act.put, zT, z0, zS]
       refine takeA (i := 9) (oi := { dst := some 74, op := .indexAddr 35 (.tmp 66) (.tmp 67), type := _, pos := _, after := _, guard := none }) (v := ?_) rfl (Or.inl ⟨by rfl, ?_⟩) (by assumption) ?_
       rotate_left
       ·(intro w hSw; (try dsimp only at hSw); go_simp) <;> with_reducible rfl
       try simp only [Act.put, zT, z0, zS]
       refine wpAnyF_ready (rs := [10]) (by kernel_rfl) (by simp) ?_
       refine AllReadyF.last (o := { dst := none, op := .store 9 (.tmp 74) (.tmp 73), type := _, pos := _, after := _, guard := none }) rfl (fun K hK => ?_) ?_
       ·skip
        go_simp
        go_wp2_with fail
        refine hK.out _ _ ?_
        clear hK K
        try simp only [Act.put, zT, z0, zS]
        refine wpAnyF_done (by kernel_rfl) ?_ _
        have gAh := Lib.hid (show ((wA.setCell ⟨g1', k, none⟩ (.string ⟨Z.toArray⟩))).heap[gA]? = some (.cells #[.slice x1 n2 x3, .slice (some ⟨g1', 0, none⟩) n2 y3, .slice u1 n3 u3] 37 (0, 0)) from nA.out)
        have Bf := Lib.hid (show Below wo.heap.size wo ((wA.setCell ⟨g1', k, none⟩ (.string ⟨Z.toArray⟩))) from nB.out)
        have g4h := Lib.hid (c4.out _ Bf.out)
        have hend := Lib.hid (show OpV (((wA.setCell ⟨g1', k, none⟩ (.string ⟨Z.toArray⟩))).setRow (g2 + 1 + 1) #[.slice x1 n2 x3, .slice (some ⟨g1', 0, none⟩) n2 y3, .slice u1 n3 u3]) (.agg #[.slice x1 n2 x3, .slice (some ⟨g1', 0, none⟩) n2 y3, .slice u1 n3 u3]) (ks) (vs.set k Z) (ps) ∧ OBd (ks) (vs.set k Z) (ps) ∧ Below W0.heap.size W0 (((wA.setCell ⟨g1', k, none⟩ (.string ⟨Z.toArray⟩))).setRow (g2 + 1 + 1) #[.slice x1 n2 x3, .slice (some ⟨g1', 0, none⟩) n2 y3, .slice u1 n3 u3]) from ⟨⟨_, _, _, rfl, (SLB.frm n0.out (Frm.setRow _ _ _) (.inl hg4.out)).SL, (SLB.frm n1.out (Frm.setRow _ _ _) (.inl hg4.out)).SL, (SLB.frm n2'.out (Frm.setRow _ _ _) (.inl hg4.out)).SL⟩, nO.out, below_setRow (toW.out _ Bf.out) hg5.out _⟩)
        clear r0 r1 r2 bA
        go_wp2_with (first
         | (refine wpList_load_row rfl 37 (.tmp 5) rfl gA rfl 37 #[.slice x1 n2 x3, .slice (some ⟨g1', 0, none⟩) n2 y3, .slice u1 n3 u3] (0, 0) _ gAh.out Tryd.underlying37 rfl size37 ?_)
         | (refine wpList_store_row rfl 37 (.tmp 4) (.tmp 172) rfl (g2 + 1 + 1) #[.slice x1 n2 x3, .slice (some ⟨g1', 0, none⟩) n2 y3, .slice u1 n3 u3] rfl rfl 37 _ g4h.out size37 rfl (by simp [Value.oneCell']) ?_))
        refine bodyPost_ret (v := _) (results_cell_row (fn := Tryd.f22) rfl _ _ (g2 + 1 + 1) 37 #[.slice x1 n2 x3, .slice (some ⟨g1', 0, none⟩) n2 y3, .slice u1 n3 u3] (0, 0) _ rfl (setRow_heap _ _ _ _ _ _ g4h.out) Tryd.underlying37 rfl size37) rfl ?_
        exact ⟨_, _, _, _, rfl, hend.out⟩
       exact AllReadyF.nil
      exact AllReadyF.nil
     exact AllReadyF.nil
    exact AllReadyF.nil
   ·skip
    have gAh := Lib.hid (show (wn).heap[gA]? = some (.cells #[.slice x1 n2 x3, .slice y1 n2 y3, .slice u1 n3 u3] 37 (0, 0)) from bA.out)
    have Bf := Lib.hid (show Below wo.heap.size wo (wn) from Bn.out)
    have g4h := Lib.hid (c4.out _ Bf.out)
    have hend := Lib.hid (show OpV ((wn).setRow (g2 + 1 + 1) #[.slice x1 n2 x3, .slice y1 n2 y3, .slice u1 n3 u3]) (.agg #[.slice x1 n2 x3, .slice y1 n2 y3, .slice u1 n3 u3]) (ks) (vs) (ps) ∧ OBd (ks) (vs) (ps) ∧ Below W0.heap.size W0 ((wn).setRow (g2 + 1 + 1) #[.slice x1 n2 x3, .slice y1 n2 y3, .slice u1 n3 u3]) from ⟨⟨_, _, _, rfl, (SLB.frm (r0.out.SLB eI_len) (Frm.setRow _ _ _) (.inl hg4.out)).SL, (SLB.frm (r1.out.SLB eS_len) (Frm.setRow _ _ _) (.inl hg4.out)).SL, (SLB.frm (r2.out.SLB eS_len) (Frm.setRow _ _ _) (.inl hg4.out)).SL⟩, hO.out, below_setRow (toW.out _ Bf.out) hg5.out _⟩)
    clear r0 r1 r2 bA
    go_wp2_with (first
     | (refine wpList_load_row rfl 37 (.tmp 5) rfl gA rfl 37 #[.slice x1 n2 x3, .slice y1 n2 y3, .slice u1 n3 u3] (0, 0) _ gAh.out Tryd.underlying37 rfl size37 ?_)
     | (refine wpList_store_row rfl 37 (.tmp 4) (.tmp 172) rfl (g2 + 1 + 1) #[.slice x1 n2 x3, .slice y1 n2 y3, .slice u1 n3 u3] rfl rfl 37 _ g4h.out size37 rfl (by simp [Value.oneCell']) ?_))
    refine bodyPost_ret (v := _) (results_cell_row (fn := Tryd.f22) rfl _ _ (g2 + 1 + 1) 37 #[.slice x1 n2 x3, .slice y1 n2 y3, .slice u1 n3 u3] (0, 0) _ rfl (setRow_heap _ _ _ _ _ _ g4h.out) Tryd.underlying37 rfl size37) rfl ?_
    exact ⟨_, _, _, _, rfl, hend.out⟩
   ·skip
    have gAh := Lib.hid (show (wn).heap[gA]? = some (.cells #[.slice x1 n2 x3, .slice y1 n2 y3, .slice u1 n3 u3] 37 (0, 0)) from bA.out)
    have Bf := Lib.hid (show Below wo.heap.size wo (wn) from Bn.out)
    have g4h := Lib.hid (c4.out _ Bf.out)
    have hend := Lib.hid (show OpV ((wn).setRow (g2 + 1 + 1) #[.slice x1 n2 x3, .slice y1 n2 y3, .slice u1 n3 u3]) (.agg #[.slice x1 n2 x3, .slice y1 n2 y3, .slice u1 n3 u3]) (ks) (vs) (ps) ∧ OBd (ks) (vs) (ps) ∧ Below W0.heap.size W0 ((wn).setRow (g2 + 1 + 1) #[.slice x1 n2 x3, .slice y1 n2 y3, .slice u1 n3 u3]) from ⟨⟨_, _, _, rfl, (SLB.frm (r0.out.SLB eI_len) (Frm.setRow _ _ _) (.inl hg4.out)).SL, (SLB.frm (r1.out.SLB eS_len) (Frm.setRow _ _ _) (.inl hg4.out)).SL, (SLB.frm (r2.out.SLB eS_len) (Frm.setRow _ _ _) (.inl hg4.out)).SL⟩, hO.out, below_setRow (toW.out _ Bf.out) hg5.out _⟩)
    clear r0 r1 r2 bA
    go_wp2_with (first
     | (refine wpList_load_row rfl 37 (.tmp 5) rfl gA rfl 37 #[.slice x1 n2 x3, .slice y1 n2 y3, .slice u1 n3 u3] (0, 0) _ gAh.out Tryd.underlying37 rfl size37 ?_)
     | (refine wpList_store_row rfl 37 (.tmp 4) (.tmp 172) rfl (g2 + 1 + 1) #[.slice x1 n2 x3, .slice y1 n2 y3, .slice u1 n3 u3] rfl rfl 37 _ g4h.out size37 rfl (by simp [Value.oneCell']) ?_))
    refine bodyPost_ret (v := _) (results_cell_row (fn := Tryd.f22) rfl _ _ (g2 + 1 + 1) 37 #[.slice x1 n2 x3, .slice y1 n2 y3, .slice u1 n3 u3] (0, 0) _ rfl (setRow_heap _ _ _ _ _ _ g4h.out) Tryd.underlying37 rfl size37) rfl ?_
    exact ⟨_, _, _, _, rfl, hend.out⟩
   ·skip
    have gAh := Lib.hid (show (wn).heap[gA]? = some (.cells #[.slice x1 n2 x3, .slice y1 n2 y3, .slice u1 n3 u3] 37 (0, 0)) from bA.out)
    have Bf := Lib.hid (show Below wo.heap.size wo (wn) from Bn.out)
    have g4h := Lib.hid (c4.out _ Bf.out)
    have hend := Lib.hid (show OpV ((wn).setRow (g2 + 1 + 1) #[.slice x1 n2 x3, .slice y1 n2 y3, .slice u1 n3 u3]) (.agg #[.slice x1 n2 x3, .slice y1 n2 y3, .slice u1 n3 u3]) (ks) (vs) (ps) ∧ OBd (ks) (vs) (ps) ∧ Below W0.heap.size W0 ((wn).setRow (g2 + 1 + 1) #[.slice x1 n2 x3, .slice y1 n2 y3, .slice u1 n3 u3]) from ⟨⟨_, _, _, rfl, (SLB.frm (r0.out.SLB eI_len) (Frm.setRow _ _ _) (.inl hg4.out)).SL, (SLB.frm (r1.out.SLB eS_len) (Frm.setRow _ _ _) (.inl hg4.out)).SL, (SLB.frm (r2.out.SLB eS_len) (Frm.setRow _ _ _) (.inl hg4.out)).SL⟩, hO.out, below_setRow (toW.out _ Bf.out) hg5.out _⟩)
    clear r0 r1 r2 bA
    go_wp2_with (first
     | (refine wpList_load_row rfl 37 (.tmp 5) rfl gA rfl 37 #[.slice x1 n2 x3, .slice y1 n2 y3, .slice u1 n3 u3] (0, 0) _ gAh.out Tryd.underlying37 rfl size37 ?_)
     | (refine wpList_store_row rfl 37 (.tmp 4) (.tmp 172) rfl (g2 + 1 + 1) #[.slice x1 n2 x3, .slice y1 n2 y3, .slice u1 n3 u3] rfl rfl 37 _ g4h.out size37 rfl (by simp [Value.oneCell']) ?_))
    refine bodyPost_ret (v := _) (results_cell_row (fn := Tryd.f22) rfl _ _ (g2 + 1 + 1) 37 #[.slice x1 n2 x3, .slice y1 n2 y3, .slice u1 n3 u3] (0, 0) _ rfl (setRow_heap _ _ _ _ _ _ g4h.out) Tryd.underlying37 rfl size37) rfl ?_
    exact ⟨_, _, _, _, rfl, hend.out⟩
   ·skip
    have gAh := Lib.hid (show (wn).heap[gA]? = some (.cells #[.slice x1 n2 x3, .slice y1 n2 y3, .slice u1 n3 u3] 37 (0, 0)) from bA.out)
    have Bf := Lib.hid (show Below wo.heap.size wo (wn) from Bn.out)
    have g4h := Lib.hid (c4.out _ Bf.out)
    have hend := Lib.hid (show OpV ((wn).setRow (g2 + 1 + 1) #[.slice x1 n2 x3, .slice y1 n2 y3, .slice u1 n3 u3]) (.agg #[.slice x1 n2 x3, .slice y1 n2 y3, .slice u1 n3 u3]) (ks) (vs) (ps) ∧ OBd (ks) (vs) (ps) ∧ Below W0.heap.size W0 ((wn).setRow (g2 + 1 + 1) #[.slice x1 n2 x3, .slice y1 n2 y3, .slice u1 n3 u3]) from ⟨⟨_, _, _, rfl, (SLB.frm (r0.out.SLB eI_len) (Frm.setRow _ _ _) (.inl hg4.out)).SL, (SLB.frm (r1.out.SLB eS_len) (Frm.setRow _ _ _) (.inl hg4.out)).SL, (SLB.frm (r2.out.SLB eS_len) (Frm.setRow _ _ _) (.inl hg4.out)).SL⟩, hO.out, below_setRow (toW.out _ Bf.out) hg5.out _⟩)
    clear r0 r1 r2 bA
    go_wp2_with (first
     | (refine wpList_load_row rfl 37 (.tmp 5) rfl gA rfl 37 #[.slice x1 n2 x3, .slice y1 n2 y3, .slice u1 n3 u3] (0, 0) _ gAh.out Tryd.underlying37 rfl size37 ?_)
     | (refine wpList_store_row rfl 37 (.tmp 4) (.tmp 172) rfl (g2 + 1 + 1) #[.slice x1 n2 x3, .slice y1 n2 y3, .slice u1 n3 u3] rfl rfl 37 _ g4h.out size37 rfl (by simp [Value.oneCell']) ?_))
    refine bodyPost_ret (v := _) (results_cell_row (fn := Tryd.f22) rfl _ _ (g2 + 1 + 1) 37 #[.slice x1 n2 x3, .slice y1 n2 y3, .slice u1 n3 u3] (0, 0) _ rfl (setRow_heap _ _ _ _ _ _ g4h.out) Tryd.underlying37 rfl size37) rfl ?_
    exact ⟨_, _, _, _, rfl, hend.out⟩
   ·skip
    obtain ⟨hx1, hxq, hxc⟩ := RowK.openI r0.out (by rw [← hN1.out]; omega)
    subst hx1
    clear hxq
    have hkl : k < ks.length := by rw [← hN1.out]; exact kl
    have hv := RowK.openS r1.out (by rw [← hN2.out]; omega)
    obtain ⟨hy1, hyq, hyc⟩ := hv
    subst hy1
    clear hyq
    have i0 : (0 : Int) ≤ (k : Int) := by omega
    have i1 : (k : Int) < (n2 : Int) := by omega
    have i2 : (k : Int) + 1 ≤ (n2 : Int) := by omega
    have i3 : (k : Int) ≤ (x3 : Int) := by omega
    have i4 : (k : Int) + 1 ≤ (x3 : Int) := by omega
    have i5 : (0 : Int) ≤ (k : Int) + 1 := by omega
    have i6 : (k : Int) ≤ (y3 : Int) := by omega
    have i7 : (k : Int) + 1 ≤ (y3 : Int) := by omega
    have i8 : (n2 : Int) ≤ (x3 : Int) := by omega
    have i9 : (n2 : Int) ≤ (y3 : Int) := by omega
    have kb : k ≤ 64 := by omega
    have kb1 : k + 1 ≤ n2 := by omega
    have kb2 : k + 1 ≤ x3 := by omega
    have kb3 : k + 1 ≤ y3 := by omega
    have hkc : Hid (IntKind.i64.wrap ((k : Int) + 1) = ((k + 1 : Nat) : Int)) := Lib.hid (by simp [IntKind.wrap, IntKind.bits, IntKind.signed]; omega)
    have i10 : (0 : Int) ≤ ((k + 1 : Nat) : Int) := by omega
    have i11 : ((k + 1 : Nat) : Int) ≤ (n2 : Int) := by omega
    obtain ⟨pa0, hp0⟩ : ∃ pa : Option Addr, Hid (pa = if x3 = k + 1 then some ⟨g0', 0, none⟩ else some ⟨g0', k + 1, none⟩) := ⟨_, Lib.hid (Eq.refl _)⟩
    obtain ⟨pa1, hp1⟩ : ∃ pa : Option Addr, Hid (pa = if y3 = k + 1 then some ⟨g1', 0, none⟩ else some ⟨g1', k + 1, none⟩) := ⟨_, Lib.hid (Eq.refl _)⟩
    have lA := hgAs.out
    have l1 := r1.out.2.1
    have l2 := r2.out.2.1
    have rd := r0.out.keep (Frm.of_below (Below.refl wn.heap.size wn).drew) (by have := r0.out.2.1; omega)
    obtain ⟨v', w9, ⟨v1, v2, v3, rfl, hv2⟩, hr, hsl, hBB, hob⟩ := cutI rd k hkl (by have := hN1.out; omega) (.slice pa0 (n2 - (k + 1)) (x3 - (k + 1))) (by rw [hp0.out]; exact SLG.dropA (OwnG.SL eI_len rd.2.2.1) hN1.out (k + 1))
    have B9 : Below wn.heap.size wn w9 := (Below.refl wn.heap.size wn).drew.trans hBB
    have bA9 := (B9.block gA lA).trans bA.out
    have cA : w9.cell? ⟨gA, 0, none⟩ = some (.slice (some ⟨g0', 0, none⟩) n2 x3) := cell_of_row _ _ 0 _ 37 (0, 0) bA9
    have fA := free_of_block (i := 0) bA9
    have F9 := Frm.of_below B9
    have F1 := Frm.setCell w9 gA 0 (.slice v1 v2 v3)
    have hob2 : ∀ b, (Value.slice v1 v2 v3).ownBlock = some b → b ≠ gA := fun b hb => by
     rcases hob b hb with e | e
     ·rw [e]; exact d03
     ·have h9 : wn.heap.size ≤ b := e
      omega
    have m0' := Lib.hid (hsl.frm2 F1 hob2)
    have m1' := Lib.hid ((r1.out.keep F9 (by omega)).keep F1 d13)
    have m2' := Lib.hid ((r2.out.keep F9 (by omega)).keep F1 d23)
    have mA := Lib.hid (show (w9.setCell ⟨gA, 0, none⟩ (.slice v1 v2 v3)).heap[gA]? = some (.cells #[.slice v1 v2 v3, .slice (some ⟨g1', 0, none⟩) n2 y3, .slice u1 n3 u3] 37 (0, 0)) from set_field (i := 0) bA9)
    have mB := Lib.hid (show Below wo.heap.size wo (w9.setCell ⟨gA, 0, none⟩ (.slice v1 v2 v3)) from (Bn.out.trans (B9.mono Bn.out.size)).setCell (by have := hgA.out; simpa using this) _)
    have mS := Lib.hid (show gA < (w9.setCell ⟨gA, 0, none⟩ (.slice v1 v2 v3)).heap.size from Nat.lt_of_lt_of_le lA (Nat.le_trans B9.size F1.1))
    have hob2 := Lib.hid hob2
    rename_i xo; clear xo
    have mO := Lib.hid (hO.out.cut k hkl)
    clear rd hsl hBB hob F9 F1 bA9 l1 l2 lA hv2
    go_wp2_with fail
    refine wp_region_F (fun w' : World => w'.cell? ⟨gA, 0, none⟩ = some (.slice (some ⟨g0', 0, none⟩) n2 x3)) 12 (by kernel_rfl) (show wn.drew.cell? ⟨gA, 0, none⟩ = some (.slice (some ⟨g0', 0, none⟩) n2 x3) from f0) (fun hHeld => ?_)
    refine takeA (i := 0) (oi := { dst := some 148, op := .fieldAddr 37 (.tmp 5) 0, type := _, pos := _, after := _, guard := none }) (v := ?_) rfl (Or.inl ⟨by rfl, ?_⟩) (by assumption) ?_
    rotate_left
    ·(intro w hSw; (try dsimp only at hSw); go_simp) <;> with_reducible rfl
    try simp only [Act.put, zT, z0, zS]
    refine takeA (i := 1) (oi := { dst := some 149, op := .load 24 (.tmp 148), type := _, pos := _, after := _, guard := none }) (v := ?_) rfl (Or.inl ⟨by rfl, ?_⟩) (by assumption) ?_
    rotate_left
    ·(intro w hSw; (try dsimp only at hSw); go_simp) <;> with_reducible rfl
    try simp only [Act.put, zT, z0, zS]
    refine takeA (i := 2) (oi := { dst := some 150, op := .move (.tmp 6), type := _, pos := _, after := _, guard := none }) (v := ?_) rfl (Or.inl ⟨by rfl, ?_⟩) (by assumption) ?_
    rotate_left
    ·(intro w hSw; (try dsimp only at hSw); go_simp) <;> with_reducible rfl
    try simp only [Act.put, zT, z0, zS]
    refine takeA (i := 3) (oi := { dst := some 151, op := .move (.tmp 6), type := _, pos := _, after := _, guard := none }) (v := ?_) rfl (Or.inl ⟨by rfl, ?_⟩) (by assumption) ?_
    rotate_left
    ·(intro w hSw; (try dsimp only at hSw); go_simp) <;> with_reducible rfl
    try simp only [Act.put, zT, z0, zS]
    refine takeA (i := 4) (oi := { dst := some 152, op := .slice 24 (.tmp 149) none (some (.tmp 150)) (some (.tmp 151)), type := _, pos := _, after := _, guard := none }) (v := ?_) rfl (Or.inl ⟨by rfl, ?_⟩) (by assumption) ?_
    rotate_left
    ·(intro w hSw; (try dsimp only at hSw); go_simp) <;> with_reducible rfl
    try simp only [Act.put, zT, z0, zS]
    refine takeA (i := 5) (oi := { dst := some 153, op := .fieldAddr 37 (.tmp 5) 0, type := _, pos := _, after := _, guard := none }) (v := ?_) rfl (Or.inl ⟨by rfl, ?_⟩) (by assumption) ?_
    rotate_left
    ·(intro w hSw; (try dsimp only at hSw); go_simp) <;> with_reducible rfl
    try simp only [Act.put, zT, z0, zS]
    refine takeA (i := 6) (oi := { dst := some 154, op := .load 24 (.tmp 153), type := _, pos := _, after := _, guard := none }) (v := ?_) rfl (Or.inl ⟨by rfl, ?_⟩) (by assumption) ?_
    rotate_left
    ·(intro w hSw; (try dsimp only at hSw); go_simp) <;> with_reducible rfl
    try simp only [Act.put, zT, z0, zS]
    refine takeA (i := 7) (oi := { dst := some 155, op := .move (.tmp 6), type := _, pos := _, after := _, guard := none }) (v := ?_) rfl (Or.inl ⟨by rfl, ?_⟩) (by assumption) ?_
    rotate_left
    ·(intro w hSw; (try dsimp only at hSw); go_simp) <;> with_reducible rfl
    try simp only [Act.put, zT, z0, zS]
    refine takeA (i := 8) (oi := { dst := some 156, op := .binOp BinOp.add 3 (.tmp 155) ((Operand.const (Value.int IntKind.i64 1))) 3, type := _, pos := _, after := _, guard := none }) (v := ?_) rfl (Or.inl ⟨by rfl, ?_⟩) (by assumption) ?_
    rotate_left
    ·(intro w hSw; (try dsimp only at hSw); go_simp; rw [hkc.out])
    try simp only [Act.put, zT, z0, zS]
    refine takeA (i := 9) (oi := { dst := some 157, op := .slice 24 (.tmp 154) (some (.tmp 156)) none none, type := _, pos := _, after := _, guard := none }) (v := ?_) rfl (Or.inl ⟨by rfl, ?_⟩) (by assumption) ?_
    rotate_left
    ·(intro w hSw; (try dsimp only at hSw); go_simp) <;> with_reducible rfl
    try simp only [Act.put, zT, z0, zS]
    rw [← hp0.out]
    refine wpAnyF_ready (rs := [10]) (by kernel_rfl) (by simp) ?_
    refine AllReadyF.cons (o := { dst := some 158, op := .call { callee := .builtin .append, args := #[(.tmp 152), (.tmp 157)], argTypes := #[24, 24] }, type := _, pos := _, after := _, guard := none }) rfl (fun K hK => ?_) ?_
    ·skip
     refine wp_append_run (.tmp 152) (.tmp 157) 24 rfl (.slice (some ⟨g0', 0, none⟩) k k) (.slice pa0 (n2 - (k + 1)) (x3 - (k + 1))) rfl rfl _ _ hr ?_
     refine hK.out _ _ cA (fun hHeld => ?_)
     clear hK K
     try simp only [Act.put, zT, z0, zS]
     refine takeA (i := 11) (oi := { dst := some 159, op := .fieldAddr 37 (.tmp 5) 0, type := _, pos := _, after := _, guard := none }) (v := ?_) rfl (Or.inl ⟨by rfl, ?_⟩) (by assumption) ?_
     rotate_left
     ·(intro w hSw; (try dsimp only at hSw); go_simp) <;> with_reducible rfl
     try simp only [Act.put, zT, z0, zS]
     refine wpAnyF_ready (rs := [12]) (by kernel_rfl) (by simp) ?_
     refine AllReadyF.last (o := { dst := none, op := .store 24 (.tmp 159) (.tmp 158), type := _, pos := _, after := _, guard := none }) rfl (fun K hK => ?_) ?_
     ·skip
      go_simp
      go_wp2_with fail
      refine hK.out _ _ ?_
      clear hK K
      try simp only [Act.put, zT, z0, zS]
      refine wpAnyF_done (by kernel_rfl) ?_ _
      clear hr cA fA hHeld
      obtain ⟨wA, hwA⟩ : ∃ W, W = (w9.setCell ⟨gA, 0, none⟩ (.slice v1 v2 v3)) := ⟨_, rfl⟩
      rw [← hwA] at m0' m1' m2' mA mB mS ⊢
      clear hwA
      have f1' : wA.drew.cell? ⟨gA, 1, none⟩ = some (.slice (some ⟨g1', 0, none⟩) n2 y3) := cell_of_row _ _ 1 _ 37 (0, 0) mA.out
      have lA := mS.out
      have l2 := m2'.out.2.1
      have rd := m1'.out.keep (Frm.of_below (Below.refl wA.heap.size wA).drew) (by have := m1'.out.2.1; omega)
      obtain ⟨v', wB, ⟨s1, s2, s3, rfl, hv2⟩, hr, hsl, hBB, hob⟩ := cutS rd k (by rw [← hN2.out]; exact kl) (by have := hN2.out; omega) (.slice pa1 (n2 - (k + 1)) (y3 - (k + 1))) (by rw [hp1.out]; exact SLG.dropA (OwnG.SL eS_len rd.2.2.1) hN2.out (k + 1))
      have B9 : Below wA.heap.size wA wB := (Below.refl wA.heap.size wA).drew.trans hBB
      have bA9 := (B9.block gA lA).trans mA.out
      have cA : wB.cell? ⟨gA, 1, none⟩ = some (.slice (some ⟨g1', 0, none⟩) n2 y3) := cell_of_row _ _ 1 _ 37 (0, 0) bA9
      have fA := free_of_block (i := 1) bA9
      have F9 := Frm.of_below B9
      have F1 := Frm.setCell wB gA 1 (.slice s1 s2 s3)
      have hob3 : ∀ b, (Value.slice s1 s2 s3).ownBlock = some b → b ≠ gA := fun b hb => by
       rcases hob b hb with e | e
       ·rw [e]; exact d13
       ·have h9 : wA.heap.size ≤ b := e
        omega
      have n0 := Lib.hid ((m0'.out.bel B9).frm2 F1 hob2.out)
      have n1 := Lib.hid (hsl.frm2 F1 hob3)
      have n2' := Lib.hid (((m2'.out.keep F9 (by omega)).keep F1 d23).SLB eS_len)
      have nA := Lib.hid (show (wB.setCell ⟨gA, 1, none⟩ (.slice s1 s2 s3)).heap[gA]? = some (.cells #[.slice v1 v2 v3, .slice s1 s2 s3, .slice u1 n3 u3] 37 (0, 0)) from set_field (i := 1) bA9)
      have nB := Lib.hid (show Below wo.heap.size wo (wB.setCell ⟨gA, 1, none⟩ (.slice s1 s2 s3)) from (mB.out.trans (B9.mono mB.out.size)).setCell (by have := hgA.out; simpa using this) _)
      clear rd hsl hBB hob F9 F1 bA9 l2 lA hv2 hob3 hob2 m0' m1' m2' mA mB mS
      go_wp2_with fail
      refine wp_region_F (fun w' : World => w'.cell? ⟨gA, 1, none⟩ = some (.slice (some ⟨g1', 0, none⟩) n2 y3)) 12 (by kernel_rfl) f1' (fun hHeld => ?_)
      refine takeA (i := 0) (oi := { dst := some 160, op := .fieldAddr 37 (.tmp 5) 1, type := _, pos := _, after := _, guard := none }) (v := ?_) rfl (Or.inl ⟨by rfl, ?_⟩) (by assumption) ?_
      rotate_left
      ·(intro w hSw; (try dsimp only at hSw); go_simp) <;> with_reducible rfl
      try simp only [Act.put, zT, z0, zS]
      refine takeA (i := 1) (oi := { dst := some 161, op := .load 35 (.tmp 160), type := _, pos := _, after := _, guard := none }) (v := ?_) rfl (Or.inl ⟨by rfl, ?_⟩) (by assumption) ?_
      rotate_left
      ·(intro w hSw; (try dsimp only at hSw); go_simp) <;> with_reducible rfl
      try simp only [Act.put, zT, z0, zS]
      refine takeA (i := 2) (oi := { dst := some 162, op := .move (.tmp 6), type := _, pos := _, after := _, guard := none }) (v := ?_) rfl (Or.inl ⟨by rfl, ?_⟩) (by assumption) ?_
      rotate_left
      ·(intro w hSw; (try dsimp only at hSw); go_simp) <;> with_reducible rfl
      try simp only [Act.put, zT, z0, zS]
      refine takeA (i := 3) (oi := { dst := some 163, op := .move (.tmp 6), type := _, pos := _, after := _, guard := none }) (v := ?_) rfl (Or.inl ⟨by rfl, ?_⟩) (by assumption) ?_
      rotate_left
      ·(intro w hSw; (try dsimp only at hSw); go_simp) <;> with_reducible rfl
      try simp only [Act.put, zT, z0, zS]
      refine takeA (i := 4) (oi := { dst := some 164, op := .slice 35 (.tmp 161) none (some (.tmp 162)) (some (.tmp 163)), type := _, pos := _, after := _, guard := none }) (v := ?_) rfl (Or.inl ⟨by rfl, ?_⟩) (by assumption) ?_
      rotate_left
      ·(intro w hSw; (try dsimp only at hSw); go_simp) <;> with_reducible rfl
      try simp only [Act.put, zT, z0, zS]
      refine takeA (i := 5) (oi := { dst := some 165, op := .fieldAddr 37 (.tmp 5) 1, type := _, pos := _, after := _, guard := none }) (v := ?_) rfl (Or.inl ⟨by rfl, ?_⟩) (by assumption) ?_
      rotate_left
      ·(intro w hSw; (try dsimp only at hSw); go_simp) <;> with_reducible rfl
      try simp only [Act.put, zT, z0, zS]
      refine takeA (i := 6) (oi := { dst := some 166, op := .load 35 (.tmp 165), type := _, pos := _, after := _, guard := none }) (v := ?_) rfl (Or.inl ⟨by rfl, ?_⟩) (by assumption) ?_
      rotate_left
      ·(intro w hSw; (try dsimp only at hSw); go_simp) <;> with_reducible rfl
      try simp only [Act.put, zT, z0, zS]
      refine takeA (i := 7) (oi := { dst := some 167, op := .move (.tmp 6), type := _, pos := _, after := _, guard := none }) (v := ?_) rfl (Or.inl ⟨by rfl, ?_⟩) (by assumption) ?_
      rotate_left
      ·(intro w hSw; (try dsimp only at hSw); go_simp) <;> with_reducible rfl
      try simp only [Act.put, zT, z0, zS]
      refine takeA (i := 8) (oi := { dst := some 168, op := .binOp BinOp.add 3 (.tmp 167) ((Operand.const (Value.int IntKind.i64 1))) 3, type := _, pos := _, after := _, guard := none }) (v := ?_) rfl (Or.inl ⟨by rfl, ?_⟩) (by assumption) ?_
      rotate_left
      ·(intro w hSw; (try dsimp only at hSw); go_simp; rw [hkc.out])
      try simp only [Act.put, zT, z0, zS]
      refine takeA (i := 9) (oi := { dst := some 169, op := .slice 35 (.tmp 166) (some (.tmp 168)) none none, type := _, pos := _, after := _, guard := none }) (v := ?_) rfl (Or.inl ⟨by rfl, ?_⟩) (by assumption) ?_
      rotate_left
      ·(intro w hSw; (try dsimp only at hSw); go_simp) <;> with_reducible rfl
      try simp only [Act.put, zT, z0, zS]
      rw [← hp1.out]
      refine wpAnyF_ready (rs := [10]) (by kernel_rfl) (by simp) ?_
      refine AllReadyF.cons (o := { dst := some 170, op := .call { callee := .builtin .append, args := #[(.tmp 164), (.tmp 169)], argTypes := #[35, 35] }, type := _, pos := _, after := _, guard := none }) rfl (fun K hK => ?_) ?_
      ·skip
       refine wp_append_run (.tmp 164) (.tmp 169) 35 rfl (.slice (some ⟨g1', 0, none⟩) k k) (.slice pa1 (n2 - (k + 1)) (y3 - (k + 1))) rfl rfl _ _ hr ?_
       refine hK.out _ _ cA (fun hHeld => ?_)
       clear hK K
       try simp only [Act.put, zT, z0, zS]
       refine takeA (i := 11) (oi := { dst := some 171, op := .fieldAddr 37 (.tmp 5) 1, type := _, pos := _, after := _, guard := none }) (v := ?_) rfl (Or.inl ⟨by rfl, ?_⟩) (by assumption) ?_
       rotate_left
       ·(intro w hSw; (try dsimp only at hSw); go_simp) <;> with_reducible rfl
       try simp only [Act.put, zT, z0, zS]
       refine wpAnyF_ready (rs := [12]) (by kernel_rfl) (by simp) ?_
       refine AllReadyF.last (o := { dst := none, op := .store 35 (.tmp 171) (.tmp 170), type := _, pos := _, after := _, guard := none }) rfl (fun K hK => ?_) ?_
       ·skip
        go_simp
        go_wp2_with fail
        refine hK.out _ _ ?_
        clear hK K
        try simp only [Act.put, zT, z0, zS]
        refine wpAnyF_done (by kernel_rfl) ?_ _
        clear hr cA fA hHeld
        have gAh := Lib.hid (show ((wB.setCell ⟨gA, 1, none⟩ (.slice s1 s2 s3))).heap[gA]? = some (.cells #[.slice v1 v2 v3, .slice s1 s2 s3, .slice u1 n3 u3] 37 (0, 0)) from nA.out)
        have Bf := Lib.hid (show Below wo.heap.size wo ((wB.setCell ⟨gA, 1, none⟩ (.slice s1 s2 s3))) from nB.out)
        have g4h := Lib.hid (c4.out _ Bf.out)
        have hend := Lib.hid (show OpV (((wB.setCell ⟨gA, 1, none⟩ (.slice s1 s2 s3))).setRow (g2 + 1 + 1) #[.slice v1 v2 v3, .slice s1 s2 s3, .slice u1 n3 u3]) (.agg #[.slice v1 v2 v3, .slice s1 s2 s3, .slice u1 n3 u3]) (ks.eraseIdx k) (vs.eraseIdx k) (ps) ∧ OBd (ks.eraseIdx k) (vs.eraseIdx k) (ps) ∧ Below W0.heap.size W0 (((wB.setCell ⟨gA, 1, none⟩ (.slice s1 s2 s3))).setRow (g2 + 1 + 1) #[.slice v1 v2 v3, .slice s1 s2 s3, .slice u1 n3 u3]) from ⟨⟨_, _, _, rfl, (SLB.frm n0.out (Frm.setRow _ _ _) (.inl hg4.out)).SL, (SLB.frm n1.out (Frm.setRow _ _ _) (.inl hg4.out)).SL, (SLB.frm n2'.out (Frm.setRow _ _ _) (.inl hg4.out)).SL⟩, mO.out, below_setRow (toW.out _ Bf.out) hg5.out _⟩)
        clear r0 r1 r2 bA
        go_wp2_with (first
         | (refine wpList_load_row rfl 37 (.tmp 5) rfl gA rfl 37 #[.slice v1 v2 v3, .slice s1 s2 s3, .slice u1 n3 u3] (0, 0) _ gAh.out Tryd.underlying37 rfl size37 ?_)
         | (refine wpList_store_row rfl 37 (.tmp 4) (.tmp 172) rfl (g2 + 1 + 1) #[.slice v1 v2 v3, .slice s1 s2 s3, .slice u1 n3 u3] rfl rfl 37 _ g4h.out size37 rfl (by simp [Value.oneCell']) ?_))
        refine bodyPost_ret (v := _) (results_cell_row (fn := Tryd.f22) rfl _ _ (g2 + 1 + 1) 37 #[.slice v1 v2 v3, .slice s1 s2 s3, .slice u1 n3 u3] (0, 0) _ rfl (setRow_heap _ _ _ _ _ _ g4h.out) Tryd.underlying37 rfl size37) rfl ?_
        exact ⟨_, _, _, _, rfl, hend.out⟩
       exact AllReadyF.nil
      exact AllReadyF.nil
     exact AllReadyF.nil
    exact AllReadyF.nil
 ·skip
  have tA : ¬ (0 : Int) < (n2 : Int) := by omega
  by_cases cB : 0 < n3
  ·skip
   have tB : (0 : Int) < (n3 : Int) := by omega
   have pn := Lib.hid (fun W => Wr.pick_any h1 (n3 : Int) W hh1.1 hh1.2 (by omega) (by omega))
   obtain ⟨n, hn, nl⟩ : ∃ j : Nat, Wr.pk h1 (n3 : Int) = (j : Int) ∧ j < n3 := ⟨(Wr.pk h1 (n3 : Int)).toNat, by have := Wr.pk_lo h1 (n3 : Int) (by omega); omega, by have := Wr.pk_lo h1 (n3 : Int) (by omega); have := Wr.pk_lt h1 (n3 : Int) (by omega); omega⟩
   rw [hn] at pn
   clear hn
   go_wp2_with fail
   refine (pn.out _).mono ?_
   rintro e w' ⟨rfl, rfl⟩
   go_wp2_with fail
   refine (p0.out _).mono ?_
   rintro e w' ⟨rfl, rfl⟩
   have hs' : s = 0 ∨ s = 1 ∨ s = 2 ∨ s = 3 ∨ s = 4 ∨ s = 5 ∨ s = 6 := by omega
   rcases hs' with rfl | rfl | rfl | rfl | rfl | rfl | rfl
   ·skip
    have gAh := Lib.hid (show (wn).heap[gA]? = some (.cells #[.slice x1 n2 x3, .slice y1 n2 y3, .slice u1 n3 u3] 37 (0, 0)) from bA.out)
    have Bf := Lib.hid (show Below wo.heap.size wo (wn) from Bn.out)
    have g4h := Lib.hid (c4.out _ Bf.out)
    have hend := Lib.hid (show OpV ((wn).setRow (g2 + 1 + 1) #[.slice x1 n2 x3, .slice y1 n2 y3, .slice u1 n3 u3]) (.agg #[.slice x1 n2 x3, .slice y1 n2 y3, .slice u1 n3 u3]) (ks) (vs) (ps) ∧ OBd (ks) (vs) (ps) ∧ Below W0.heap.size W0 ((wn).setRow (g2 + 1 + 1) #[.slice x1 n2 x3, .slice y1 n2 y3, .slice u1 n3 u3]) from ⟨⟨_, _, _, rfl, (SLB.frm (r0.out.SLB eI_len) (Frm.setRow _ _ _) (.inl hg4.out)).SL, (SLB.frm (r1.out.SLB eS_len) (Frm.setRow _ _ _) (.inl hg4.out)).SL, (SLB.frm (r2.out.SLB eS_len) (Frm.setRow _ _ _) (.inl hg4.out)).SL⟩, hO.out, below_setRow (toW.out _ Bf.out) hg5.out _⟩)
    clear r0 r1 r2 bA
    go_wp2_with (first
     | (refine wpList_load_row rfl 37 (.tmp 5) rfl gA rfl 37 #[.slice x1 n2 x3, .slice y1 n2 y3, .slice u1 n3 u3] (0, 0) _ gAh.out Tryd.underlying37 rfl size37 ?_)
     | (refine wpList_store_row rfl 37 (.tmp 4) (.tmp 172) rfl (g2 + 1 + 1) #[.slice x1 n2 x3, .slice y1 n2 y3, .slice u1 n3 u3] rfl rfl 37 _ g4h.out size37 rfl (by simp [Value.oneCell']) ?_))
    refine bodyPost_ret (v := _) (results_cell_row (fn := Tryd.f22) rfl _ _ (g2 + 1 + 1) 37 #[.slice x1 n2 x3, .slice y1 n2 y3, .slice u1 n3 u3] (0, 0) _ rfl (setRow_heap _ _ _ _ _ _ g4h.out) Tryd.underlying37 rfl size37) rfl ?_
    exact ⟨_, _, _, _, rfl, hend.out⟩
   ·skip
    have gAh := Lib.hid (show (wn).heap[gA]? = some (.cells #[.slice x1 n2 x3, .slice y1 n2 y3, .slice u1 n3 u3] 37 (0, 0)) from bA.out)
    have Bf := Lib.hid (show Below wo.heap.size wo (wn) from Bn.out)
    have g4h := Lib.hid (c4.out _ Bf.out)
    have hend := Lib.hid (show OpV ((wn).setRow (g2 + 1 + 1) #[.slice x1 n2 x3, .slice y1 n2 y3, .slice u1 n3 u3]) (.agg #[.slice x1 n2 x3, .slice y1 n2 y3, .slice u1 n3 u3]) (ks) (vs) (ps) ∧ OBd (ks) (vs) (ps) ∧ Below W0.heap.size W0 ((wn).setRow (g2 + 1 + 1) #[.slice x1 n2 x3, .slice y1 n2 y3, .slice u1 n3 u3]) from ⟨⟨_, _, _, rfl, (SLB.frm (r0.out.SLB eI_len) (Frm.setRow _ _ _) (.inl hg4.out)).SL, (SLB.frm (r1.out.SLB eS_len) (Frm.setRow _ _ _) (.inl hg4.out)).SL, (SLB.frm (r2.out.SLB eS_len) (Frm.setRow _ _ _) (.inl hg4.out)).SL⟩, hO.out, below_setRow (toW.out _ Bf.out) hg5.out _⟩)
    clear r0 r1 r2 bA
    go_wp2_with (first
     | (refine wpList_load_row rfl 37 (.tmp 5) rfl gA rfl 37 #[.slice x1 n2 x3, .slice y1 n2 y3, .slice u1 n3 u3] (0, 0) _ gAh.out Tryd.underlying37 rfl size37 ?_)
     | (refine wpList_store_row rfl 37 (.tmp 4) (.tmp 172) rfl (g2 + 1 + 1) #[.slice x1 n2 x3, .slice y1 n2 y3, .slice u1 n3 u3] rfl rfl 37 _ g4h.out size37 rfl (by simp [Value.oneCell']) ?_))
    refine bodyPost_ret (v := _) (results_cell_row (fn := Tryd.f22) rfl _ _ (g2 + 1 + 1) 37 #[.slice x1 n2 x3, .slice y1 n2 y3, .slice u1 n3 u3] (0, 0) _ rfl (setRow_heap _ _ _ _ _ _ g4h.out) Tryd.underlying37 rfl size37) rfl ?_
    exact ⟨_, _, _, _, rfl, hend.out⟩
   ·skip
    obtain ⟨hx1, hxq, hxc⟩ := RowK.openS r2.out (by rw [← hN3.out]; omega)
    subst hx1
    clear hxq
    have hnl : n < ps.length := by rw [← hN3.out]; exact nl
    have i0 : (0 : Int) ≤ (n : Int) := by omega
    have i1 : (n : Int) < (n3 : Int) := by omega
    have hd := hO.out.2.2.2.2.2 ps[n] (List.getElem_mem hnl)
    have cS := Lib.hid (fun W => SumR ps[n] W (by omega))
    have hX := sha_len ps[n]
    have sK := Lib.hid (show ∀ W, Below wn.heap.size wn W → W.cell? ⟨gA, 2, none⟩ = some (.slice (some ⟨g2', 0, none⟩) n3 u3) ∧ W.cell? ⟨g2', n, none⟩ = some (.string ⟨ps[n].toArray⟩) from fun W BW => ⟨by rw [BW.cell (p := ⟨gA, 2, none⟩) (by simpa using hgAs.out)]; exact f2, by rw [BW.cell (p := ⟨g2', n, none⟩) (by have := r2.out.2.1; simpa using this)]; exact (r2.out.cellS n hnl).1⟩)
    obtain ⟨Z, hZ⟩ : ∃ Z, Hid (Z = (sha ps[n])) := ⟨(sha ps[n]), Lib.hid (Eq.refl _)⟩
    rw [← hZ.out] at cS hX
    have nO := Lib.hid (hO.out.setP n Z (by omega))
    have hfin := Lib.hid (show ∀ w8, Below wn.heap.size wn w8 → w8.cell? ⟨g2', n, none⟩ = some (.string ⟨ps[n].toArray⟩) ∧ w8.frozen? ⟨g2', n, none⟩ = false ∧ SLB eI wo.heap.size (w8.setCell ⟨g2', n, none⟩ (.string ⟨Z.toArray⟩)) (.slice x1 n2 x3) ks ∧ SLB eS wo.heap.size (w8.setCell ⟨g2', n, none⟩ (.string ⟨Z.toArray⟩)) (.slice y1 n2 y3) vs ∧ SLB eS wo.heap.size (w8.setCell ⟨g2', n, none⟩ (.string ⟨Z.toArray⟩)) (.slice (some ⟨g2', 0, none⟩) n3 u3) (ps.set n Z) ∧ (w8.setCell ⟨g2', n, none⟩ (.string ⟨Z.toArray⟩)).heap[gA]? = some (.cells #[.slice x1 n2 x3, .slice y1 n2 y3, .slice (some ⟨g2', 0, none⟩) n3 u3] 37 (0, 0)) ∧ Below wo.heap.size wo (w8.setCell ⟨g2', n, none⟩ (.string ⟨Z.toArray⟩)) from fun w8 B8 => by
     have F8 := Frm.of_below B8
     have l0 := r0.out.2.1
     have l1 := r1.out.2.1
     have l2 := r2.out.2.1
     have lA := hgAs.out
     have rd := r2.out.keep F8 (by omega)
     obtain ⟨cd, fd⟩ := rd.cellS n hnl
     have F9 := Frm.setCell w8 g2' n (.string ⟨Z.toArray⟩)
     exact ⟨cd, fd, ((r0.out.keep F8 (by omega)).keep F9 d02).SLB eI_len, ((r1.out.keep F8 (by omega)).keep F9 d12).SLB eS_len, (rd.setS n hnl Z).SLB eS_len, (F9.2 gA (by have := B8.size; omega) (Ne.symm d23)).trans ((F8.2 gA lA (by omega)).trans bA.out), (Bn.out.trans (B8.mono Bn.out.size)).setCell (by have := gz2.out; simpa using this) _⟩)
    clear hd
    go_wp2_with fail
    refine wp_region_F (fun w' : World => w'.cell? ⟨gA, 2, none⟩ = some (.slice (some ⟨g2', 0, none⟩) n3 u3) ∧ w'.cell? ⟨g2', n, none⟩ = some (.string ⟨ps[n].toArray⟩)) 10 (by kernel_rfl) (sK.out _ (Below.refl _ wn).drew) (fun hHeld => ?_)
    refine takeA (i := 0) (oi := { dst := some 81, op := .fieldAddr 37 (.tmp 5) 2, type := _, pos := _, after := _, guard := none }) (v := ?_) rfl (Or.inl ⟨by rfl, ?_⟩) (by assumption) ?_
    rotate_left
    ·(intro w hSw; (try dsimp only at hSw); go_simp) <;> with_reducible rfl
    try simp only [Act.put, zT, z0, zS]
    refine takeA (i := 1) (oi := { dst := some 82, op := .load 35 (.tmp 81), type := _, pos := _, after := _, guard := none }) (v := ?_) rfl (Or.inl ⟨by rfl, ?_⟩) (by assumption) ?_
    rotate_left
    ·(intro w hSw; (try dsimp only at hSw); go_simp) <;> with_reducible rfl
    try simp only [Act.put, zT, z0, zS]
    refine takeA (i := 2) (oi := { dst := some 83, op := .move (.tmp 7), type := _, pos := _, after := _, guard := none }) (v := ?_) rfl (Or.inl ⟨by rfl, ?_⟩) (by assumption) ?_
    rotate_left
    ·(intro w hSw; (try dsimp only at hSw); go_simp) <;> with_reducible rfl
    try simp only [Act.put, zT, z0, zS]
    refine takeA (i := 3) (oi := { dst := some 84, op := .fieldAddr 37 (.tmp 5) 2, type := _, pos := _, after := _, guard := none }) (v := ?_) rfl (Or.inl ⟨by rfl, ?_⟩) (by assumption) ?_
    rotate_left
    ·(intro w hSw; (try dsimp only at hSw); go_simp) <;> with_reducible rfl
    try simp only [Act.put, zT, z0, zS]
    refine takeA (i := 4) (oi := { dst := some 85, op := .load 35 (.tmp 84), type := _, pos := _, after := _, guard := none }) (v := ?_) rfl (Or.inl ⟨by rfl, ?_⟩) (by assumption) ?_
    rotate_left
    ·(intro w hSw; (try dsimp only at hSw); go_simp) <;> with_reducible rfl
    try simp only [Act.put, zT, z0, zS]
    refine takeA (i := 5) (oi := { dst := some 86, op := .move (.tmp 7), type := _, pos := _, after := _, guard := none }) (v := ?_) rfl (Or.inl ⟨by rfl, ?_⟩) (by assumption) ?_
    rotate_left
    ·(intro w hSw; (try dsimp only at hSw); go_simp) <;> with_reducible rfl
    try simp only [Act.put, zT, z0, zS]
    refine takeA (i := 6) (oi := { dst := some 87, op := .indexAddr 35 (.tmp 85) (.tmp 86), type := _, pos := _, after := _, guard := none }) (v := ?_) rfl (Or.inl ⟨by rfl, ?_⟩) (by assumption) ?_
    rotate_left
    ·(intro w hSw; (try dsimp only at hSw); go_simp) <;> with_reducible rfl
    try simp only [Act.put, zT, z0, zS]
    refine takeA (i := 7) (oi := { dst := some 88, op := .load 9 (.tmp 87), type := _, pos := _, after := _, guard := none }) (v := ?_) rfl (Or.inl ⟨by rfl, ?_⟩) (by assumption) ?_
    rotate_left
    ·(intro w hSw; (try dsimp only at hSw); go_simp) <;> with_reducible rfl
    try simp only [Act.put, zT, z0, zS]
    refine wpAnyF_ready (rs := [8]) (by kernel_rfl) (by simp) ?_
    refine AllReadyF.cons (o := { dst := some 89, op := .call { callee := .value (.func 51), args := #[(.tmp 88)], argTypes := #[9] }, type := _, pos := _, after := _, guard := none }) rfl (fun K hK => ?_) ?_
    ·skip
     go_simp
     refine (cS.out _).mono ?_
     rintro e w8 ⟨rfl, b8⟩
     have B8 : Below wn.heap.size wn w8 := (Below.refl wn.heap.size wn).drew.trans b8
     clear b8
     obtain ⟨cd, fd, q0, q1, q2, qA, qB⟩ := hfin.out w8 B8
     have n0 := Lib.hid q0
     have n1 := Lib.hid q1
     have n2' := Lib.hid q2
     have nA := Lib.hid qA
     have nB := Lib.hid qB
     clear q0 q1 q2 qA qB
     go_wp2_with fail
     refine hK.out _ _ ?_ (fun hHeld => ?_)
     ·exact sK.out _ B8
     clear hK K
     try simp only [Act.put, zT, z0, zS]
     refine takeA (i := 9) (oi := { dst := some 90, op := .indexAddr 35 (.tmp 82) (.tmp 83), type := _, pos := _, after := _, guard := none }) (v := ?_) rfl (Or.inl ⟨by rfl, ?_⟩) (by assumption) ?_
     rotate_left
     ·(intro w hSw; (try dsimp only at hSw); go_simp) <;> with_reducible rfl
     try simp only [Act.put, zT, z0, zS]
     refine wpAnyF_ready (rs := [10]) (by kernel_rfl) (by simp) ?_
     refine AllReadyF.last (o := { dst := none, op := .store 9 (.tmp 90) (.tmp 89), type := _, pos := _, after := _, guard := none }) rfl (fun K hK => ?_) ?_
     ·skip
      go_simp
      go_wp2_with fail
      refine hK.out _ _ ?_
      clear hK K
      try simp only [Act.put, zT, z0, zS]
      refine wpAnyF_done (by kernel_rfl) ?_ _
      have gAh := Lib.hid (show ((w8.setCell ⟨g2', n, none⟩ (.string ⟨Z.toArray⟩))).heap[gA]? = some (.cells #[.slice x1 n2 x3, .slice y1 n2 y3, .slice (some ⟨g2', 0, none⟩) n3 u3] 37 (0, 0)) from nA.out)
      have Bf := Lib.hid (show Below wo.heap.size wo ((w8.setCell ⟨g2', n, none⟩ (.string ⟨Z.toArray⟩))) from nB.out)
      have g4h := Lib.hid (c4.out _ Bf.out)
      have hend := Lib.hid (show OpV (((w8.setCell ⟨g2', n, none⟩ (.string ⟨Z.toArray⟩))).setRow (g2 + 1 + 1) #[.slice x1 n2 x3, .slice y1 n2 y3, .slice (some ⟨g2', 0, none⟩) n3 u3]) (.agg #[.slice x1 n2 x3, .slice y1 n2 y3, .slice (some ⟨g2', 0, none⟩) n3 u3]) (ks) (vs) (ps.set n Z) ∧ OBd (ks) (vs) (ps.set n Z) ∧ Below W0.heap.size W0 (((w8.setCell ⟨g2', n, none⟩ (.string ⟨Z.toArray⟩))).setRow (g2 + 1 + 1) #[.slice x1 n2 x3, .slice y1 n2 y3, .slice (some ⟨g2', 0, none⟩) n3 u3]) from ⟨⟨_, _, _, rfl, (SLB.frm n0.out (Frm.setRow _ _ _) (.inl hg4.out)).SL, (SLB.frm n1.out (Frm.setRow _ _ _) (.inl hg4.out)).SL, (SLB.frm n2'.out (Frm.setRow _ _ _) (.inl hg4.out)).SL⟩, nO.out, below_setRow (toW.out _ Bf.out) hg5.out _⟩)
      clear r0 r1 r2 bA
      go_wp2_with (first
       | (refine wpList_load_row rfl 37 (.tmp 5) rfl gA rfl 37 #[.slice x1 n2 x3, .slice y1 n2 y3, .slice (some ⟨g2', 0, none⟩) n3 u3] (0, 0) _ gAh.out Tryd.underlying37 rfl size37 ?_)
       | (refine wpList_store_row rfl 37 (.tmp 4) (.tmp 172) rfl (g2 + 1 + 1) #[.slice x1 n2 x3, .slice y1 n2 y3, .slice (some ⟨g2', 0, none⟩) n3 u3] rfl rfl 37 _ g4h.out size37 rfl (by simp [Value.oneCell']) ?_))
      refine bodyPost_ret (v := _) (results_cell_row (fn := Tryd.f22) rfl _ _ (g2 + 1 + 1) 37 #[.slice x1 n2 x3, .slice y1 n2 y3, .slice (some ⟨g2', 0, none⟩) n3 u3] (0, 0) _ rfl (setRow_heap _ _ _ _ _ _ g4h.out) Tryd.underlying37 rfl size37) rfl ?_
      exact ⟨_, _, _, _, rfl, hend.out⟩
     exact AllReadyF.nil
    exact AllReadyF.nil
   ·skip
    obtain ⟨hx1, hxq, hxc⟩ := RowK.openS r2.out (by rw [← hN3.out]; omega)
    subst hx1
    clear hxq
    have hnl : n < ps.length := by rw [← hN3.out]; exact nl
    have i0 : (0 : Int) ≤ (n : Int) := by omega
    have i1 : (n : Int) < (n3 : Int) := by omega
    have cS := Lib.hid (fun W => Zero_any W)
    have hX : zero32.length = 32 := rfl
    have sK := Lib.hid (show ∀ W, Below wn.heap.size wn W → W.cell? ⟨gA, 2, none⟩ = some (.slice (some ⟨g2', 0, none⟩) n3 u3) from fun W BW => by rw [BW.cell (p := ⟨gA, 2, none⟩) (by simpa using hgAs.out)]; exact f2)
    obtain ⟨Z, hZ⟩ : ∃ Z, Hid (Z = zero32) := ⟨zero32, Lib.hid (Eq.refl _)⟩
    rw [← hZ.out] at cS hX
    have nO := Lib.hid (hO.out.setP n Z (by omega))
    have hfin := Lib.hid (show ∀ w8, Below wn.heap.size wn w8 → w8.cell? ⟨g2', n, none⟩ = some (.string ⟨ps[n].toArray⟩) ∧ w8.frozen? ⟨g2', n, none⟩ = false ∧ SLB eI wo.heap.size (w8.setCell ⟨g2', n, none⟩ (.string ⟨Z.toArray⟩)) (.slice x1 n2 x3) ks ∧ SLB eS wo.heap.size (w8.setCell ⟨g2', n, none⟩ (.string ⟨Z.toArray⟩)) (.slice y1 n2 y3) vs ∧ SLB eS wo.heap.size (w8.setCell ⟨g2', n, none⟩ (.string ⟨Z.toArray⟩)) (.slice (some ⟨g2', 0, none⟩) n3 u3) (ps.set n Z) ∧ (w8.setCell ⟨g2', n, none⟩ (.string ⟨Z.toArray⟩)).heap[gA]? = some (.cells #[.slice x1 n2 x3, .slice y1 n2 y3, .slice (some ⟨g2', 0, none⟩) n3 u3] 37 (0, 0)) ∧ Below wo.heap.size wo (w8.setCell ⟨g2', n, none⟩ (.string ⟨Z.toArray⟩)) from fun w8 B8 => by
     have F8 := Frm.of_below B8
     have l0 := r0.out.2.1
     have l1 := r1.out.2.1
     have l2 := r2.out.2.1
     have lA := hgAs.out
     have rd := r2.out.keep F8 (by omega)
     obtain ⟨cd, fd⟩ := rd.cellS n hnl
     have F9 := Frm.setCell w8 g2' n (.string ⟨Z.toArray⟩)
     exact ⟨cd, fd, ((r0.out.keep F8 (by omega)).keep F9 d02).SLB eI_len, ((r1.out.keep F8 (by omega)).keep F9 d12).SLB eS_len, (rd.setS n hnl Z).SLB eS_len, (F9.2 gA (by have := B8.size; omega) (Ne.symm d23)).trans ((F8.2 gA lA (by omega)).trans bA.out), (Bn.out.trans (B8.mono Bn.out.size)).setCell (by have := gz2.out; simpa using this) _⟩)
    clear hZ
    go_wp2_with fail
    refine wp_region_F (fun w' : World => w'.cell? ⟨gA, 2, none⟩ = some (.slice (some ⟨g2', 0, none⟩) n3 u3)) 5 (by kernel_rfl) (sK.out _ (Below.refl _ wn).drew) (fun hHeld => ?_)
    refine takeA (i := 0) (oi := { dst := some 97, op := .fieldAddr 37 (.tmp 5) 2, type := _, pos := _, after := _, guard := none }) (v := ?_) rfl (Or.inl ⟨by rfl, ?_⟩) (by assumption) ?_
    rotate_left
    ·(intro w hSw; (try dsimp only at hSw); go_simp) <;> with_reducible rfl
    try simp only [Act.put, zT, z0, zS]
    refine takeA (i := 1) (oi := { dst := some 98, op := .load 35 (.tmp 97), type := _, pos := _, after := _, guard := none }) (v := ?_) rfl (Or.inl ⟨by rfl, ?_⟩) (by assumption) ?_
    rotate_left
    ·(intro w hSw; (try dsimp only at hSw); go_simp) <;> with_reducible rfl
    try simp only [Act.put, zT, z0, zS]
    refine takeA (i := 2) (oi := { dst := some 99, op := .move (.tmp 7), type := _, pos := _, after := _, guard := none }) (v := ?_) rfl (Or.inl ⟨by rfl, ?_⟩) (by assumption) ?_
    rotate_left
    ·(intro w hSw; (try dsimp only at hSw); go_simp) <;> with_reducible rfl
    try simp only [Act.put, zT, z0, zS]
    refine wpAnyF_ready (rs := [3]) (by kernel_rfl) (by simp) ?_
    refine AllReadyF.cons (o := { dst := some 100, op := .call { callee := .value (.func 34), args := #[], argTypes := #[] }, type := _, pos := _, after := _, guard := none }) rfl (fun K hK => ?_) ?_
    ·skip
     go_simp
     refine (cS.out _).mono ?_
     rintro e w8 ⟨rfl, b8⟩
     have B8 : Below wn.heap.size wn w8 := (Below.refl wn.heap.size wn).drew.trans b8
     clear b8
     obtain ⟨cd, fd, q0, q1, q2, qA, qB⟩ := hfin.out w8 B8
     have n0 := Lib.hid q0
     have n1 := Lib.hid q1
     have n2' := Lib.hid q2
     have nA := Lib.hid qA
     have nB := Lib.hid qB
     clear q0 q1 q2 qA qB
     go_wp2_with fail
     refine hK.out _ _ ?_ (fun hHeld => ?_)
     ·exact sK.out _ B8
     clear hK K
     try simp only [Act.put, zT, z0, zS]
     refine takeA (i := 4) (oi := { dst := some 101, op := .indexAddr 35 (.tmp 98) (.tmp 99), type := _, pos := _, after := _, guard := none }) (v := ?_) rfl (Or.inl ⟨by rfl, ?_⟩) (by assumption) ?_
     rotate_left
     ·(intro w hSw; (try dsimp only at hSw); go_simp) <;> with_reducible rfl
     try simp only [Act.put, zT, z0, zS]
     refine wpAnyF_ready (rs := [5]) (by kernel_rfl) (by simp) ?_
     refine AllReadyF.last (o := { dst := none, op := .store 9 (.tmp 101) (.tmp 100), type := _, pos := _, after := _, guard := none }) rfl (fun K hK => ?_) ?_
     ·skip
      go_simp
      go_wp2_with fail
      refine hK.out _ _ ?_
      clear hK K
      try simp only [Act.put, zT, z0, zS]
      refine wpAnyF_done (by kernel_rfl) ?_ _
      have gAh := Lib.hid (show ((w8.setCell ⟨g2', n, none⟩ (.string ⟨Z.toArray⟩))).heap[gA]? = some (.cells #[.slice x1 n2 x3, .slice y1 n2 y3, .slice (some ⟨g2', 0, none⟩) n3 u3] 37 (0, 0)) from nA.out)
      have Bf := Lib.hid (show Below wo.heap.size wo ((w8.setCell ⟨g2', n, none⟩ (.string ⟨Z.toArray⟩))) from nB.out)
      have g4h := Lib.hid (c4.out _ Bf.out)
      have hend := Lib.hid (show OpV (((w8.setCell ⟨g2', n, none⟩ (.string ⟨Z.toArray⟩))).setRow (g2 + 1 + 1) #[.slice x1 n2 x3, .slice y1 n2 y3, .slice (some ⟨g2', 0, none⟩) n3 u3]) (.agg #[.slice x1 n2 x3, .slice y1 n2 y3, .slice (some ⟨g2', 0, none⟩) n3 u3]) (ks) (vs) (ps.set n Z) ∧ OBd (ks) (vs) (ps.set n Z) ∧ Below W0.heap.size W0 (((w8.setCell ⟨g2', n, none⟩ (.string ⟨Z.toArray⟩))).setRow (g2 + 1 + 1) #[.slice x1 n2 x3, .slice y1 n2 y3, .slice (some ⟨g2', 0, none⟩) n3 u3]) from ⟨⟨_, _, _, rfl, (SLB.frm n0.out (Frm.setRow _ _ _) (.inl hg4.out)).SL, (SLB.frm n1.out (Frm.setRow _ _ _) (.inl hg4.out)).SL, (SLB.frm n2'.out (Frm.setRow _ _ _) (.inl hg4.out)).SL⟩, nO.out, below_setRow (toW.out _ Bf.out) hg5.out _⟩)
      clear r0 r1 r2 bA
      go_wp2_with (first
       | (refine wpList_load_row rfl 37 (.tmp 5) rfl gA rfl 37 #[.slice x1 n2 x3, .slice y1 n2 y3, .slice (some ⟨g2', 0, none⟩) n3 u3] (0, 0) _ gAh.out Tryd.underlying37 rfl size37 ?_)
       | (refine wpList_store_row rfl 37 (.tmp 4) (.tmp 172) rfl (g2 + 1 + 1) #[.slice x1 n2 x3, .slice y1 n2 y3, .slice (some ⟨g2', 0, none⟩) n3 u3] rfl rfl 37 _ g4h.out size37 rfl (by simp [Value.oneCell']) ?_))
      refine bodyPost_ret (v := _) (results_cell_row (fn := Tryd.f22) rfl _ _ (g2 + 1 + 1) 37 #[.slice x1 n2 x3, .slice y1 n2 y3, .slice (some ⟨g2', 0, none⟩) n3 u3] (0, 0) _ rfl (setRow_heap _ _ _ _ _ _ g4h.out) Tryd.underlying37 rfl size37) rfl ?_
      exact ⟨_, _, _, _, rfl, hend.out⟩
     exact AllReadyF.nil
    exact AllReadyF.nil
   ·skip
    by_cases cC : 1 < n3
    rotate_left
    ·have tC : ¬ (1 : Int) < (n3 : Int) := by omega
     have gAh := Lib.hid (show (wn).heap[gA]? = some (.cells #[.slice x1 n2 x3, .slice y1 n2 y3, .slice u1 n3 u3] 37 (0, 0)) from bA.out)
     have Bf := Lib.hid (show Below wo.heap.size wo (wn) from Bn.out)
     have g4h := Lib.hid (c4.out _ Bf.out)
     have hend := Lib.hid (show OpV ((wn).setRow (g2 + 1 + 1) #[.slice x1 n2 x3, .slice y1 n2 y3, .slice u1 n3 u3]) (.agg #[.slice x1 n2 x3, .slice y1 n2 y3, .slice u1 n3 u3]) (ks) (vs) (ps) ∧ OBd (ks) (vs) (ps) ∧ Below W0.heap.size W0 ((wn).setRow (g2 + 1 + 1) #[.slice x1 n2 x3, .slice y1 n2 y3, .slice u1 n3 u3]) from ⟨⟨_, _, _, rfl, (SLB.frm (r0.out.SLB eI_len) (Frm.setRow _ _ _) (.inl hg4.out)).SL, (SLB.frm (r1.out.SLB eS_len) (Frm.setRow _ _ _) (.inl hg4.out)).SL, (SLB.frm (r2.out.SLB eS_len) (Frm.setRow _ _ _) (.inl hg4.out)).SL⟩, hO.out, below_setRow (toW.out _ Bf.out) hg5.out _⟩)
     clear r0 r1 r2 bA
     go_wp2_with (first
      | (refine wpList_load_row rfl 37 (.tmp 5) rfl gA rfl 37 #[.slice x1 n2 x3, .slice y1 n2 y3, .slice u1 n3 u3] (0, 0) _ gAh.out Tryd.underlying37 rfl size37 ?_)
      | (refine wpList_store_row rfl 37 (.tmp 4) (.tmp 172) rfl (g2 + 1 + 1) #[.slice x1 n2 x3, .slice y1 n2 y3, .slice u1 n3 u3] rfl rfl 37 _ g4h.out size37 rfl (by simp [Value.oneCell']) ?_))
     refine bodyPost_ret (v := _) (results_cell_row (fn := Tryd.f22) rfl _ _ (g2 + 1 + 1) 37 #[.slice x1 n2 x3, .slice y1 n2 y3, .slice u1 n3 u3] (0, 0) _ rfl (setRow_heap _ _ _ _ _ _ g4h.out) Tryd.underlying37 rfl size37) rfl ?_
     exact ⟨_, _, _, _, rfl, hend.out⟩
    ·have tC : (1 : Int) < (n3 : Int) := by omega
     obtain ⟨hx1, hxq, hxc⟩ := RowK.openS r2.out (by rw [← hN3.out]; omega)
     subst hx1
     clear hxq
     have hnl : n < ps.length := by rw [← hN3.out]; exact nl
     have i0 : (0 : Int) ≤ (n : Int) := by omega
     have i1 : (n : Int) < (n3 : Int) := by omega
     have p2 := Lib.hid (fun W => Wr.pick_any h2 (n3 : Int) W hh2.1 hh2.2 (by omega) (by omega))
     obtain ⟨m, hy, ml⟩ : ∃ j : Nat, Wr.pk h2 (n3 : Int) = (j : Int) ∧ j < n3 := ⟨(Wr.pk h2 (n3 : Int)).toNat, by have := Wr.pk_lo h2 (n3 : Int) (by omega); omega, by have := Wr.pk_lo h2 (n3 : Int) (by omega); have := Wr.pk_lt h2 (n3 : Int) (by omega); omega⟩
     rw [hy] at p2
     clear hy
     have hml : m < ps.length := by rw [← hN3.out]; exact ml
     have j0 : (0 : Int) ≤ (m : Int) := by omega
     have j1 : (m : Int) < (n3 : Int) := by omega
     have lA := hgAs.out
     have rd := r2.out.keep (Frm.of_below (Below.refl wn.heap.size wn).drew) (by have := r2.out.2.1; omega)
     obtain ⟨dn, hdn⟩ : ∃ d, Hid (d = ps[n]) := ⟨ps[n], Lib.hid (Eq.refl _)⟩
     obtain ⟨dm, hdm⟩ : ∃ d, Hid (d = ps[m]) := ⟨ps[m], Lib.hid (Eq.refl _)⟩
     obtain ⟨cn, fn⟩ := rd.cellS n hnl
     obtain ⟨cm, fm⟩ := rd.cellS m hml
     rw [← hdn.out] at cn
     rw [← hdm.out] at cm
     have rd2 := rd.setS n hnl dm
     have cm2 : (wn.drew.setCell ⟨g2', n, none⟩ (.string ⟨dm.toArray⟩)).cell? ⟨g2', m, none⟩ = some (.string ⟨dm.toArray⟩) := by
      have := (rd2.cellS m (by rw [List.length_set]; exact hml)).1
      rw [this]
      congr 3
      rw [List.getElem_set]
      split
      ·rfl
      ·exact congrArg List.toArray hdm.out.symm
     have fm2 := (rd2.cellS m (by rw [List.length_set]; exact hml)).2
     have rd3 := rd2.setS m (by rw [List.length_set]; exact hml) dn
     have F1 := ((Frm.drew wn g2').trans (Frm.setCell wn.drew g2' n (.string ⟨dm.toArray⟩))).trans (Frm.setCell _ g2' m (.string ⟨dn.toArray⟩))
     have Fh := (Frm.drew wn g2').trans (Frm.setCell wn.drew g2' n (.string ⟨dm.toArray⟩))
     have n0 := Lib.hid ((r0.out.keep F1 d02).SLB eI_len)
     have n1 := Lib.hid ((r1.out.keep F1 d12).SLB eS_len)
     have n2' := Lib.hid (rd3.SLB eS_len)
     have nA := Lib.hid ((F1.2 gA lA (Ne.symm d23)).trans bA.out)
     have cf2 : (wn.drew.setCell ⟨g2', n, none⟩ (.string ⟨dm.toArray⟩)).cell? ⟨gA, 2, none⟩ = some (.slice (some ⟨g2', 0, none⟩) n3 u3) := cell_of_row _ _ 2 _ 37 (0, 0) ((Fh.2 gA lA (Ne.symm d23)).trans bA.out)
     have nB := Lib.hid (show Below wo.heap.size wo ((wn.drew.setCell ⟨g2', n, none⟩ (.string ⟨dm.toArray⟩)).setCell ⟨g2', m, none⟩ (.string ⟨dn.toArray⟩)) from ((Bn.out.drew).setCell (by have := gz2.out; simpa using this) _).setCell (by have := gz2.out; simpa using this) _)
     have nO := Lib.hid ((hO.out.setP n dm (by rw [hdm.out]; exact hO.out.2.2.2.2.2 _ (List.getElem_mem hml))).setP m dn (by rw [hdn.out]; exact hO.out.2.2.2.2.2 _ (List.getElem_mem hnl)))
     have hS0 := Lib.hid (show wn.drew.cell? ⟨gA, 2, none⟩ = some (.slice (some ⟨g2', 0, none⟩) n3 u3) ∧ wn.drew.cell? ⟨g2', m, none⟩ = some (.string ⟨dm.toArray⟩) from ⟨f2, cm⟩)
     have hS1 := Lib.hid (show (wn.drew.setCell ⟨g2', n, none⟩ (.string ⟨dm.toArray⟩)).cell? ⟨gA, 2, none⟩ = some (.slice (some ⟨g2', 0, none⟩) n3 u3) ∧ (wn.drew.setCell ⟨g2', n, none⟩ (.string ⟨dm.toArray⟩)).cell? ⟨g2', m, none⟩ = some (.string ⟨dm.toArray⟩) from ⟨cf2, cm2⟩)
     clear rd rd2 rd3 F1 Fh hdn hdm lA cm cf2
     go_wp2_with fail
     refine (p2.out _).mono ?_
     rintro e w' ⟨rfl, rfl⟩
     go_wp2_with fail
     refine wp_region_F (fun w' : World => w'.cell? ⟨gA, 2, none⟩ = some (.slice (some ⟨g2', 0, none⟩) n3 u3) ∧ w'.cell? ⟨g2', m, none⟩ = some (.string ⟨dm.toArray⟩)) 19 (by kernel_rfl) hS0.out (fun hHeld => ?_)
     refine takeA (i := 0) (oi := { dst := some 114, op := .fieldAddr 37 (.tmp 5) 2, type := _, pos := _, after := _, guard := none }) (v := ?_) rfl (Or.inl ⟨by rfl, ?_⟩) (by assumption) ?_
     rotate_left
     ·(intro w hSw; (try dsimp only at hSw); go_simp) <;> with_reducible rfl
     try simp only [Act.put, zT, z0, zS]
     refine takeA (i := 1) (oi := { dst := some 115, op := .load 35 (.tmp 114), type := _, pos := _, after := _, guard := none }) (v := ?_) rfl (Or.inl ⟨by rfl, ?_⟩) (by assumption) ?_
     rotate_left
     ·(intro w hSw; (try dsimp only at hSw); go_simp) <;> with_reducible rfl
     try simp only [Act.put, zT, z0, zS]
     refine takeA (i := 2) (oi := { dst := some 116, op := .move (.tmp 7), type := _, pos := _, after := _, guard := none }) (v := ?_) rfl (Or.inl ⟨by rfl, ?_⟩) (by assumption) ?_
     rotate_left
     ·(intro w hSw; (try dsimp only at hSw); go_simp) <;> with_reducible rfl
     try simp only [Act.put, zT, z0, zS]
     refine takeA (i := 3) (oi := { dst := some 117, op := .fieldAddr 37 (.tmp 5) 2, type := _, pos := _, after := _, guard := none }) (v := ?_) rfl (Or.inl ⟨by rfl, ?_⟩) (by assumption) ?_
     rotate_left
     ·(intro w hSw; (try dsimp only at hSw); go_simp) <;> with_reducible rfl
     try simp only [Act.put, zT, z0, zS]
     refine takeA (i := 4) (oi := { dst := some 118, op := .load 35 (.tmp 117), type := _, pos := _, after := _, guard := none }) (v := ?_) rfl (Or.inl ⟨by rfl, ?_⟩) (by assumption) ?_
     rotate_left
     ·(intro w hSw; (try dsimp only at hSw); go_simp) <;> with_reducible rfl
     try simp only [Act.put, zT, z0, zS]
     refine takeA (i := 5) (oi := { dst := some 119, op := .move (.tmp 8), type := _, pos := _, after := _, guard := none }) (v := ?_) rfl (Or.inl ⟨by rfl, ?_⟩) (by assumption) ?_
     rotate_left
     ·(intro w hSw; (try dsimp only at hSw); go_simp) <;> with_reducible rfl
     try simp only [Act.put, zT, z0, zS]
     refine takeA (i := 6) (oi := { dst := some 120, op := .fieldAddr 37 (.tmp 5) 2, type := _, pos := _, after := _, guard := none }) (v := ?_) rfl (Or.inl ⟨by rfl, ?_⟩) (by assumption) ?_
     rotate_left
     ·(intro w hSw; (try dsimp only at hSw); go_simp) <;> with_reducible rfl
     try simp only [Act.put, zT, z0, zS]
     refine takeA (i := 7) (oi := { dst := some 121, op := .load 35 (.tmp 120), type := _, pos := _, after := _, guard := none }) (v := ?_) rfl (Or.inl ⟨by rfl, ?_⟩) (by assumption) ?_
     rotate_left
     ·(intro w hSw; (try dsimp only at hSw); go_simp) <;> with_reducible rfl
     try simp only [Act.put, zT, z0, zS]
     refine takeA (i := 8) (oi := { dst := some 122, op := .move (.tmp 8), type := _, pos := _, after := _, guard := none }) (v := ?_) rfl (Or.inl ⟨by rfl, ?_⟩) (by assumption) ?_
     rotate_left
     ·(intro w hSw; (try dsimp only at hSw); go_simp) <;> with_reducible rfl
     try simp only [Act.put, zT, z0, zS]
     refine takeA (i := 9) (oi := { dst := some 123, op := .indexAddr 35 (.tmp 121) (.tmp 122), type := _, pos := _, after := _, guard := none }) (v := ?_) rfl (Or.inl ⟨by rfl, ?_⟩) (by assumption) ?_
     rotate_left
     ·(intro w hSw; (try dsimp only at hSw); go_simp) <;> with_reducible rfl
     try simp only [Act.put, zT, z0, zS]
     refine takeA (i := 10) (oi := { dst := some 124, op := .load 9 (.tmp 123), type := _, pos := _, after := _, guard := none }) (v := ?_) rfl (Or.inl ⟨by rfl, ?_⟩) (by assumption) ?_
     rotate_left
     ·(intro w hSw; (try dsimp only at hSw); go_simp) <;> with_reducible rfl
     try simp only [Act.put, zT, z0, zS]
     refine takeA (i := 11) (oi := { dst := some 125, op := .fieldAddr 37 (.tmp 5) 2, type := _, pos := _, after := _, guard := none }) (v := ?_) rfl (Or.inl ⟨by rfl, ?_⟩) (by assumption) ?_
     rotate_left
     ·(intro w hSw; (try dsimp only at hSw); go_simp) <;> with_reducible rfl
     try simp only [Act.put, zT, z0, zS]
     refine takeA (i := 12) (oi := { dst := some 126, op := .load 35 (.tmp 125), type := _, pos := _, after := _, guard := none }) (v := ?_) rfl (Or.inl ⟨by rfl, ?_⟩) (by assumption) ?_
     rotate_left
     ·(intro w hSw; (try dsimp only at hSw); go_simp) <;> with_reducible rfl
     try simp only [Act.put, zT, z0, zS]
     refine takeA (i := 13) (oi := { dst := some 127, op := .move (.tmp 7), type := _, pos := _, after := _, guard := none }) (v := ?_) rfl (Or.inl ⟨by rfl, ?_⟩) (by assumption) ?_
     rotate_left
     ·(intro w hSw; (try dsimp only at hSw); go_simp) <;> with_reducible rfl
     try simp only [Act.put, zT, z0, zS]
     refine takeA (i := 14) (oi := { dst := some 128, op := .indexAddr 35 (.tmp 126) (.tmp 127), type := _, pos := _, after := _, guard := none }) (v := ?_) rfl (Or.inl ⟨by rfl, ?_⟩) (by assumption) ?_
     rotate_left
     ·(intro w hSw; (try dsimp only at hSw); go_simp) <;> with_reducible rfl
     try simp only [Act.put, zT, z0, zS]
     refine wpAnyF_ready (rs := [15]) (by kernel_rfl) (by simp) ?_
     refine AllReadyF.cons (o := { dst := some 129, op := .load 9 (.tmp 128), type := _, pos := _, after := _, guard := none }) rfl (fun K hK => ?_) ?_
     ·skip
      go_simp
      go_wp2_with fail
      refine hK.out _ _ ?_ (fun hHeld => ?_)
      ·exact hS0.out
      clear hK K
      try simp only [Act.put, zT, z0, zS]
      refine takeA (i := 16) (oi := { dst := some 130, op := .indexAddr 35 (.tmp 115) (.tmp 116), type := _, pos := _, after := _, guard := none }) (v := ?_) rfl (Or.inl ⟨by rfl, ?_⟩) (by assumption) ?_
      rotate_left
      ·(intro w hSw; (try dsimp only at hSw); go_simp) <;> with_reducible rfl
      try simp only [Act.put, zT, z0, zS]
      refine wpAnyF_ready (rs := [17]) (by kernel_rfl) (by simp) ?_
      refine AllReadyF.cons (o := { dst := none, op := .store 9 (.tmp 130) (.tmp 124), type := _, pos := _, after := _, guard := none }) rfl (fun K hK => ?_) ?_
      ·skip
       go_simp
       go_wp2_with fail
       refine hK.out _ _ ?_ (fun hHeld => ?_)
       ·exact hS1.out
       clear hK K
       try simp only [Act.put, zT, z0, zS]
       refine wpAnyF_ready (rs := [18]) (by kernel_rfl) (by simp) ?_
       refine AllReadyF.cons (o := { dst := some 131, op := .indexAddr 35 (.tmp 118) (.tmp 119), type := _, pos := _, after := _, guard := none }) rfl (fun K hK => ?_) ?_
       ·skip
        obtain ⟨wS, hwS⟩ : ∃ W, W = (wn.setCell ⟨g2', n, none⟩ (.string ⟨dm.toArray⟩)).drew := ⟨_, rfl⟩
        have hwE : wn.drew.setCell ⟨g2', n, none⟩ (.string ⟨dm.toArray⟩) = wS := by rw [hwS]; rfl
        rw [hwE] at cm2 fm2 n0 n1 n2' nA nB hS1
        rw [← hwS]
        clear hwS hwE cn fn fm
        go_simp
        go_wp2_with fail
        refine hK.out _ _ ?_ (fun hHeld => ?_)
        ·exact hS1.out
        clear hK K
        try simp only [Act.put, zT, z0, zS]
        refine wpAnyF_ready (rs := [19]) (by kernel_rfl) (by simp) ?_
        refine AllReadyF.last (o := { dst := none, op := .store 9 (.tmp 131) (.tmp 129), type := _, pos := _, after := _, guard := none }) rfl (fun K hK => ?_) ?_
        ·skip
         go_simp
         go_wp2_with fail
         refine hK.out _ _ ?_
         clear hK K
         try simp only [Act.put, zT, z0, zS]
         refine wpAnyF_done (by kernel_rfl) ?_ _
         have gAh := Lib.hid (show ((wS.setCell ⟨g2', m, none⟩ (.string ⟨dn.toArray⟩))).heap[gA]? = some (.cells #[.slice x1 n2 x3, .slice y1 n2 y3, .slice (some ⟨g2', 0, none⟩) n3 u3] 37 (0, 0)) from nA.out)
         have Bf := Lib.hid (show Below wo.heap.size wo ((wS.setCell ⟨g2', m, none⟩ (.string ⟨dn.toArray⟩))) from nB.out)
         have g4h := Lib.hid (c4.out _ Bf.out)
         have hend := Lib.hid (show OpV (((wS.setCell ⟨g2', m, none⟩ (.string ⟨dn.toArray⟩))).setRow (g2 + 1 + 1) #[.slice x1 n2 x3, .slice y1 n2 y3, .slice (some ⟨g2', 0, none⟩) n3 u3]) (.agg #[.slice x1 n2 x3, .slice y1 n2 y3, .slice (some ⟨g2', 0, none⟩) n3 u3]) (ks) (vs) ((ps.set n dm).set m dn) ∧ OBd (ks) (vs) ((ps.set n dm).set m dn) ∧ Below W0.heap.size W0 (((wS.setCell ⟨g2', m, none⟩ (.string ⟨dn.toArray⟩))).setRow (g2 + 1 + 1) #[.slice x1 n2 x3, .slice y1 n2 y3, .slice (some ⟨g2', 0, none⟩) n3 u3]) from ⟨⟨_, _, _, rfl, (SLB.frm n0.out (Frm.setRow _ _ _) (.inl hg4.out)).SL, (SLB.frm n1.out (Frm.setRow _ _ _) (.inl hg4.out)).SL, (SLB.frm n2'.out (Frm.setRow _ _ _) (.inl hg4.out)).SL⟩, nO.out, below_setRow (toW.out _ Bf.out) hg5.out _⟩)
         clear r0 r1 r2 bA
         go_wp2_with (first
          | (refine wpList_load_row rfl 37 (.tmp 5) rfl gA rfl 37 #[.slice x1 n2 x3, .slice y1 n2 y3, .slice (some ⟨g2', 0, none⟩) n3 u3] (0, 0) _ gAh.out Tryd.underlying37 rfl size37 ?_)
          | (refine wpList_store_row rfl 37 (.tmp 4) (.tmp 172) rfl (g2 + 1 + 1) #[.slice x1 n2 x3, .slice y1 n2 y3, .slice (some ⟨g2', 0, none⟩) n3 u3] rfl rfl 37 _ g4h.out size37 rfl (by simp [Value.oneCell']) ?_))
         refine bodyPost_ret (v := _) (results_cell_row (fn := Tryd.f22) rfl _ _ (g2 + 1 + 1) 37 #[.slice x1 n2 x3, .slice y1 n2 y3, .slice (some ⟨g2', 0, none⟩) n3 u3] (0, 0) _ rfl (setRow_heap _ _ _ _ _ _ g4h.out) Tryd.underlying37 rfl size37) rfl ?_
         exact ⟨_, _, _, _, rfl, hend.out⟩
        exact AllReadyF.nil
       exact AllReadyF.nil
      exact AllReadyF.nil
     exact AllReadyF.nil
   ·skip
    obtain ⟨hx1, hxq, hxc⟩ := RowK.openS r2.out (by rw [← hN3.out]; omega)
    subst hx1
    clear hxq
    have hnl : n < ps.length := by rw [← hN3.out]; exact nl
    obtain ⟨d, rest, hps⟩ : ∃ d rest, ps = d :: rest := by
     cases ps with
     | nil => simp at hnl
     | cons d rest => exact ⟨d, rest, rfl⟩
    have hO2 := hO.out
    rw [hps] at hO2
    have hn3 : n3 = rest.length + 1 := by rw [hN3.out, hps]; rfl
    have nO := Lib.hid hO2.tail
    have fA := free_of_block (i := 2) bA.out
    have F1 := fun u => Frm.setCell wn gA 2 u
    have n0 := Lib.hid (fun u => ((r0.out.keep (F1 u) d03).SLB eI_len))
    have n1 := Lib.hid (fun u => ((r1.out.keep (F1 u) d13).SLB eS_len))
    have n2' := Lib.hid (fun u => by
     have h := (r2.out.keep (F1 u) d23).SLB eS_len
     rw [hps] at h
     exact SLB.tail h hn3)
    have nA := Lib.hid (fun u => set_field (i := 2) (v := u) bA.out)
    have nB := Lib.hid (show ∀ u, Below wo.heap.size wo (wn.setCell ⟨gA, 2, none⟩ u) from fun u => Bn.out.setCell (by have := hgA.out; simpa using this) u)
    have i0 : (1 : Int) ≤ (n3 : Int) := by omega
    have i1 : (n3 : Int) ≤ (u3 : Int) := by omega
    have i3 : (1 : Int) ≤ (u3 : Int) := by omega
    clear hn3 hps hO2 F1
    go_upto_region 32 with (fail)
    obtain ⟨pa, hpa⟩ : ∃ pa : Option Addr, Hid (pa = if u3 = 1 then some ⟨g2', 0, none⟩ else some ⟨g2', 1, none⟩) := ⟨_, Lib.hid (Eq.refl _)⟩
    obtain ⟨pm, hpm⟩ : ∃ m : Nat, Hid (m = n3 - 1) := ⟨_, Lib.hid (Eq.refl _)⟩
    obtain ⟨pc, hpc⟩ : ∃ m : Nat, Hid (m = u3 - 1) := ⟨_, Lib.hid (Eq.refl _)⟩
    rw [← hpa.out, ← hpm.out, ← hpc.out]
    have n2x := Lib.hid (show ∀ u, SLB eS wo.heap.size (wn.setCell ⟨gA, 2, none⟩ u) (.slice pa pm pc) rest from fun u => by rw [hpa.out, hpm.out, hpc.out]; exact n2'.out u)
    have gAh := Lib.hid (show ((wn.setCell ⟨gA, 2, none⟩ (.slice pa pm pc))).heap[gA]? = some (.cells #[.slice x1 n2 x3, .slice y1 n2 y3, .slice pa pm pc] 37 (0, 0)) from nA.out _)
    have Bf := Lib.hid (show Below wo.heap.size wo ((wn.setCell ⟨gA, 2, none⟩ (.slice pa pm pc))) from nB.out _)
    have g4h := Lib.hid (c4.out _ Bf.out)
    have hend := Lib.hid (show OpV (((wn.setCell ⟨gA, 2, none⟩ (.slice pa pm pc))).setRow (g2 + 1 + 1) #[.slice x1 n2 x3, .slice y1 n2 y3, .slice pa pm pc]) (.agg #[.slice x1 n2 x3, .slice y1 n2 y3, .slice pa pm pc]) (ks) (vs) (rest) ∧ OBd (ks) (vs) (rest) ∧ Below W0.heap.size W0 (((wn.setCell ⟨gA, 2, none⟩ (.slice pa pm pc))).setRow (g2 + 1 + 1) #[.slice x1 n2 x3, .slice y1 n2 y3, .slice pa pm pc]) from ⟨⟨_, _, _, rfl, (SLB.frm (n0.out _) (Frm.setRow _ _ _) (.inl hg4.out)).SL, (SLB.frm (n1.out _) (Frm.setRow _ _ _) (.inl hg4.out)).SL, (SLB.frm (n2x.out _) (Frm.setRow _ _ _) (.inl hg4.out)).SL⟩, nO.out, below_setRow (toW.out _ Bf.out) hg5.out _⟩)
    clear r0 r1 r2 bA
    go_wp2_with (first
     | (refine wpList_load_row rfl 37 (.tmp 5) rfl gA rfl 37 #[.slice x1 n2 x3, .slice y1 n2 y3, .slice pa pm pc] (0, 0) _ gAh.out Tryd.underlying37 rfl size37 ?_)
     | (refine wpList_store_row rfl 37 (.tmp 4) (.tmp 172) rfl (g2 + 1 + 1) #[.slice x1 n2 x3, .slice y1 n2 y3, .slice pa pm pc] rfl rfl 37 _ g4h.out size37 rfl (by simp [Value.oneCell']) ?_))
    refine bodyPost_ret (v := _) (results_cell_row (fn := Tryd.f22) rfl _ _ (g2 + 1 + 1) 37 #[.slice x1 n2 x3, .slice y1 n2 y3, .slice pa pm pc] (0, 0) _ rfl (setRow_heap _ _ _ _ _ _ g4h.out) Tryd.underlying37 rfl size37) rfl ?_
    exact ⟨_, _, _, _, rfl, hend.out⟩
   ·skip
    have gAh := Lib.hid (show (wn).heap[gA]? = some (.cells #[.slice x1 n2 x3, .slice y1 n2 y3, .slice u1 n3 u3] 37 (0, 0)) from bA.out)
    have Bf := Lib.hid (show Below wo.heap.size wo (wn) from Bn.out)
    have g4h := Lib.hid (c4.out _ Bf.out)
    have hend := Lib.hid (show OpV ((wn).setRow (g2 + 1 + 1) #[.slice x1 n2 x3, .slice y1 n2 y3, .slice u1 n3 u3]) (.agg #[.slice x1 n2 x3, .slice y1 n2 y3, .slice u1 n3 u3]) (ks) (vs) (ps) ∧ OBd (ks) (vs) (ps) ∧ Below W0.heap.size W0 ((wn).setRow (g2 + 1 + 1) #[.slice x1 n2 x3, .slice y1 n2 y3, .slice u1 n3 u3]) from ⟨⟨_, _, _, rfl, (SLB.frm (r0.out.SLB eI_len) (Frm.setRow _ _ _) (.inl hg4.out)).SL, (SLB.frm (r1.out.SLB eS_len) (Frm.setRow _ _ _) (.inl hg4.out)).SL, (SLB.frm (r2.out.SLB eS_len) (Frm.setRow _ _ _) (.inl hg4.out)).SL⟩, hO.out, below_setRow (toW.out _ Bf.out) hg5.out _⟩)
    clear r0 r1 r2 bA
    go_wp2_with (first
     | (refine wpList_load_row rfl 37 (.tmp 5) rfl gA rfl 37 #[.slice x1 n2 x3, .slice y1 n2 y3, .slice u1 n3 u3] (0, 0) _ gAh.out Tryd.underlying37 rfl size37 ?_)
     | (refine wpList_store_row rfl 37 (.tmp 4) (.tmp 172) rfl (g2 + 1 + 1) #[.slice x1 n2 x3, .slice y1 n2 y3, .slice u1 n3 u3] rfl rfl 37 _ g4h.out size37 rfl (by simp [Value.oneCell']) ?_))
    refine bodyPost_ret (v := _) (results_cell_row (fn := Tryd.f22) rfl _ _ (g2 + 1 + 1) 37 #[.slice x1 n2 x3, .slice y1 n2 y3, .slice u1 n3 u3] (0, 0) _ rfl (setRow_heap _ _ _ _ _ _ g4h.out) Tryd.underlying37 rfl size37) rfl ?_
    exact ⟨_, _, _, _, rfl, hend.out⟩
  ·skip
   have tB : ¬ (0 : Int) < (n3 : Int) := by omega
   go_wp2_with fail
   refine (p0.out _).mono ?_
   rintro e w' ⟨rfl, rfl⟩
   have hs' : s = 0 ∨ s = 1 ∨ s = 2 ∨ s = 3 ∨ s = 4 ∨ s = 5 ∨ s = 6 := by omega
   rcases hs' with rfl | rfl | rfl | rfl | rfl | rfl | rfl
   ·skip
    have gAh := Lib.hid (show (wn).heap[gA]? = some (.cells #[.slice x1 n2 x3, .slice y1 n2 y3, .slice u1 n3 u3] 37 (0, 0)) from bA.out)
    have Bf := Lib.hid (show Below wo.heap.size wo (wn) from Bn.out)
    have g4h := Lib.hid (c4.out _ Bf.out)
    have hend := Lib.hid (show OpV ((wn).setRow (g2 + 1 + 1) #[.slice x1 n2 x3, .slice y1 n2 y3, .slice u1 n3 u3]) (.agg #[.slice x1 n2 x3, .slice y1 n2 y3, .slice u1 n3 u3]) (ks) (vs) (ps) ∧ OBd (ks) (vs) (ps) ∧ Below W0.heap.size W0 ((wn).setRow (g2 + 1 + 1) #[.slice x1 n2 x3, .slice y1 n2 y3, .slice u1 n3 u3]) from ⟨⟨_, _, _, rfl, (SLB.frm (r0.out.SLB eI_len) (Frm.setRow _ _ _) (.inl hg4.out)).SL, (SLB.frm (r1.out.SLB eS_len) (Frm.setRow _ _ _) (.inl hg4.out)).SL, (SLB.frm (r2.out.SLB eS_len) (Frm.setRow _ _ _) (.inl hg4.out)).SL⟩, hO.out, below_setRow (toW.out _ Bf.out) hg5.out _⟩)
    clear r0 r1 r2 bA
    go_wp2_with (first
     | (refine wpList_load_row rfl 37 (.tmp 5) rfl gA rfl 37 #[.slice x1 n2 x3, .slice y1 n2 y3, .slice u1 n3 u3] (0, 0) _ gAh.out Tryd.underlying37 rfl size37 ?_)
     | (refine wpList_store_row rfl 37 (.tmp 4) (.tmp 172) rfl (g2 + 1 + 1) #[.slice x1 n2 x3, .slice y1 n2 y3, .slice u1 n3 u3] rfl rfl 37 _ g4h.out size37 rfl (by simp [Value.oneCell']) ?_))
    refine bodyPost_ret (v := _) (results_cell_row (fn := Tryd.f22) rfl _ _ (g2 + 1 + 1) 37 #[.slice x1 n2 x3, .slice y1 n2 y3, .slice u1 n3 u3] (0, 0) _ rfl (setRow_heap _ _ _ _ _ _ g4h.out) Tryd.underlying37 rfl size37) rfl ?_
    exact ⟨_, _, _, _, rfl, hend.out⟩
   ·skip
    have gAh := Lib.hid (show (wn).heap[gA]? = some (.cells #[.slice x1 n2 x3, .slice y1 n2 y3, .slice u1 n3 u3] 37 (0, 0)) from bA.out)
    have Bf := Lib.hid (show Below wo.heap.size wo (wn) from Bn.out)
    have g4h := Lib.hid (c4.out _ Bf.out)
    have hend := Lib.hid (show OpV ((wn).setRow (g2 + 1 + 1) #[.slice x1 n2 x3, .slice y1 n2 y3, .slice u1 n3 u3]) (.agg #[.slice x1 n2 x3, .slice y1 n2 y3, .slice u1 n3 u3]) (ks) (vs) (ps) ∧ OBd (ks) (vs) (ps) ∧ Below W0.heap.size W0 ((wn).setRow (g2 + 1 + 1) #[.slice x1 n2 x3, .slice y1 n2 y3, .slice u1 n3 u3]) from ⟨⟨_, _, _, rfl, (SLB.frm (r0.out.SLB eI_len) (Frm.setRow _ _ _) (.inl hg4.out)).SL, (SLB.frm (r1.out.SLB eS_len) (Frm.setRow _ _ _) (.inl hg4.out)).SL, (SLB.frm (r2.out.SLB eS_len) (Frm.setRow _ _ _) (.inl hg4.out)).SL⟩, hO.out, below_setRow (toW.out _ Bf.out) hg5.out _⟩)
    clear r0 r1 r2 bA
    go_wp2_with (first
     | (refine wpList_load_row rfl 37 (.tmp 5) rfl gA rfl 37 #[.slice x1 n2 x3, .slice y1 n2 y3, .slice u1 n3 u3] (0, 0) _ gAh.out Tryd.underlying37 rfl size37 ?_)
     | (refine wpList_store_row rfl 37 (.tmp 4) (.tmp 172) rfl (g2 + 1 + 1) #[.slice x1 n2 x3, .slice y1 n2 y3, .slice u1 n3 u3] rfl rfl 37 _ g4h.out size37 rfl (by simp [Value.oneCell']) ?_))
    refine bodyPost_ret (v := _) (results_cell_row (fn := Tryd.f22) rfl _ _ (g2 + 1 + 1) 37 #[.slice x1 n2 x3, .slice y1 n2 y3, .slice u1 n3 u3] (0, 0) _ rfl (setRow_heap _ _ _ _ _ _ g4h.out) Tryd.underlying37 rfl size37) rfl ?_
    exact ⟨_, _, _, _, rfl, hend.out⟩
   ·skip
    have gAh := Lib.hid (show (wn).heap[gA]? = some (.cells #[.slice x1 n2 x3, .slice y1 n2 y3, .slice u1 n3 u3] 37 (0, 0)) from bA.out)
    have Bf := Lib.hid (show Below wo.heap.size wo (wn) from Bn.out)
    have g4h := Lib.hid (c4.out _ Bf.out)
    have hend := Lib.hid (show OpV ((wn).setRow (g2 + 1 + 1) #[.slice x1 n2 x3, .slice y1 n2 y3, .slice u1 n3 u3]) (.agg #[.slice x1 n2 x3, .slice y1 n2 y3, .slice u1 n3 u3]) (ks) (vs) (ps) ∧ OBd (ks) (vs) (ps) ∧ Below W0.heap.size W0 ((wn).setRow (g2 + 1 + 1) #[.slice x1 n2 x3, .slice y1 n2 y3, .slice u1 n3 u3]) from ⟨⟨_, _, _, rfl, (SLB.frm (r0.out.SLB eI_len) (Frm.setRow _ _ _) (.inl hg4.out)).SL, (SLB.frm (r1.out.SLB eS_len) (Frm.setRow _ _ _) (.inl hg4.out)).SL, (SLB.frm (r2.out.SLB eS_len) (Frm.setRow _ _ _) (.inl hg4.out)).SL⟩, hO.out, below_setRow (toW.out _ Bf.out) hg5.out _⟩)
    clear r0 r1 r2 bA
    go_wp2_with (first
     | (refine wpList_load_row rfl 37 (.tmp 5) rfl gA rfl 37 #[.slice x1 n2 x3, .slice y1 n2 y3, .slice u1 n3 u3] (0, 0) _ gAh.out Tryd.underlying37 rfl size37 ?_)
     | (refine wpList_store_row rfl 37 (.tmp 4) (.tmp 172) rfl (g2 + 1 + 1) #[.slice x1 n2 x3, .slice y1 n2 y3, .slice u1 n3 u3] rfl rfl 37 _ g4h.out size37 rfl (by simp [Value.oneCell']) ?_))
    refine bodyPost_ret (v := _) (results_cell_row (fn := Tryd.f22) rfl _ _ (g2 + 1 + 1) 37 #[.slice x1 n2 x3, .slice y1 n2 y3, .slice u1 n3 u3] (0, 0) _ rfl (setRow_heap _ _ _ _ _ _ g4h.out) Tryd.underlying37 rfl size37) rfl ?_
    exact ⟨_, _, _, _, rfl, hend.out⟩
   ·skip
    have gAh := Lib.hid (show (wn).heap[gA]? = some (.cells #[.slice x1 n2 x3, .slice y1 n2 y3, .slice u1 n3 u3] 37 (0, 0)) from bA.out)
    have Bf := Lib.hid (show Below wo.heap.size wo (wn) from Bn.out)
    have g4h := Lib.hid (c4.out _ Bf.out)
    have hend := Lib.hid (show OpV ((wn).setRow (g2 + 1 + 1) #[.slice x1 n2 x3, .slice y1 n2 y3, .slice u1 n3 u3]) (.agg #[.slice x1 n2 x3, .slice y1 n2 y3, .slice u1 n3 u3]) (ks) (vs) (ps) ∧ OBd (ks) (vs) (ps) ∧ Below W0.heap.size W0 ((wn).setRow (g2 + 1 + 1) #[.slice x1 n2 x3, .slice y1 n2 y3, .slice u1 n3 u3]) from ⟨⟨_, _, _, rfl, (SLB.frm (r0.out.SLB eI_len) (Frm.setRow _ _ _) (.inl hg4.out)).SL, (SLB.frm (r1.out.SLB eS_len) (Frm.setRow _ _ _) (.inl hg4.out)).SL, (SLB.frm (r2.out.SLB eS_len) (Frm.setRow _ _ _) (.inl hg4.out)).SL⟩, hO.out, below_setRow (toW.out _ Bf.out) hg5.out _⟩)
    clear r0 r1 r2 bA
    go_wp2_with (first
     | (refine wpList_load_row rfl 37 (.tmp 5) rfl gA rfl 37 #[.slice x1 n2 x3, .slice y1 n2 y3, .slice u1 n3 u3] (0, 0) _ gAh.out Tryd.underlying37 rfl size37 ?_)
     | (refine wpList_store_row rfl 37 (.tmp 4) (.tmp 172) rfl (g2 + 1 + 1) #[.slice x1 n2 x3, .slice y1 n2 y3, .slice u1 n3 u3] rfl rfl 37 _ g4h.out size37 rfl (by simp [Value.oneCell']) ?_))
    refine bodyPost_ret (v := _) (results_cell_row (fn := Tryd.f22) rfl _ _ (g2 + 1 + 1) 37 #[.slice x1 n2 x3, .slice y1 n2 y3, .slice u1 n3 u3] (0, 0) _ rfl (setRow_heap _ _ _ _ _ _ g4h.out) Tryd.underlying37 rfl size37) rfl ?_
    exact ⟨_, _, _, _, rfl, hend.out⟩
   ·skip
    have gAh := Lib.hid (show (wn).heap[gA]? = some (.cells #[.slice x1 n2 x3, .slice y1 n2 y3, .slice u1 n3 u3] 37 (0, 0)) from bA.out)
    have Bf := Lib.hid (show Below wo.heap.size wo (wn) from Bn.out)
    have g4h := Lib.hid (c4.out _ Bf.out)
    have hend := Lib.hid (show OpV ((wn).setRow (g2 + 1 + 1) #[.slice x1 n2 x3, .slice y1 n2 y3, .slice u1 n3 u3]) (.agg #[.slice x1 n2 x3, .slice y1 n2 y3, .slice u1 n3 u3]) (ks) (vs) (ps) ∧ OBd (ks) (vs) (ps) ∧ Below W0.heap.size W0 ((wn).setRow (g2 + 1 + 1) #[.slice x1 n2 x3, .slice y1 n2 y3, .slice u1 n3 u3]) from ⟨⟨_, _, _, rfl, (SLB.frm (r0.out.SLB eI_len) (Frm.setRow _ _ _) (.inl hg4.out)).SL, (SLB.frm (r1.out.SLB eS_len) (Frm.setRow _ _ _) (.inl hg4.out)).SL, (SLB.frm (r2.out.SLB eS_len) (Frm.setRow _ _ _) (.inl hg4.out)).SL⟩, hO.out, below_setRow (toW.out _ Bf.out) hg5.out _⟩)
    clear r0 r1 r2 bA
    go_wp2_with (first
     | (refine wpList_load_row rfl 37 (.tmp 5) rfl gA rfl 37 #[.slice x1 n2 x3, .slice y1 n2 y3, .slice u1 n3 u3] (0, 0) _ gAh.out Tryd.underlying37 rfl size37 ?_)
     | (refine wpList_store_row rfl 37 (.tmp 4) (.tmp 172) rfl (g2 + 1 + 1) #[.slice x1 n2 x3, .slice y1 n2 y3, .slice u1 n3 u3] rfl rfl 37 _ g4h.out size37 rfl (by simp [Value.oneCell']) ?_))
    refine bodyPost_ret (v := _) (results_cell_row (fn := Tryd.f22) rfl _ _ (g2 + 1 + 1) 37 #[.slice x1 n2 x3, .slice y1 n2 y3, .slice u1 n3 u3] (0, 0) _ rfl (setRow_heap _ _ _ _ _ _ g4h.out) Tryd.underlying37 rfl size37) rfl ?_
    exact ⟨_, _, _, _, rfl, hend.out⟩
   ·skip
    have gAh := Lib.hid (show (wn).heap[gA]? = some (.cells #[.slice x1 n2 x3, .slice y1 n2 y3, .slice u1 n3 u3] 37 (0, 0)) from bA.out)
    have Bf := Lib.hid (show Below wo.heap.size wo (wn) from Bn.out)
    have g4h := Lib.hid (c4.out _ Bf.out)
    have hend := Lib.hid (show OpV ((wn).setRow (g2 + 1 + 1) #[.slice x1 n2 x3, .slice y1 n2 y3, .slice u1 n3 u3]) (.agg #[.slice x1 n2 x3, .slice y1 n2 y3, .slice u1 n3 u3]) (ks) (vs) (ps) ∧ OBd (ks) (vs) (ps) ∧ Below W0.heap.size W0 ((wn).setRow (g2 + 1 + 1) #[.slice x1 n2 x3, .slice y1 n2 y3, .slice u1 n3 u3]) from ⟨⟨_, _, _, rfl, (SLB.frm (r0.out.SLB eI_len) (Frm.setRow _ _ _) (.inl hg4.out)).SL, (SLB.frm (r1.out.SLB eS_len) (Frm.setRow _ _ _) (.inl hg4.out)).SL, (SLB.frm (r2.out.SLB eS_len) (Frm.setRow _ _ _) (.inl hg4.out)).SL⟩, hO.out, below_setRow (toW.out _ Bf.out) hg5.out _⟩)
    clear r0 r1 r2 bA
    go_wp2_with (first
     | (refine wpList_load_row rfl 37 (.tmp 5) rfl gA rfl 37 #[.slice x1 n2 x3, .slice y1 n2 y3, .slice u1 n3 u3] (0, 0) _ gAh.out Tryd.underlying37 rfl size37 ?_)
     | (refine wpList_store_row rfl 37 (.tmp 4) (.tmp 172) rfl (g2 + 1 + 1) #[.slice x1 n2 x3, .slice y1 n2 y3, .slice u1 n3 u3] rfl rfl 37 _ g4h.out size37 rfl (by simp [Value.oneCell']) ?_))
    refine bodyPost_ret (v := _) (results_cell_row (fn := Tryd.f22) rfl _ _ (g2 + 1 + 1) 37 #[.slice x1 n2 x3, .slice y1 n2 y3, .slice u1 n3 u3] (0, 0) _ rfl (setRow_heap _ _ _ _ _ _ g4h.out) Tryd.underlying37 rfl size37) rfl ?_
    exact ⟨_, _, _, _, rfl, hend.out⟩
   ·skip
    have gAh := Lib.hid (show (wn).heap[gA]? = some (.cells #[.slice x1 n2 x3, .slice y1 n2 y3, .slice u1 n3 u3] 37 (0, 0)) from bA.out)
    have Bf := Lib.hid (show Below wo.heap.size wo (wn) from Bn.out)
    have g4h := Lib.hid (c4.out _ Bf.out)
    have hend := Lib.hid (show OpV ((wn).setRow (g2 + 1 + 1) #[.slice x1 n2 x3, .slice y1 n2 y3, .slice u1 n3 u3]) (.agg #[.slice x1 n2 x3, .slice y1 n2 y3, .slice u1 n3 u3]) (ks) (vs) (ps) ∧ OBd (ks) (vs) (ps) ∧ Below W0.heap.size W0 ((wn).setRow (g2 + 1 + 1) #[.slice x1 n2 x3, .slice y1 n2 y3, .slice u1 n3 u3]) from ⟨⟨_, _, _, rfl, (SLB.frm (r0.out.SLB eI_len) (Frm.setRow _ _ _) (.inl hg4.out)).SL, (SLB.frm (r1.out.SLB eS_len) (Frm.setRow _ _ _) (.inl hg4.out)).SL, (SLB.frm (r2.out.SLB eS_len) (Frm.setRow _ _ _) (.inl hg4.out)).SL⟩, hO.out, below_setRow (toW.out _ Bf.out) hg5.out _⟩)
    clear r0 r1 r2 bA
    go_wp2_with (first
     | (refine wpList_load_row rfl 37 (.tmp 5) rfl gA rfl 37 #[.slice x1 n2 x3, .slice y1 n2 y3, .slice u1 n3 u3] (0, 0) _ gAh.out Tryd.underlying37 rfl size37 ?_)
     | (refine wpList_store_row rfl 37 (.tmp 4) (.tmp 172) rfl (g2 + 1 + 1) #[.slice x1 n2 x3, .slice y1 n2 y3, .slice u1 n3 u3] rfl rfl 37 _ g4h.out size37 rfl (by simp [Value.oneCell']) ?_))
    refine bodyPost_ret (v := _) (results_cell_row (fn := Tryd.f22) rfl _ _ (g2 + 1 + 1) 37 #[.slice x1 n2 x3, .slice y1 n2 y3, .slice u1 n3 u3] (0, 0) _ rfl (setRow_heap _ _ _ _ _ _ g4h.out) Tryd.underlying37 rfl size37) rfl ?_
    exact ⟨_, _, _, _, rfl, hend.out⟩
end Go.Proofs.YtegahpfmkepfmaaDoor
