/- GraphCodeMatchesReference, the whole walk. -/
import Derived.Test.YtlaldnlgapeckaaGreatZO
import Derived.Test.YtlaldnlgapeckaaGreatYS
set_option linter.unusedSimpArgs false
set_option maxRecDepth 1000000
set_option maxHeartbeats 8000000
namespace Go.Proofs.YtlaldnlgapeckaaGreat
open Go.RowKit
theorem encG_uni (g : Gr) (hn : g.small) : ∃ (S : ByteArray) (E : Int), Hid (S.size ≤ 1000000) ∧ Hid (∀ f, f = 32 ∨ f = 33 → ∀ vc W, GV W vc g → Calls Tryz.prog f #[vc] W fun e w' => e = .returned (.tuple #[.string S, .int .i64 E]) ∧ Below W.heap.size W w') := by
 have key : ∀ f, f = 32 ∨ f = 33 → ∀ vc W, GV W vc g → Calls Tryz.prog f #[vc] W (EncPost g W) := fun f hf vc W h => by
  rcases hf with rfl | rfl
  · exact Encode_any vc g W h hn
  · exact EncodeR_any vc g W h hn
 cases he : g.ok with
 | false =>
  refine ⟨⟨#[]⟩, 30, by show _ ≤ _; decide, fun f hf vc W h => (key f hf vc W h).mono fun e w' q => ?_⟩
  unfold EncPost at q
  rw [he] at q
  exact q
 | true =>
  have hO := (ok_iff g).1 he
  refine ⟨⟨(encB g).toArray⟩, 0, ?_, fun f hf vc W h => (key f hf vc W h).mono fun e w' q => ?_⟩
  · show (encB g).toArray.size ≤ _
    rw [← gN_enc]
    have h1 := flat_len (gN g) putL 9 (fun x => (putL_len x).2) (gN g).length
    rw [List.take_length] at h1
    have l1 := hO.vlen
    have l2 := hO.elen
    have l3 := hO.dlen
    have h2 : (gN g).length ≤ 1000 := by
     simp only [gN, gN2, gN1, List.length_append, vN_len, eN_len, List.length_singleton]
     omega
    rw [List.size_toArray]; omega
  · unfold EncPost at q
    rw [he] at q
    exact q
theorem xcut_size (s : ByteArray) (m : Nat) (h : m ≤ s.size) : (s.extract 0 m).size = m := by simp; omega
theorem VL.upto' {W : World} {a : Option Addr} {n c : Nat} {l : List Vx} (h : VL W (.slice a n c) l) (hn : n = l.length) (m : Nat) : VL W (.slice a (min n m) c) (l.take m) := by
 subst hn; exact (h.upto m).1
theorem EL.upto' {W : World} {a : Option Addr} {n c : Nat} {l : List Ed} (h : EL W (.slice a n c) l) (hn : n = l.length) (m : Nat) : EL W (.slice a (min n m) c) (l.take m) := by
 subst hn; exact (h.upto m).1
theorem CodeM_any (n : Int) (vl : Value) (l : List F5) (x : F6) (s : ByteArray) (at_ : Int) (cb : Nat) (raw : Gr) (odd : Ch) (r1 r3 r5 oa ob : Option Addr) (n1 r2 n2 r4 n3 r6 k1 oc k2 od : Nat) (w : World)
  (hl : L5 w vl l) (hn : i64B n) (hlen : l.length ≤ 9223372036854775807) (hr : ∀ r ∈ l, i64B r.a ∧ i64B r.b ∧ i64B r.c ∧ i64B r.d ∧ i64B r.e) (hx : x.inB) (_hs : s.size ≤ maxLen) (ha : inI at_) (hcb : cb < 256)
  (hv : VL w (.slice r1 n1 r2) raw.vs) (he : EL w (.slice r3 n2 r4) raw.es) (hd : DL w (.slice r5 n3 r6) raw.ds) (hnn : n1 = raw.vs.length ∧ n2 = raw.es.length ∧ n3 = raw.ds.length) (hcap : n1 ≤ r2 ∧ n2 ≤ r4 ∧ n3 ≤ r6) (hbig : n1 ≤ 9223372036854775807 ∧ n2 ≤ 9223372036854775807 ∧ n3 ≤ 9223372036854775807)
  (hoA : DL w (.slice oa k1 oc) odd.ends) (hoB : DL w (.slice ob k2 od) odd.deps) (hkk : k1 = odd.ends.length ∧ k2 = odd.deps.length) (hkc : k1 ≤ oc ∧ k2 ≤ od ∧ k1 ≤ 9223372036854775807 ∧ k2 ≤ 9223372036854775807) (hri : ∀ n ∈ chN odd, inI n) :
  Calls Tryz.prog 4 #[.agg #[.slice r1 n1 r2, .slice r3 n2 r4, .slice r5 n3 r6], .int .i64 n, vl, .agg (chCells odd (.slice oa k1 oc) (.slice ob k2 od)), .agg x.cells, .string s, .int .i64 at_, .int .u8 (cb : Int)] w fun e w' => e = .returned (.bool true) ∧ Below w.heap.size w w' := by
 obtain ⟨W0, hW0⟩ : ∃ W0, W0 = ((w.alloc (.cells #[.slice r1 n1 r2, .slice r3 n2 r4, .slice r5 n3 r6] 26)).alloc (.cells (chCells odd (.slice oa k1 oc) (.slice ob k2 od)) 33)).alloc (.cells x.cells 42) := ⟨_, rfl⟩
 obtain ⟨b0, hb0⟩ : ∃ b, Hid (b = w.heap.size) := ⟨_, rfl⟩
 have z0 : W0.heap.size = b0 + 3 := by rw [hW0, hb0.out]; simp
 have B0 := Hd (show Below w.heap.size w W0 by rw [hW0]; exact (((Below.refl _ w).alloc (Nat.le_refl _) _).alloc (by simp) _).alloc (by simp; omega) _)
 have g8 := Hd (show W0.heap[b0]? = some (.cells #[.slice r1 n1 r2, .slice r3 n2 r4, .slice r5 n3 r6] 26 (0, 0)) by rw [hW0, hb0.out]; exact (al3 w _ _ _).1)
 have g11 := Hd (show W0.heap[b0 + 1]? = some (.cells (chCells odd (.slice oa k1 oc) (.slice ob k2 od)) 33 (0, 0)) by rw [hW0, hb0.out]; exact (al3 w _ _ _).2.1)
 have g12 := Hd (show W0.heap[b0 + 1 + 1]? = some (.cells x.cells 42 (0, 0)) by rw [hW0, hb0.out]; exact (al3 w _ _ _).2.2.1)
 have cS := Hd (sane_any W0)
 have up0 := Hd (fun W (B : Below W0.heap.size W0 W) => B0.out.trans (B.mono B0.out.size))
 obtain ⟨G, hG⟩ : ∃ G, Hid (G = madeG n l false) := ⟨_, rfl⟩
 have hok : Ok G := by rw [hG.out]; exact made_ok n l false
 replace hok := Hd hok
 have cM := Hd (show ∀ W (B : Below W0.heap.size W0 W), Calls Tryz.prog 11 #[.int .i64 n, vl, .bool false] W fun e w' => ∃ a1 a2 b1 b2 c1 c2, ∃ n1 n2 n3 : Nat, e = .returned (.agg #[.slice a1 n1 a2, .slice b1 n2 b2, .slice c1 n3 c2]) ∧ GV w' (.agg #[.slice a1 n1 a2, .slice b1 n2 b2, .slice c1 n3 c2]) G ∧ Below W.heap.size W w' from fun W B => (Made_any n vl l false W (hl.below (up0.out W B)) hn hlen hr).mono fun e w' h => by
  obtain ⟨x, y, z, he, o1, o2, o3, hb⟩ := h
  rw [← hG.out] at o1 o2 o3
  obtain ⟨a1, a2, rfl⟩ := o1.VL.shape
  obtain ⟨b1, b2, rfl⟩ := o2.EL.shape
  obtain ⟨c1, c2, rfl⟩ := o3.DL.shape
  exact ⟨_, _, _, _, _, _, _, _, _, he, ⟨_, _, _, rfl, o1.VL, o2.EL, o3.DL⟩, hb⟩)
 have hV := Hd (fun W (B : Below W0.heap.size W0 W) => (⟨_, _, _, rfl, (hv.upto' hnn.1 8).below (up0.out W B), (he.upto' hnn.2.1 10).below (up0.out W B), (hd.upto' hnn.2.2 4).below (up0.out W B)⟩ : GV W (.agg #[.slice r1 (min n1 8) r2, .slice r3 (min n2 10) r4, .slice r5 (min n3 4) r6]) (fewG raw)))
 have hA' := Hd (fun W (B : Below W0.heap.size W0 W) => hoA.below (up0.out W B))
 have hB' := Hd (fun W (B : Below W0.heap.size W0 W) => hoB.below (up0.out W B))
 have kfew := Hd (fun W => few_x r1 r3 r5 n1 r2 n2 r4 n3 r6 W hcap.1 hcap.2.1 hcap.2.2 hbig)
 replace hkk := Hd hkk
 replace hri := Hd hri
 replace hx := Hd hx
 replace ha := Hd ha
 replace hcb := Hd hcb
 obtain ⟨m, hm, lm, km⟩ : ∃ m, Hid (m = min s.size 300) ∧ m ≤ 300 ∧ m ≤ s.size := ⟨_, rfl, by omega, by omega⟩
 have r2' : ∀ ts t w, (Builtin.min_ ts t #[.int .i64 (s.size : Int), .int .i64 300]).run Tryz.prog w = .ok (.int .i64 (m : Int)) w := fun ts t w => by rw [hm.out]; exact mmin_run _ 300 _ _ _ _ rfl
 have eS := Hd (xcut_size s m km)
 unfold maxLen at _hs
 obtain ⟨SG1, EG1, hSG1, kEG1⟩ := encG_uni (fewG raw) ⟨by simp [fewG]; omega, by simp [fewG]; omega, by simp [fewG]; omega⟩
 obtain ⟨SG2, EG2, hSG2, kEG2⟩ := encG_uni G ⟨by have := hok.out.vlen; omega, by have := hok.out.elen; omega, by have := hok.out.dlen; omega⟩
 simp only [chCells, F6.cells] at hW0
 replace hW0 := Hd hW0
 replace z0 := Hd z0
 clear hl hn hlen hr hv he hd hnn hoA hoB
 unfold chCells F6.cells
 go_enter Tryz.func4, Tryz.ntmps4
 go_wp2_with fail
 rw [← hW0.out, ← hb0.out]
 refine cS.out.mono ?_
 rintro e w1 ⟨rfl, b1⟩
 have b1 := Hd b1
 go_wp2_with fail
 refine (cM.out w1 b1.out).mono ?_
 rintro e w2 ⟨g1, g2, g3, g4, g5, g6, m1, m2, m3, rfl, hgv, b2⟩
 obtain ⟨w3, hw3⟩ : ∃ W, W = w2.alloc (.cells #[.slice g1 m1 g2, .slice g3 m2 g4, .slice g5 m3 g6] 26) := ⟨_, rfl⟩
 obtain ⟨p18, hp18⟩ : ∃ p, Hid (p = w2.heap.size) := ⟨_, rfl⟩
 have hB2 := Hd (b1.out.trans (b2.mono b1.out.size))
 have hA3 := Hd (show Below w2.heap.size w2 w3 by rw [hw3]; exact (Below.refl _ _).alloc (Nat.le_refl _) _)
 have hB3 := Hd (hB2.out.trans (hA3.out.mono hB2.out.size))
 have gx18 := Hd (show w3.heap[p18]? = some (.cells #[.slice g1 m1 g2, .slice g3 m2 g4, .slice g5 m3 g6] 26 (0, 0)) by rw [hw3, hp18.out]; exact heap_alloc_new w2 _)
 have hgv3 := Hd (hgv.below hA3.out)
 obtain ⟨B, hBd⟩ : ∃ B, Hid (B = w3.heap.size) := ⟨_, rfl⟩
 have hzB := Hd (show p18 < B ∧ b0 + 2 < B ∧ W0.heap.size ≤ B ∧ w.heap.size ≤ B by
  have h1 := hB2.out.size
  have h2 : w3.heap.size = w2.heap.size + 1 := by rw [hw3]; simp
  have := z0.out
  have := hb0.out
  have := hp18.out
  have := hBd.out
  omega)
 replace hw3 := Hd hw3
 clear hgv b2 b1
 go_upto_region 5 with (fail)
 rw [← hw3.out, ← hp18.out]
 obtain ⟨X0, hX0⟩ : ∃ X, Hid (X = s.extract 0 m) := ⟨_, rfl⟩
 obtain ⟨w4, hw4⟩ : ∃ W, W = w3.alloc (.cells #[.string X0] 9) := ⟨_, rfl⟩
 have hA4 := Hd (show Below B w3 w4 by rw [hw4, hBd.out]; exact (Below.refl _ _).alloc (Nat.le_refl _) _)
 have hO4 : Hid (OwnT w4 B (.slice (some ⟨B, 0, none⟩) 1 1) [X0]) := by
  show OwnT _ _ _ _
  refine ⟨rfl, .inr ⟨B, 1, #[.string X0], rfl, Nat.le_refl _, by rw [hw4, hBd.out]; exact heap_alloc_new w3 _, Nat.le_refl _, by unfold maxLen; omega, rfl, rfl⟩⟩
 have hz4 := Hd (show B ≤ w4.heap.size by rw [hw4, hBd.out]; simp)
 replace hw4 := Hd hw4
 have low := Hd (fun W (BB : Below B w4 W) => (hB3.out.trans ((hA4.out.trans BB).mono (by rw [hBd.out]; exact hB3.out.size)) : Below W0.heap.size W0 W))
 have l3 := Hd (fun W (BB : Below B w4 W) => (hA4.out.trans BB : Below B w3 W))
 have hl8 := Hd (fun W (BB : Below B w4 W) => (box3c (((low.out W BB).block b0 (by have := z0.out; omega)).trans g8.out)).1)
 have hl18 := Hd (fun W (BB : Below B w4 W) => ((l3.out W BB).block p18 hzB.out.1).trans gx18.out)
 have hg18 := Hd (fun W (BB : Below B w4 W) => hgv3.out.below (by have h := l3.out W BB; rw [hBd.out] at h; exact h))
 have hx11 := Hd (fun W (BB : Below B w4 W) => ((low.out W BB).block (b0 + 1) (by have := z0.out; omega)).trans g11.out)
 have hx12 := Hd (fun W (BB : Below B w4 W) => ((low.out W BB).block (b0 + 1 + 1) (by have := z0.out; omega)).trans g12.out)
 have hB4 := Hd (up0.out w4 (low.out w4 (Below.refl _ _)))
 have hXs := Hd (show X0.size ≤ 1000000 by rw [hX0.out, eS.out]; omega)
 clear hgv3 gx18 hB2 hA3 hW0 cS cM
 go_upto_region 6 with (fail)
 rw [← hX0.out, ← hw4.out, ← hBd.out]
 clear r2'
 go_cut [64, 65, 66] from 61 to 66 (fun s l z wx => Hid (∃ gb, s = .slice (some ⟨gb, 0, none⟩) 2 2 ∧ l = .int .i64 2 ∧ z = .int .i64 0 ∧ Hid (wx.heap[gb]? = some (.cells #[.slice r1 (min n1 8) r2, .slice r3 (min n2 10) r4, .slice r5 (min n3 4) r6, .slice g1 m1 g2, .slice g3 m2 g4, .slice g5 m3 g6] 26 (0, 0))) ∧ Hid (Below w4.heap.size w4 wx)))
 case first =>
  have lo4 := Hd (fun W (BB : Below w4.heap.size w4 W) => (BB.mono hz4.out : Below B w4 W))
  refine wp_region_F (fun W => Below w4.heap.size w4 W) 999 (by kernel_rfl) (Below.refl _ w4).drew (fun hHeld => ?_)
  refine tkP 0 rfl ?_ (by (intro w h; obtain ⟨u0, u1, u2⟩ := hl8.out w (lo4.out w h); clear h; go_simp) <;> with_reducible rfl)
  refine tkP 2 rfl ?_ (by (intro w h; obtain ⟨u0, u1, u2⟩ := (box3c (hl18.out w (lo4.out w h))).1; clear h; go_simp) <;> with_reducible rfl)
  refine tkP 5 rfl ?_
  refine rdy [1] ?_
  refine arC rfl (fun K hK => ?_) AllReadyF.nil
  go_simp
  refine (kfew.out _).mono ?_
  rintro e w5 ⟨rfl, b5⟩
  have hb5 : Below w4.heap.size w4 w5 := (Below.refl _ w4).drew.trans b5
  go_wp2_with fail
  refine hK.out _ _ hb5 (fun hHeld => ?_)
  clear hK K
  try simp only [Act.put, zT, z0, zS]
  refine rdy [3] ?_
  refine arC rfl (fun K hK => ?_) AllReadyF.nil
  go_simp
  go_wp2_with fail
  have hb6 : Below w4.heap.size w4 (w5.alloc (.cells #[.slice r1 (min n1 8) r2, .slice r3 (min n2 10) r4, .slice r5 (min n3 4) r6, .slice g1 m1 g2, .slice g3 m2 g4, .slice g5 m3 g6] 26)) := hb5.alloc hb5.size _
  refine hK.out _ _ hb6 (fun hHeld => ?_)
  clear hK K
  try simp only [Act.put, zT, z0, zS]
  refine tkP 4 rfl ?_
  refine wpAnyF_done (by kernel_rfl) ?_ _
  have hb6 := Hd hb6
  clear hHeld hb5 b5
  go_wp2_with fail
  go_meet
  case rel => exact ⟨_, rfl, rfl, rfl, heap_alloc_new w5 _, hb6⟩
 case rest =>
 obtain ⟨gb, rfl, rfl, rfl, hrow, hb⟩ := hcut.out
 obtain ⟨wx, rfl⟩ : ∃ w', w' = wc := ⟨_, rfl⟩
 clear hcut
 have hsel : ∀ k, k < 2 → ∃ (C : Gr) (S : ByteArray) (E : Int) (a1 a3 a5 : Option Addr) (e1 a2 e2 a4 e3 a6 : Nat), Hid (∀ W, Below B w4 W → W.heap[gb]? = some (.cells #[.slice r1 (min n1 8) r2, .slice r3 (min n2 10) r4, .slice r5 (min n3 4) r6, .slice g1 m1 g2, .slice g3 m2 g4, .slice g5 m3 g6] 26 (0, 0)) → (W.cell? ⟨gb, k * 3, none⟩ = some (.slice a1 e1 a2) ∧ W.cell? ⟨gb, k * 3 + 1, none⟩ = some (.slice a3 e2 a4) ∧ W.cell? ⟨gb, k * 3 + 2, none⟩ = some (.slice a5 e3 a6)) ∧ GV W (.agg #[.slice a1 e1 a2, .slice a3 e2 a4, .slice a5 e3 a6]) C) ∧ Hid (S.size ≤ 1000000) ∧ Hid (∀ f, f = 32 ∨ f = 33 → ∀ vc W, GV W vc C → Calls Tryz.prog f #[vc] W fun e w' => e = .returned (.tuple #[.string S, .int .i64 E]) ∧ Below W.heap.size W w') := by
  intro k hk
  rcases (by omega : k = 0 ∨ k = 1) with rfl | rfl
  · refine ⟨fewG raw, SG1, EG1, _, _, _, _, _, _, _, _, _, fun W BB h => ⟨⟨?_, ?_, ?_⟩, hV.out W (low.out W BB)⟩, hSG1, kEG1⟩ <;> (rw [cell_of_row W gb _ _ _ _ h]; rfl)
  · refine ⟨G, SG2, EG2, _, _, _, _, _, _, _, _, _, fun W BB h => ⟨⟨?_, ?_, ?_⟩, hg18.out W BB⟩, hSG2, kEG2⟩ <;> (rw [cell_of_row W gb _ _ _ _ h]; rfl)
 replace hsel := Hd hsel
 have hOx := Hd (own_below hO4.out hb.out)
 have hbx := Hd (hb.out.mono hz4.out)
 clear hV hSG1 hSG2 kEG1 kEG2 kfew hO4 hl8
 go_wp2_with fail
 go_loopw [19, 66] (fun lv i wr => ∃ (k : Nat) (T' : List ByteArray), k ≤ 2 ∧ i = .int .i64 k ∧ Hid (T'.length = 1 + k) ∧ Hid (OwnT wr B lv T') ∧ Hid (∀ s ∈ T', s.size ≤ 1000000) ∧ Hid (Below B w4 wr) ∧ Hid (wr.heap[gb]? = some (.cells #[.slice r1 (min n1 8) r2, .slice r3 (min n2 10) r4, .slice r5 (min n3 4) r6, .slice g1 m1 g2, .slice g3 m2 g4, .slice g5 m3 g6] 26 (0, 0)))) (fun _ i _ => 2 - (intOf i).toNat)
 case atStart => exact ⟨0, [X0], Nat.zero_le _, rfl, rfl, hOx, by show ∀ s ∈ _, _; intro s hs; rw [List.mem_singleton.1 hs]; exact hXs.out, hbx, hrow⟩
 case round =>
  obtain ⟨k, T', hk, rfl, hl, hO', hS', hbB, hrow'⟩ := hrel
  obtain ⟨xb, xc, ex, -⟩ := hO'.out.at_ (fun e => by have := hl.out; rw [e] at this; simp at this; omega)
  obtain ⟨M, hM⟩ : ∃ M, Hid (M = T'.length) := ⟨_, rfl⟩
  rw [← hM.out] at ex
  subst ex
  by_cases hlt : k < 2
  · have i0' : (0 : Int) ≤ (k : Int) := by omega
    have i1 : (k : Int) < 2 := by omega
    obtain ⟨C, S, E, a1, a3, a5, e1, a2, e2, a4, e3, a6, hat, hSz, kE⟩ := hsel.out k hlt
    have hCC := Hd (hat.out wr hbB.out hrow'.out)
    obtain ⟨u0, u1, u2⟩ := hCC.out.1
    obtain ⟨v1, hv1⟩ : ∃ W, W = wr.alloc (.cells #[.slice a1 e1 a2, .slice a3 e2 a4, .slice a5 e3 a6] 26) := ⟨_, rfl⟩
    obtain ⟨pb, hpb⟩ : ∃ p, Hid (p = wr.heap.size) := ⟨_, rfl⟩
    have hA1 := Hd (show Below wr.heap.size wr v1 by rw [hv1]; exact (Below.refl _ _).alloc (Nat.le_refl _) _)
    have hx1 := Hd (show v1.heap[pb]? = some (.cells #[.slice a1 e1 a2, .slice a3 e2 a4, .slice a5 e3 a6] 26 (0, 0)) by rw [hv1, hpb.out]; exact heap_alloc_new wr _)
    have hpz := Hd (show pb < v1.heap.size by rw [hv1, hpb.out]; simp)
    have hcv := Hd (fun W (BB : Below v1.heap.size v1 W) => (hCC.out.2.below hA1.out).below BB)
    have hbx1 := Hd (fun W (BB : Below v1.heap.size v1 W) => (box3c ((BB.block _ hpz.out).trans hx1.out)).1)
    replace hv1 := Hd hv1
    have hle := Hd (show B ≤ wr.heap.size from Nat.le_trans hz4.out hbB.out.size)
    have c32 := Hd (kE.out 32 (.inl rfl) _ v1 (hcv.out v1 (Below.refl _ _)))
    have c33 := Hd (fun W (BB : Below v1.heap.size v1 W) => kE.out 33 (.inr rfl) _ W (hcv.out W BB))
    clear hCC hcv hx1
    go_upto_region 9 with (fail)
    rw [← hv1.out, ← hpb.out]
    clear u0 u1 u2
    obtain ⟨u0, u1, u2⟩ := hbx1.out v1 (Below.refl _ _)
    go_wp2_with fail
    refine c32.out.mono ?_
    rintro e v2 ⟨rfl, b2⟩
    have b2 := Hd b2
    clear u0 u1 u2 c32
    obtain ⟨u0, u1, u2⟩ := hbx1.out v2 b2.out
    go_wp2_with fail
    refine (c33.out v2 b2.out).mono ?_
    rintro e v3 ⟨rfl, b3⟩
    have hA3 := Hd ((hA1.out.trans (b2.out.mono hA1.out.size)).trans (b3.mono (Nat.le_trans hA1.out.size b2.out.size)))
    clear u0 u1 u2 b3 b2 c33 hbx1 hA1
    have hO3 : OwnT v3 B (.slice (some ⟨xb, 0, none⟩) M xc) T' := own_below hO'.out hA3.out
    obtain ⟨ga, cap, w5, hr5, ho5, hb5, hg5⟩ := hO3.snoc' S (by have := hl.out; omega) (Nat.le_trans hle.out hA3.out.size)
    have hrow3 := (hA3.out.block _ (Array.getElem?_eq_some_iff.1 hrow'.out).1).trans hrow'.out
    have hrow5 := Hd ((grown_keep hg5 hO3 gb (Array.getElem?_eq_some_iff.1 hrow3).1 (fun _ => ⟨_, hrow3, fun cs e => by cases e⟩)).trans hrow3)
    rw [← hM.out] at hr5 ho5
    have ho5 := Hd ho5
    have hb6 := Hd (hb5 B w4 (Nat.le_refl _) (hbB.out.trans (hA3.out.mono hle.out)))
    have hS5 : Hid (∀ s ∈ T' ++ [S], s.size ≤ 1000000) := by
     show ∀ s ∈ _, _
     intro s hs
     rcases List.mem_append.1 hs with h | h
     · exact hS'.out s h
     · rw [List.mem_singleton.1 h]; exact hSz.out
    clear hO3 hb5 hg5 hrow3
    go_wp2_with (at_builtin; refine wpList_append_runB rfl (.tmp 88) (.tmp 90) 58 rfl _ _ rfl rfl _ _ hr5 ?_)
    go_roundw
    case rel => exact ⟨k + 1, T' ++ [S], by omega, by go_num, by show _ = _; rw [List.length_append, List.length_singleton]; have := hl.out; omega, ho5, hS5, hb6, hrow5⟩
    case measure => simp [intOf]; omega
  · have i1 : ¬ (k : Int) < 2 := by omega
    have hk2 : k = 2 := by omega
    rename_i K0 hK0
    have hK1 := Hd hK0
    have hl3 := Hd (show T'.length = 3 by have := hl.out; omega)
    have hM3 : M = 3 := by rw [hM.out, hl3.out]
    subst hM3
    have hbw := Hd (up0.out wr (low.out wr hbB.out))
    have hwB2 := Hd (And.intro hzB.out.2.2.2 (Nat.le_trans hz4.out hbB.out.size))
    have tr := Hd (fun W (BB : Below B wr W) => (hbB.out.trans BB : Below B w4 W))
    have q11 := Hd (fun W (BB : Below B wr W) => hx11.out W (tr.out W BB))
    have q12 := Hd (fun W (BB : Below B wr W) => hx12.out W (tr.out W BB))
    have qA := Hd (fun W (BB : Below B wr W) => hA'.out W (low.out W (tr.out W BB)))
    have qB := Hd (fun W (BB : Below B wr W) => hB'.out W (low.out W (tr.out W BB)))
    have qG := Hd (fun W (BB : Below B wr W) => And.intro (hl18.out W (tr.out W BB)) (hg18.out W (tr.out W BB)))
    clear hK0 hlt hk2
    go_wp2_with fail
    refine hK1.out _ _ ?_
    refine wp_eq (D := sfx4 6) (by kernel_rfl) ?_
    exact gcm2 _ _ _ _ _ _ _ _ _ _ _ _ _ _ _ _ _ _ _ _ _ _ _ _ _ _ _ _ _ _ _ _ _ _ _ _ _ _ _ _ _ _ _ _ _ _ _ _ _ _ _ _ _ _ _ _ _ _ _ _ _ _ _ _ _ _ _ _ _ _ _ _ _ _ _ _ _ _ _ _ _ _ _ _ _ _ _ _ _ _ _ _ _ _ _ _ _ _ _ _ _ _ _ _ _ _ _ _ _ _ _ _ _ _ _ _ _ _ _ _ _ _ _ _ _ _ _ _ _ _ _ _ _ _ _ _ _ _ _ _ _ _ _ _ _ _ _ _ _ _ _ _ _ _ _ _ _ _ _ _ _ _ _ _ _ _ _ _ _ _ _ _ _ _ _ _ _ _ _ _ _ _ _ _ _ _ _ _ _ _ _ _ _ _ _ _ _ _ _ _ _ _ _ _ _ _ _ _ _ _ _ _ _ _ _ _ _ _ _ _ _ _ _ _ _ _ _ _ _ _ _ _ w wr at_ cb xb xc B (b0 + 1) (b0 + 1 + 1) p18 T' odd oa ob g1 g3 g5 k1 oc k2 od m1 g2 m2 g4 m3 g6 x G hl3 hS' ha hcb hO' hbw hwB2 hkk hkc q11 qA qB hri q12 hx qG hok
end Go.Proofs.YtlaldnlgapeckaaGreat
