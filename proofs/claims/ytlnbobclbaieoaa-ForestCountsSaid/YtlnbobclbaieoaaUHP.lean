/- Contracts and facts. -/
import Derived.Deep.LoopGhost
import Derived.Handy
import Derived.WalkMore
import Derived.BigRegion
import Derived.Laws.EntriesVeiled
import Derived.Test.YtlnbobclbaieoaaUHN
set_option linter.unusedSimpArgs false
set_option maxRecDepth 100000
set_option maxHeartbeats 4000000
namespace Go.Proofs.Ytlnbobclbaieoaa
open Go.RowKit
set_option maxRecDepth 1000000 in
set_option maxHeartbeats 16000000 in
theorem Counts_any (n : Int) (vl : Value) (l : List F5) (wide : Bool) (w : World) (hl : L5 w vl l) (hn : i64B n) (hlen : l.length ≤ 9223372036854775807) (hr : ∀ r ∈ l, i64B r.a ∧ i64B r.b ∧ i64B r.c ∧ i64B r.d ∧ i64B r.e) :
    Calls Try.prog 5 #[.int .i64 n, vl, .bool wide] w fun e w' => e = .returned (.bool true) ∧ Below w.heap.size w w' := by
  have hG0 := made_ok n l wide
  have hne0 := made_ne n l wide
  have cM := Lib.hid (fun W (B : Below w.heap.size w W) => Made_any n vl l wide W (hl.below B) hn hlen hr)
  obtain ⟨G, hG⟩ : ∃ G, Hid (G = madeG n l wide) := ⟨_, rfl⟩
  rw [← hG.out] at hG0 hne0 cM
  have ho := Lib.hid ((ok_iff G).2 hG0)
  obtain ⟨N1, hN1⟩ : ∃ N, Hid (N = G.vs.length) := ⟨_, rfl⟩
  obtain ⟨N2, hN2⟩ : ∃ N, Hid (N = G.es.length) := ⟨_, rfl⟩
  obtain ⟨N3, hN3⟩ : ∃ N, Hid (N = G.ds.length) := ⟨_, rfl⟩
  have n1 : N1 ≤ 24 := by rw [hN1.out]; exact (ok_facts ho.out).1.1
  have n2 : N2 ≤ 1000 := by rw [hN2.out]; exact (ok_facts ho.out).1.2
  have n0 : 0 < N1 := by rw [hN1.out]; exact List.length_pos_iff.2 hne0
  have hsm := Lib.hid (show G.small from by
    have h1 := (ok_facts ho.out).1.1
    have h2 := (ok_facts ho.out).1.2
    have h3 := hG0.dlen
    unfold Gr.small; omega)
  have hds : Hid (G.ds.length ≤ 3) := hG0.dlen
  clear hG0 hG hl hn hr hlen
  go_enter Try.func5, Try.ntmps5
  go_wp2_with fail
  refine (sane_any w).mono ?_
  rintro e w1 ⟨rfl, b1⟩
  have B1 := Lib.hid b1
  clear b1
  go_wp2_with fail
  refine (cM.out w1 B1.out).mono ?_
  rintro e w2 ⟨x, y, z, rfl, hv, he, hd, b2⟩
  have hvl := hv.VL
  have hel := he.EL
  have hdl := hd.DL
  obtain ⟨vb, vo, a2, rfl, _, hvb, hcv⟩ := hvl.own hne0
  obtain ⟨b1, b2', rfl⟩ := hel.shape
  obtain ⟨c1, c2, rfl⟩ := hdl.shape
  rw [← hN1.out, ← hN2.out, ← hN3.out]
  have hgv : GV w2 (.agg #[.slice (some ⟨vb, vo, none⟩) G.vs.length a2, .slice b1 G.es.length b2', .slice c1 G.ds.length c2]) G := ⟨_, _, _, rfl, hvl, hel, hdl⟩
  rw [← hN1.out, ← hN2.out, ← hN3.out] at hgv
  have hcells := hvl.cells
  obtain ⟨w3, hw3⟩ : ∃ x, x = w2.alloc (.cells #[.slice (some ⟨vb, vo, none⟩) N1 a2, .slice b1 N2 b2', .slice c1 N3 c2] 28) := ⟨_, rfl⟩
  have b3 : Below w2.heap.size w2 w3 := by rw [hw3]; exact (Below.refl _ w2).alloc (Nat.le_refl _) _
  have gb : w3.heap[w2.heap.size]? = some (.cells #[.slice (some ⟨vb, vo, none⟩) N1 a2, .slice b1 N2 b2', .slice c1 N3 c2] 28 (0, 0)) := by rw [hw3]; exact heap_alloc_new w2 _
  have hs3 : w3.heap.size = w2.heap.size + 1 := by rw [hw3]; simp
  have hBB : Hid (Below w.heap.size w w3) := (B1.out.trans (b2.mono B1.out.size)).trans (b3.mono (by have := b2.size; have := B1.out.size; omega))
  have fG := Lib.hid (fun W (q : Below w3.heap.size w3 W) => (hgv.below b3).below q)
  have fb := Lib.hid (fun W (q : Below w3.heap.size w3 W) => box3g ((q.block _ (show w2.heap.size < w3.heap.size by omega)).trans gb))
  have fv := Lib.hid (fun (k : Nat) (hk : k < G.vs.length) W (q : Below w3.heap.size w3 W) => (show W.cell? ⟨vb, vo + k * 2, none⟩ = some (.int .i64 G.vs[k].id) from by
    obtain ⟨b', o', h1, h2⟩ := hcells k hk
    injection h1 with h1
    injection h1 with h1 h1'
    subst h1 h1'
    exact (h2 W (b3.trans (q.mono b3.size))).1))
  have fe := Lib.hid (hel.below b3)
  rw [← hN2.out] at fe
  replace hw3 := Lib.hid hw3
  clear hgv hvl hel hdl hv he hd b2 b3 gb hs3 hcells hvb hcv cM B1
  obtain ⟨g0, g1, g2⟩ := fb.out w3 (Below.refl _ _)
  go_upto_region 4 with (fail)
  rw [← hw3.out]
  clear g0 g1 g2 hw3
  generalize hbg : w2.heap.size = bg at *
  clear hbg
  have hLB : Hid (LB w3 G bg vb vo N1 a2 N2 b2' N3 c2 b1 c1) := ⟨fG.out, fb.out, fv.out, fe.out, hN1.out, hN2.out, n1, n2, n0, ho.out, hsm.out⟩
  have cL := Labels_any _ G w3 (fG.out w3 (Below.refl _ _)) hsm.out
  have hlc : labelsC G = (labF (mF G) (keysV G.vs), 0) := by unfold labelsC; rw [if_pos ho.out]
  rw [hlc] at cL
  replace cL := Lib.hid cL
  have hll : Hid ((labF (mF G) (keysV G.vs)).length = N1) := by show _ = _; unfold labF keysV; rw [List.length_map, List.length_map]; exact hN1.out.symm
  clear hlc
  obtain ⟨g0, g1, g2⟩ := fb.out w3 (Below.refl _ _)
  go_wp2_with fail
  refine cL.out.mono ?_
  rintro e w4 ⟨lv, rfl, hlv, q4⟩
  have K4 := Lib.hid q4
  have hNl := hlv.NL
  obtain ⟨la, lc, rfl⟩ := hNl.shape
  replace hNl := Lib.hid hNl
  rw [hll.out]
  have hnn : ((N1 : Int) != (N1 : Int)) = false := by simp
  clear g0 g1 g2 hlv q4 cL
  obtain ⟨g0, g1, g2⟩ := fb.out w4 K4.out
  go_upto_region 9 with (fail)
  rename_i K0 hK0
  have hK1 := Lib.hid hK0
  clear hK0
  go_wp2_with fail
  refine hK1.out _ _ ?_
  refine wp_eq (D := sfxC 8) (by kernel_rfl) ?_
  exact counts_loop _ _ _ _ _ _ _ _ _ _ _ _ _ _ _ _ _ _ _ _ _ _ _ _ _ _ _ _ _ _ _ _ _ _ _ _ _ _ _ _ _ _ _ _ _ _ _ _ _ _ _ _ _ _ _ _ _ _ _ _ _ _ _ _ _ _ _ _ _ _ _ _ _ _ _ _ _ _ _ _ _ _ _ _ _ _ _ _ _ _ _ _ _ _ _ _ _ _ _ _ _ _ _ _ _ _ _ _ _ _ _ _ _ _ _ _ _ _ _ _ _ _ _ _ _ _ _ _ _ _ _ _ _ _ _ _ _ _ _ _ _ _ _ w w3 w4 G la lc bg vb vo N1 a2 N2 b2' N3 c2 b1 c1 hLB K4 hBB hNl hds

end Go.Proofs.Ytlnbobclbaieoaa
