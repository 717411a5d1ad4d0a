/- Contracts and facts. -/
import Derived.Deep.LoopGhost
import Derived.Handy
import Derived.WalkMore
import Derived.BigRegion
import Derived.Laws.EntriesVeiled
import Derived.Test.YtlnbobclbaieoaaVJA
set_option linter.unusedSimpArgs false
set_option maxRecDepth 100000
set_option maxHeartbeats 4000000
namespace Go.Proofs.Ytlnbobclbaieoaa
open Go.RowKit
theorem one_ownI (W : World) (a : Int) : OwnI (W.alloc (.cells #[.int .i64 a] 3)) W.heap.size (.slice (some ⟨W.heap.size, 0, none⟩) 1 1) [a] :=
  ⟨rfl, .inr ⟨W.heap.size, 1, _, rfl, Nat.le_refl _, heap_alloc_new W _, by simp, by unfold maxLen; omega, by simp, by simp [cI]⟩⟩
theorem snocI2 (W : World) (base : Nat) (v : Value) (l : List Int) (x : Int) (h : OwnI W base v l) (hl : l.length ≤ 1000000000) (hb : base ≤ W.heap.size) :
    ∃ g cap w', (Builtin.append_ #[26, 26] 26 #[v, .slice (some ⟨W.heap.size, 0, none⟩) 1 1]).run Try.prog (W.alloc (.cells #[.int .i64 x] 3)) = .ok (.slice (some ⟨g, 0, none⟩) (l.length + 1) cap) w' ∧ OwnI w' base (.slice (some ⟨g, 0, none⟩) (l.length + 1) cap) (l ++ [x]) ∧
      (W.alloc (.cells #[.int .i64 x] 3)).grownBy w' v.ownBlock ∧ (v.ownBlock = some g ∨ g = W.heap.size + 1) ∧ (∀ w0 : World, Below base w0 W → base ≤ w0.heap.size → w0.heap.size ≤ base → Below base w0 w') := by
  obtain ⟨i0, hi, hz0, hz1, hz2⟩ := info_parts info3
  obtain ⟨g, cap, w', hr, ho, hg, hd, _⟩ := run_append_lies (P := Try.prog) (W.alloc (.cells #[.int .i64 x] 3)) 26 26 base 3 i0 _ 1 8 Try.underlying26 hi hz0 hz1 hz2 rfl (by omega) v l.length (cI l) ((show W.ownsRow base 3 1 v l.length (cI l) from h).alloc _) ⟨W.heap.size, 0, none⟩ 1 1 [.int .i64 x] rfl
    (World.news_of_block (cs := #[.int .i64 x]) (t := 3) (fr := (0, 0)) (heap_alloc_new W _)) (by simp [Value.oneCell']) (by omega) (by unfold maxLen; omega) (by omega) (by simp; omega) (W.heap.size + 1) (by simp)
  refine ⟨g, cap, w', hr, ?_, hg, hd, fun w0 B h1 h2 => ?_⟩
  · unfold OwnI; rw [List.length_append, cI, List.map_append]; exact ho
  · exact (B.alloc (by omega) _).grown hg (by simp; omega) (fun k hk => by have := (h.base k hk).1; omega)
theorem lab_cells3 {w : World} {a : Option Addr} {c : Nat} {m : PM} {V : List Int} (h : NL w (.slice a V.length c) (labF m V)) (hd : V.Nodup) {x : Int} (hx : x ∈ V) :
    ∃ i : Nat, plI V x = (i : Int) ∧ i < V.length ∧ ∃ b o lb lo lc, a = some ⟨b, o, none⟩ ∧ ∀ W, Below w.heap.size w W → W.cell? ⟨b, o + i * 2 + 1, none⟩ = some (.slice (some ⟨lb, lo, none⟩) 3 lc) ∧ W.cell? ⟨lb, lo + 2, none⟩ = some (.int .i64 (gp m x).edge) := by
  obtain ⟨i, hi, hp, he⟩ := plI_idx hx hd
  have hll : (labF m V).length = V.length := by simp [labF]
  have hil : i < (labF m V).length := by omega
  rw [← hll] at h
  obtain ⟨b, o, lv, rfl, hc⟩ := h.cells i hil
  have hLi : (labF m V)[i] = (x, [(gp m x).root, (gp m x).depth, (gp m x).edge]) := by simp [labF, he]
  obtain ⟨_, c2, c3⟩ := hc w (Below.refl _ _)
  rw [hLi] at c3
  have c3' := c3
  obtain ⟨l1, l2, rfl⟩ := c3'.shape
  obtain ⟨lb, lo, rfl, hcc⟩ := c3.cells 2 (by simp)
  exact ⟨i, hp, hi, b, o, lb, lo, l2, rfl, fun W B => ⟨(hc W B).2.1, hcc W B⟩⟩
theorem edge_idx {es : List Ed} {V : List Int} (G : GrOk es V) {e : Ed} (he : e ∈ es) : ∃ (i : Nat) (hi : i < es.length), plI (keysE es) e.id = (i : Int) ∧ es[i] = e := by
  obtain ⟨i, hi, hp, hx⟩ := plI_ex (ks := keysE es) (x := e.id) (List.mem_map.2 ⟨e, he, rfl⟩)
  have hil : i < es.length := by simpa [keysE] using hi
  refine ⟨i, hil, hp, G.uniq _ (List.getElem_mem hil) _ he ?_⟩
  rw [← hx]; simp [keysE]
theorem climb_at2 {es : List Ed} {V : List Int} {m : PM} (G : GrOk es V) (M : Gd es V m) {a : Int} (ha : a ∈ V) {j : Nat} (hj : j < (gp m a).depth.toNat) :
    ∃ e ∈ atF es (anc es m j a), (climb es m a).take (j + 1) = (climb es m a).take j ++ [e.id] ∧ otherI e (anc es m j a) = anc es m (j + 1) a ∧ (gp m (anc es m j a)).edge = e.id := by
  obtain ⟨h1, h2, h3, h4⟩ := anc_ok G M ha (j := j) (by omega)
  obtain ⟨e, a1, a2, a3, _⟩ := par_ok G M h1 (by omega)
  refine ⟨e, a1, ?_, by rw [anc_succ, a3], a2.symm⟩
  have h5 := climb_cons G M h1 (by omega)
  rw [h4] at h5
  have h6 := congrArg List.head? h5
  rw [List.head?_drop] at h6
  rw [List.take_add_one, h6, a2]; rfl
set_option maxRecDepth 100000 in
theorem WayR_any (v lv : Value) (g : Gr) (a : Int) (w : World) (hv : GV w v g) (ho : g.ok = true) (ha : a ∈ keysV g.vs) (hL : NL w lv (labF (mF g) (keysV g.vs))) :
    Calls Try.prog 56 #[v, lv, .int .i64 a] w fun e w' => ∃ r1 r2, e = .returned (.tuple #[r1, r2]) ∧ OwnI w' w.heap.size r1 (climb g.es (mF g) a) ∧ OwnI w' w.heap.size r2 (upV g.es (mF g) a (gp (mF g) a).depth.toNat) ∧ Below w.heap.size w w' := by
  obtain ⟨a1, a2, b1, b2, c1v, c2, rfl, _, hv2, _⟩ := gv_shape hv
  obtain ⟨la, lc, rfl⟩ := hL.shape
  have hll : (labF (mF g) (keysV g.vs)).length = (keysV g.vs).length := by simp [labF]
  have hkl : (keysV g.vs).length = g.vs.length := by simp [keysV]
  rw [hll] at hL ⊢
  obtain ⟨w1, hw1⟩ : ∃ w1, w1 = w.alloc (.cells #[.slice a1 g.vs.length a2, .slice b1 g.es.length b2, .slice c1v g.ds.length c2] 28) := ⟨_, rfl⟩
  have gb : w1.heap[w.heap.size]? = some (.cells #[.slice a1 g.vs.length a2, .slice b1 g.es.length b2, .slice c1v g.ds.length c2] 28 (0, 0)) := by rw [hw1]; exact heap_alloc_new w _
  have B0 : Below w.heap.size w w1 := by rw [hw1]; exact (Below.refl _ w).alloc (Nat.le_refl _) _
  have hs1 : w1.heap.size = w.heap.size + 1 := by rw [hw1]; simp
  obtain ⟨g0, g1, g2⟩ := box3g gb
  have hG1 := Lib.hid (fun W (q : Below w1.heap.size w1 W) => box3g ((q.block _ (by omega)).trans gb))
  obtain ⟨GO, M, hV24, _⟩ := good_of ho
  have hes := (ok_facts ho).1.2
  have hPl := Lib.hid (fun (x : Int) W (q : Below w1.heap.size w1 W) => PlaceR_any _ g x W ((hv.below B0).below q) (by omega))
  have hFi := Lib.hid (fun (x : Int) W (q : Below w1.heap.size w1 W) => FindR_any _ g x W ((hv.below B0).below q) (by omega))
  have hLc := Lib.hid (fun x (hx : x ∈ keysV g.vs) => lab_cells3 (hL.below B0) GO.nodup hx)
  have cE := Lib.hid (hv2.below B0).cells
  have hIx := Lib.hid (fun (e : Ed) (he : e ∈ g.es) => edge_idx GO he)
  have hGO := Lib.hid GO
  have hM := Lib.hid M
  replace hw1 := Lib.hid hw1
  have hB0 := Lib.hid B0
  generalize mF g = m at *
  obtain ⟨D, hD⟩ : ∃ D, Hid (D = (gp m a).depth.toNat) := ⟨_, rfl⟩
  have hD24 : D ≤ 24 := by have := M.hi a ha; have := hD.out; omega
  have hAO := Lib.hid (fun (j : Nat) (hj : j ≤ D) => anc_ok GO M ha (j := j) (by have := hD.out; omega))
  have hCa := Lib.hid (fun (j : Nat) (hj : j < D) => climb_at2 GO M ha (j := j) (by have := hD.out; omega))
  have hCl : Hid ((climb g.es m a).length = D) := by show _ = _; rw [climb_len GO M ha]; exact hD.out.symm
  have ha' := Lib.hid ha
  rw [← hD.out]
  obtain ⟨n2, hn2⟩ : ∃ N, Hid (N = g.es.length) := ⟨_, rfl⟩
  obtain ⟨n1, hn1⟩ : ∃ N, Hid (N = g.vs.length) := ⟨_, rfl⟩
  rw [hkl, ← hn1.out]
  rw [← hn2.out, ← hn1.out] at hw1 hG1 hPl hFi
  rw [← hn1.out] at g0
  rw [← hn2.out] at g1
  rw [← hn2.out]
  have hkn : Hid ((keysV g.vs).length = n1) := by show _ = _; rw [hkl]; exact hn1.out.symm
  have h24 : n1 ≤ 24 := by have := hkn.out; omega
  have h2k : n2 ≤ 1000 := by have := hn2.out; omega
  generalize g.ds.length = n3 at *
  have hbase : Hid (w.heap.size ≤ w1.heap.size) := by show _ ≤ _; omega
  clear hs1 B0 gb hv hv2 hL hll hkl GO M ha hV24 hes ho
  go_enter Try.func56, Try.ntmps56
  go_upto_region 2 with (fail)
  rw [← hw1.out]
  obtain ⟨w2, hw2⟩ : ∃ w2, w2 = w1.alloc (.cells #[.int .i64 a] 3) := ⟨_, rfl⟩
  have hB2 : Hid (Below w1.heap.size w1 w2) := by show Below _ _ _; rw [hw2]; exact (Below.refl _ w1).alloc (Nat.le_refl _) _
  have hO2 : Hid (OwnI w2 w1.heap.size (.slice (some ⟨w1.heap.size, 0, none⟩) 1 1) [a]) := by show OwnI _ _ _ _; rw [hw2]; exact one_ownI w1 a
  replace hw2 := Lib.hid hw2
  clear g0 g1 g2
  go_wp2_with fail
  go_loopg [2, 8, 9] D (fun n av ev vv wr => ∃ j vg vc, j + n = D ∧ av = .int .i64 (anc g.es m j a) ∧ vv = .slice (some ⟨vg, 0, none⟩) (j + 1) vc ∧ OwnI wr w1.heap.size ev ((climb g.es m a).take j) ∧ OwnI wr w1.heap.size vv (upV g.es m a j) ∧ ev.ownBlock ≠ some vg ∧ Below w1.heap.size w1 wr)
  case atStart => exact ⟨0, w1.heap.size, 1, by omega, rfl, rfl, World.ownsRow_nil _ _ _ _, by have h9 := hO2.out; rw [hw2.out] at h9; exact h9, by simp [Value.ownBlock], by have h9 := hB2.out; rw [hw2.out] at h9; exact h9⟩
  case round =>
    obtain ⟨j, vg, vc, hj, rfl, rfl, hE, hV, hne, B⟩ := hrel
    obtain ⟨wo, rfl⟩ : ∃ x, x = wr := ⟨_, rfl⟩
    obtain ⟨hxV, _, hxd, _⟩ := hAO.out j (by omega)
    obtain ⟨i, hpi, hiV, lb, lo, ll, llo, llc, rfl, hlc⟩ := hLc.out _ hxV
    have hPx := Lib.hid (fun W q => hPl.out (anc g.es m j a) W q)
    rw [hpi] at hPx
    have i0 : (0 : Int) ≤ (i : Int) := by omega
    have i1 : (i : Int) < (n1 : Int) := by have := hkn.out; omega
    obtain ⟨g0, g1, g2⟩ := hG1.out wo B
    have hB := Lib.hid B
    cases gk with
    | zero =>
      have hjD : j = D := by omega
      have hed : (gp m (anc g.es m j a)).edge = -1 := (hM.out.rt _ hxV (by rw [hxd, hjD, hD.out]; have := hM.out.lo a; omega)).2
      rw [hed] at hlc
      replace hlc := Lib.hid hlc
      have hEf : Hid (OwnI wo w1.heap.size u8 (climb g.es m a)) := by
        show OwnI _ _ _ _
        rw [show climb g.es m a = (climb g.es m a).take j from by rw [List.take_of_length_le (by rw [hCl.out]; omega)]]; exact hE
      have hVf := Lib.hid hV
      have hjD' := Lib.hid hjD
      generalize anc g.es m j a = x at *
      clear hjD hed hxV hxd hpi hiV hE hV hne B hj
      go_wp2_with fail
      refine (hPx.out wo hB.out).mono ?_
      rintro e w3 ⟨rfl, b3⟩
      have hB3 := Lib.hid (hB.out.trans (b3.mono hB.out.size))
      obtain ⟨c0, c1⟩ := hlc.out w3 hB3.out
      have hE3 := Lib.hid (own_below hEf.out b3)
      have hV3 := Lib.hid (own_below hVf.out b3)
      clear g0 g1 g2 b3
      go_wp2_with fail
      go_ret2
      have := hbase.out
      exact ⟨_, _, rfl, own_low hE3.out this, by rw [← hjD'.out]; exact own_low hV3.out this, hB0.out.trans (hB3.out.mono this)⟩
    | succ ga =>
      have hjD : j < D := by omega
      obtain ⟨e, he1, he2, he3, he4⟩ := hCa.out j hjD
      have hem := (mem_atF.1 he1).1
      have hid0 := hGO.out.nonneg e hem
      obtain ⟨k2, hk2, hp2, hei⟩ := hIx.out e hem
      rw [he4] at hlc
      replace hlc := Lib.hid hlc
      obtain ⟨eb, eo, rfl, ce⟩ := cE.out k2 hk2
      rw [hei] at ce
      have hFx := Lib.hid (fun W q => hFi.out e.id W q)
      rw [hp2] at hFx
      have q0 : (0 : Int) ≤ (k2 : Int) := by omega
      have q1 : (k2 : Int) < (n2 : Int) := by have := hn2.out; omega
      have q2 : ¬ e.id < 0 := by omega
      have hOu := Lib.hid (OtherR_any e (anc g.es m j a))
      unfold Ed.val at hOu
      rw [he3] at hOu
      have hEs : Hid ((climb g.es m a).take (j + 1) = (climb g.es m a).take j ++ [e.id]) := he2
      have hVs : Hid (upV g.es m a (j + 1) = upV g.es m a j ++ [anc g.es m (j + 1) a]) := upV_succ _ _ _ _
      have hLe : Hid (((climb g.es m a).take j).length = j) := by show _ = _; rw [List.length_take, hCl.out]; omega
      have hLv : Hid ((upV g.es m a j).length = j + 1) := upV_len _ _ _ _
      obtain ⟨y, hy⟩ : ∃ y, Hid (y = anc g.es m (j + 1) a) := ⟨_, rfl⟩
      rw [← hy.out] at hOu hVs
      have fY := Lib.hid (fun W (q : Below w1.heap.size w1 W) => (show (W.cell? ⟨w.heap.size, 0, none⟩ = _ ∧ W.cell? ⟨w.heap.size, 1, none⟩ = _ ∧ W.cell? ⟨w.heap.size, 2, none⟩ = _) ∧ EdAt W eb (eo + k2 * 6) e from ⟨hG1.out W q, ce W q⟩))
      unfold EdAt at fY
      have hle : Hid (j + 1 + ga = D) := by show _ = _; omega
      have hj24 : j ≤ 24 := by omega
      generalize anc g.es m j a = x at *
      generalize (climb g.es m a).take j = LE at *
      generalize upV g.es m a j = LV at *
      have hE1 := Lib.hid hE
      have hV1 := Lib.hid hV
      have hne1 := Lib.hid hne
      clear hxV hxd hpi hiV hE hV hne B hj hjD he1 he2 he3 he4 hem hid0 hk2 hp2 hei ce
      go_wp2_with fail
      refine (hPx.out wo hB.out).mono ?_
      rintro e' w3 ⟨rfl, b3⟩
      have hB3 := Lib.hid (hB.out.trans (b3.mono hB.out.size))
      obtain ⟨c0, c1⟩ := hlc.out w3 hB3.out
      have hE3 := Lib.hid (own_below hE1.out b3)
      have hV3 := Lib.hid (own_below hV1.out b3)
      clear g0 g1 g2 b3 hE1 hV1
      go_upto_region 6 with (fail)
      clear c0 c1
      refine q_region (fun W => Below w1.heap.size w1 W ∧ Below w3.heap.size w3 W) (by kernel_rfl) (by kernel_rfl) (⟨hB3.out.drew, (Below.refl _ w3).drew⟩) ?_
      repeat (first | (refine q_skip (by rfl) ?_; try simp only [Act.put, zT, z0, zS]) | (refine q_take (v := ?_) (by rfl) ?_ ?_; rotate_left; (first | ((intro w h; clear h; go_simp) <;> with_reducible rfl) | ((intro w h; obtain ⟨⟨y0, y1, y2⟩, z0, z1, z2, z3, z4, z5⟩ := fY.out w h.1; clear h; go_simp) <;> with_reducible rfl)); try simp only [Act.put, zT, z0, zS]))
      refine q_call (v := _) Try.f57 (by rfl) rfl Try.func57 (by kernel_rfl) (by kernel_rfl) #[.agg #[.slice a1 n1 a2, .slice (some ⟨eb, eo, none⟩) n2 b2, .slice c1v n3 c2], .int .i64 e.id] (by simp [Act.eval]) (fun w h => (hFx.out w h.1).mono fun e w' ⟨he, hb⟩ => ⟨he, h.1.trans (hb.mono h.1.size), h.2.trans (hb.mono h.2.size)⟩) ?_; try simp only [Act.put, zT, z0, zS]
      repeat (first | (refine q_skip (by rfl) ?_; try simp only [Act.put, zT, z0, zS]) | (refine q_take (v := ?_) (by rfl) ?_ ?_; rotate_left; (first | ((intro w h; clear h; go_simp) <;> with_reducible rfl) | ((intro w h; obtain ⟨⟨y0, y1, y2⟩, z0, z1, z2, z3, z4, z5⟩ := fY.out w h.1; clear h; go_simp) <;> with_reducible rfl)); try simp only [Act.put, zT, z0, zS]))
      refine q_call (v := _) Try.f51 (by rfl) rfl Try.func51 (by kernel_rfl) (by kernel_rfl) #[.agg #[.int .i64 e.id, .int .i64 e.src, .int .i64 e.dst, .bool e.dir, .int .i64 e.wt, .int .i64 e.cap], .int .i64 x] (by simp [Act.eval]) (fun w h => (hOu.out w).mono fun e w' ⟨he, hb⟩ => ⟨he, h.1.trans (hb.mono h.1.size), h.2.trans (hb.mono h.2.size)⟩) ?_; try simp only [Act.put, zT, z0, zS]
      repeat (first | (refine q_skip (by rfl) ?_; try simp only [Act.put, zT, z0, zS]) | (refine q_take (v := ?_) (by rfl) ?_ ?_; rotate_left; (first | ((intro w h; clear h; go_simp) <;> with_reducible rfl)); try simp only [Act.put, zT, z0, zS]))
      refine q_nil ?_
      intro w6 k6
      have hE6 := own_below hE3.out k6.2
      have hV6 := own_below hV3.out k6.2
      have hB6 := k6.1
      obtain ⟨ge, cE', wE, hrE, hoE, hgE, hdE, hbE⟩ := snocI2 w6 w1.heap.size u8 LE e.id hE6 (by rw [hLe.out]; omega) hB6.size
      have hBE := hbE w1 hB6 (Nat.le_refl _) (Nat.le_refl _)
      have hVE : OwnI wE w1.heap.size (.slice (some ⟨vg, 0, none⟩) (j + 1) vc) LV := own_apart (own_below hV6 ((Below.refl _ w6).alloc (Nat.le_refl _) _)) hgE (fun b hb e => hne1.out (by rw [e]; exact hb.symm))
      have hvlt := (OwnI.base hV6 vg rfl).2
      have hvge : vg ≠ ge := by
        intro e
        rcases hdE with h | h
        · exact hne1.out (by rw [h, e])
        · omega
      obtain ⟨gv, cv', wV, hrV, hoV, hgV, hdV, hbV⟩ := snocI2 wE w1.heap.size (.slice (some ⟨vg, 0, none⟩) (j + 1) vc) LV y hVE (by rw [hLv.out]; omega) hBE.size
      have hBV := hbV w1 hBE (Nat.le_refl _) (Nat.le_refl _)
      have hEV : OwnI wV w1.heap.size (.slice (some ⟨ge, 0, none⟩) (LE.length + 1) cE') (LE ++ [e.id]) := own_apart (own_below hoE ((Below.refl _ wE).alloc (Nat.le_refl _) _)) hgV (fun b hb e => by
        have h1 : (some ge : Option Nat) = some b := hb
        have h2 : (some vg : Option Nat) = some b := e
        rw [← h1] at h2; injection h2 with h2; exact hvge h2)
      have hgl := (OwnI.base hoE ge rfl).2
      have hnv : Hid ((Value.slice (some ⟨ge, 0, none⟩) (LE.length + 1) cE').ownBlock ≠ some gv) := by
        intro h
        have h1 : (some ge : Option Nat) = some gv := h
        injection h1 with h1
        rcases hdV with h2 | h2
        · have h3 : (some vg : Option Nat) = some gv := h2
          injection h3 with h3; omega
        · omega
      rw [hLv.out] at hrV hoV
      rw [← hVs.out] at hoV
      rw [← hEs.out] at hEV
      replace hEV := Lib.hid hEV
      replace hoV := Lib.hid hoV
      replace hBV := Lib.hid hBV
      have hn9 := Lib.hid hvge
      clear hoE hgE hdE hbE hBE hVE hvlt hvge hgV hdV hbV hgl hE6 hV6 hB6 k6 hE3 hV3 hne1
      go_wp2_with (at_builtin; first | refine wpList_append_runB rfl (.tmp 35) (.tmp 37) 26 rfl u8 (.slice (some ⟨w6.heap.size, 0, none⟩) 1 1) rfl rfl _ _ hrE ?_ | refine wpList_append_runB rfl (.tmp 39) (.tmp 41) 26 rfl (.slice (some ⟨vg, 0, none⟩) (j + 1) vc) (.slice (some ⟨wE.heap.size, 0, none⟩) 1 1) rfl rfl _ _ hrV ?_)
      go_roundg ga
      case measure => omega
      case rel => exact ⟨j + 1, gv, cv', hle.out, by rw [hy.out], rfl, hEV.out, hoV.out, hnv.out, hBV.out⟩

end Go.Proofs.Ytlnbobclbaieoaa
/- Contracts and facts. -/
set_option linter.unusedSimpArgs false
set_option maxRecDepth 100000
set_option maxHeartbeats 4000000
namespace Go.Proofs.Ytlnbobclbaieoaa
open Go.RowKit
theorem mf_ex : ∃ mf : Nat → Int, mf 0 = -1 ∧ ∀ n : Nat, mf (n + 1) = (n : Int) := ⟨fun n => match n with | 0 => -1 | n + 1 => (n : Int), rfl, fun _ => rfl⟩
set_option maxRecDepth 100000 in
set_option maxHeartbeats 8000000 in
theorem PathR_any (v : Value) (g : Gr) (a b : Int) (w : World) (hv : GV w v g) (hn : g.small) :
    Calls Try.prog 25 #[v, .int .i64 a, .int .i64 b] w fun e w' => ∃ r, e = .returned (.tuple #[r, .int .i64 (pathC g a b).2]) ∧ OwnI w' w.heap.size r (pathC g a b).1 ∧ Below w.heap.size w w' := by
  obtain ⟨a1, a2, b1, b2, c1v, c2, rfl, _, _, _⟩ := gv_shape hv
  obtain ⟨w1, hw1⟩ : ∃ w1, w1 = w.alloc (.cells #[.slice a1 g.vs.length a2, .slice b1 g.es.length b2, .slice c1v g.ds.length c2] 28) := ⟨_, rfl⟩
  have gb : w1.heap[w.heap.size]? = some (.cells #[.slice a1 g.vs.length a2, .slice b1 g.es.length b2, .slice c1v g.ds.length c2] 28 (0, 0)) := by rw [hw1]; exact heap_alloc_new w _
  have B0 : Below w.heap.size w w1 := by rw [hw1]; exact (Below.refl _ w).alloc (Nat.le_refl _) _
  have hs1 : w1.heap.size = w.heap.size + 1 := by rw [hw1]; simp
  have fb := Lib.hid (fun W (q : Below w1.heap.size w1 W) => box3g ((q.block _ (show w.heap.size < w1.heap.size by omega)).trans gb))
  have hCo := Lib.hid (ConnR_any _ g a b w1 (hv.below B0) hn)
  have hLa := Lib.hid (fun W (q : Below w1.heap.size w1 W) => LabelsR_any _ g W ((hv.below B0).below q) hn)
  have hWy := Lib.hid (fun (ho : g.ok = true) (x : Int) (hx : x ∈ keysV g.vs) lv W (q : Below w1.heap.size w1 W) (hL : NL W lv (labF (mF g) (keysV g.vs))) => WayR_any _ lv g x W ((hv.below B0).below q) ho hx hL)
  obtain ⟨g0, g1, g2⟩ := fb.out w1 (Below.refl _ _)
  have hB0 := Lib.hid B0
  have hbase : Hid (w.heap.size ≤ w1.heap.size) := by show _ ≤ _; omega
  replace hw1 := Lib.hid hw1
  by_cases hc : (connF g a b).1 = true
  · obtain ⟨ho, ha, hb, hr⟩ := conn_true hc
    have hpc : pathC g a b = (pathF g.es (mF g) a b, 0) := path_yes ho ha hb hr
    have hcf : connF g a b = (true, 0) := by
      rw [conn_of ho ha hb]
      have : (gp (mF g) a).root = (gp (mF g) b).root := hr
      rw [decide_eq_true this]
    have hlc : labelsC g = (labF (mF g) (keysV g.vs), 0) := by unfold labelsC; rw [if_pos ho]
    rw [hcf] at hCo
    rw [hlc] at hLa
    rw [hpc]
    obtain ⟨GO, M, hV24, _⟩ := good_of ho
    obtain ⟨p, q, hp, hq, heq, hmin, hpath⟩ := meet_first GO M ha hb hr
    rw [hpath]
    have hWa := Lib.hid (hWy.out ho a ha)
    have hWb := Lib.hid (hWy.out ho b hb)
    have hla := climb_len GO M ha
    have hlb := climb_len GO M hb
    have hda := M.hi a ha
    have hdb := M.hi b hb
    generalize labF (mF g) (keysV g.vs) = LL at *
    obtain ⟨XA, hXA⟩ : ∃ f : Nat → Int, ∀ i, f i = anc g.es (mF g) i a := ⟨_, fun _ => rfl⟩
    obtain ⟨XB, hXB⟩ : ∃ f : Nat → Int, ∀ i, f i = anc g.es (mF g) i b := ⟨_, fun _ => rfl⟩
    obtain ⟨da, hdA⟩ : ∃ d, d = (gp (mF g) a).depth.toNat := ⟨_, rfl⟩
    obtain ⟨db, hdB⟩ : ∃ d, d = (gp (mF g) b).depth.toNat := ⟨_, rfl⟩
    have hua := Lib.hid (fun j (h : j ≤ da) => show (upV g.es (mF g) a da)[j]? = some (XA j) from by rw [upV_at _ _ _ _ _ h, hXA])
    have hub := Lib.hid (fun j (h : j ≤ db) => show (upV g.es (mF g) b db)[j]? = some (XB j) from by rw [upV_at _ _ _ _ _ h, hXB])
    have hual : Hid ((upV g.es (mF g) a da).length = da + 1) := upV_len _ _ _ _
    have hubl : Hid ((upV g.es (mF g) b db).length = db + 1) := upV_len _ _ _ _
    rw [← hdA] at hWa hp hmin hla
    rw [← hdB] at hWb hq hmin hlb
    have heq2 : Hid (XA p = XB q) := by show _ = _; rw [hXA, hXB]; exact heq
    have hmin2 := Lib.hid (fun i j (h1 : i ≤ da) (h2 : j ≤ db) (h : XA i = XB j) => hmin i j h1 h2 (by rw [← hXA, ← hXB]; exact h))
    have hda24 : da ≤ 24 := by omega
    have hdb24 : db ≤ 24 := by omega
    generalize upV g.es (mF g) a da = UA at *
    generalize upV g.es (mF g) b db = UB at *
    generalize climb g.es (mF g) a = CA at *
    generalize climb g.es (mF g) b = CB at *
    generalize hTg : CA.take p ++ (CB.take q).reverse = TG at *
    obtain ⟨F, hF⟩ : ∃ F : Nat → List Int, ∀ n, F n = CA.take p ++ ((CB.take q).drop n).reverse := ⟨_, fun _ => rfl⟩
    have hF0 : Hid (F q = CA.take p) := by show _ = _; rw [hF, List.drop_of_length_le (by rw [List.length_take]; omega)]; simp
    have hFe : Hid (F 0 = TG) := by show _ = _; rw [hF, List.drop_zero]; exact hTg
    have hFs := Lib.hid (fun n (h1 : n < q) (h2 : n < CB.length) => show F n = F (n + 1) ++ [CB[n]] from by
      rw [hF, hF, List.drop_eq_getElem_cons (by rw [List.length_take]; omega), List.reverse_cons, ← List.append_assoc]; simp)
    have hFl := Lib.hid (fun n => show (F n).length ≤ 1000 from by
      rw [hF, List.length_append, List.length_reverse, List.length_drop, List.length_take, List.length_take]; omega)
    obtain ⟨mf, hm0, hms⟩ := mf_ex
    replace hm0 := Lib.hid hm0
    replace hms := Lib.hid hms
    replace hla := Lib.hid hla
    replace hlb := Lib.hid hlb
    generalize g.vs.length = n1 at *
    generalize g.es.length = n2 at *
    generalize g.ds.length = n3 at *
    clear hc ho ha hb hr hpc hcf hlc GO M hV24 hmin hpath heq hda hdb hXA hXB hdA hdB hTg hF gb B0 hs1 hv hWy
    go_enter Try.func25, Try.ntmps25
    go_upto_region 1 with (fail)
    rw [← hw1.out]
    go_wp2_with fail
    refine hCo.out.mono ?_
    rintro e w2 ⟨rfl, q2⟩
    have B2 := Lib.hid q2
    clear q2 hCo g0 g1 g2
    obtain ⟨g0, g1, g2⟩ := fb.out w2 B2.out
    go_wp2_with fail
    refine (hLa.out w2 B2.out).mono ?_
    rintro e w3 ⟨lv, rfl, hlv, q3⟩
    have B3 := Lib.hid (B2.out.trans (q3.mono B2.out.size))
    have hNL := hlv.NL
    have hNL3 := Lib.hid (fun W (q : Below w3.heap.size w3 W) => hNL.below q)
    clear q3 g0 g1 g2 hlv hNL
    obtain ⟨g0, g1, g2⟩ := fb.out w3 B3.out
    go_wp2_with fail
    refine (hWa.out lv w3 B3.out (hNL3.out w3 (Below.refl _ _))).mono ?_
    rintro e w4 ⟨r1, r2, rfl, hU, hA, q4⟩
    have B4 := Lib.hid (B3.out.trans (q4.mono B3.out.size))
    have hNL4 := Lib.hid (hNL3.out w4 q4)
    clear q4 g0 g1 g2
    obtain ⟨g0, g1, g2⟩ := fb.out w4 B4.out
    go_wp2_with fail
    refine (hWb.out lv w4 B4.out hNL4.out).mono ?_
    rintro e w5 ⟨r3, r4, rfl, hD, hBl, q5⟩
    have B5 := Lib.hid (B4.out.trans (q5.mono B4.out.size))
    have hU5 := own_below hU q5
    have hA5 := own_below hA q5
    clear q5 g0 g1 g2 hU hA
    obtain ⟨fa, ca, rfl, _, hga⟩ := OwnI.form hA5
    obtain ⟨ga, rfl⟩ := hga (by rw [hual.out]; omega)
    obtain ⟨fbl, cb, rfl, _, hgb⟩ := OwnI.form hBl
    obtain ⟨gb, rfl⟩ := hgb (by rw [hubl.out]; omega)
    have hcA := Lib.hid (fun i (hi : i ≤ da) W (q : Below w5.heap.size w5 W) => ((OwnI.at_ (own_below hA5 q)) i _ (hua.out i hi)).1)
    have hcB := Lib.hid (fun i (hi : i ≤ db) W (q : Below w5.heap.size w5 W) => ((OwnI.at_ (own_below hBl q)) i _ (hub.out i hi)).1)
    have hUW := Lib.hid (fun W (q : Below w5.heap.size w5 W) => own_below hU5 q)
    have hDL := (OwnI.DL hD)
    obtain ⟨d1, dc, rfl⟩ := hDL.shape
    have hcD := Lib.hid hDL.cells
    rw [hual.out, hubl.out, hlb.out]
    clear hA5 hBl hU5 hD hDL
    go_wp2_with fail
    go_loopg [16] (da + 1) (fun n iv wr => ∃ i : Nat, i + n = da + 1 ∧ i ≤ p ∧ iv = .int .i64 i ∧ Below w5.heap.size w5 wr)
    case atStart => exact ⟨0, by omega, by omega, rfl, Below.refl _ _⟩
    case round =>
      obtain ⟨i, hi, hip, rfl, B⟩ := hrel
      obtain ⟨wo, rfl⟩ : ∃ x, x = wr := ⟨_, rfl⟩
      cases gk with
      | zero => omega
      | succ gi =>
        have hBi := Lib.hid B
        have i0 : (0 : Int) ≤ (i : Int) := by omega
        have i1 : (i : Int) < ((da + 1 : Nat) : Int) := by omega
        have i2 : (i : Int) ≤ 24 := by omega
        have hile : Hid (i + 1 + gi = da + 1) := by show _ = _; omega
        have hia : Hid (i ≤ da) := by show _ ≤ _; omega
        have hip' := Lib.hid hip
        clear B hi hip
        go_wp2_with fail
        go_loopg [17] (db + 1) (fun n kv wr => ∃ k : Nat, k + n = db + 1 ∧ kv = .int .i64 k ∧ Hid (i = p → k ≤ q) ∧ Below w5.heap.size w5 wr)
        case atStart => exact ⟨0, by omega, rfl, fun _ => Nat.zero_le _, hBi.out⟩
        case round =>
          obtain ⟨k, hk, rfl, hkq, B⟩ := hrel
          obtain ⟨wi, rfl⟩ : ∃ x, x = wr := ⟨_, rfl⟩
          cases gk with
          | zero =>
            have hk2 : k = db + 1 := by omega
            have hnp : Hid (i + 1 ≤ p) := by
              show _ ≤ _
              rcases Nat.lt_or_ge i p with h | h
              · omega
              · have := hkq.out (by have := hip'.out; omega)
                omega
            have j1 : ¬ (k : Int) < ((db + 1 : Nat) : Int) := by omega
            have hBk := Lib.hid B
            clear hk hk2 hkq B
            go_wp2_with fail
            go_roundg gi
            case measure => omega
            case rel => exact ⟨i + 1, hile.out, hnp.out, by go_num, hBk.out⟩
          | succ gj =>
            have j0 : (0 : Int) ≤ (k : Int) := by omega
            have j1 : (k : Int) < ((db + 1 : Nat) : Int) := by omega
            have j2 : (k : Int) ≤ 24 := by omega
            have hkle : Hid (k + 1 + gj = db + 1) := by show _ = _; omega
            have hkb : Hid (k ≤ db) := by show _ ≤ _; omega
            have hBk := Lib.hid B
            have hcAB := Lib.hid (fun W (q : Below w5.heap.size w5 W) => (show W.cell? ⟨ga, i, none⟩ = some (.int .i64 (XA i)) ∧ W.cell? ⟨gb, k, none⟩ = some (.int .i64 (XB k)) from ⟨hcA.out i hia.out W q, hcB.out k hkb.out W q⟩))
            by_cases hxy : XA i = XB k
            · have hik := hmin2.out i k hia.out hkb.out hxy
              have hip2 : i = p := by have := hip'.out; omega
              have hkq2 : k = q := by have := hkq.out hip2; omega
              subst hip2
              subst hkq2
              generalize XA i = x at *
              generalize XB k = y at *
              have t1 : (x == y) = true := by simpa using hxy
              clear hik hk hkq B hxy hp hq
              go_upto_region 13 with (fail)
              refine q_region (fun W => Below w5.heap.size w5 W) (by kernel_rfl) (by kernel_rfl) (hBk.out.drew) ?_
              repeat (first | (refine q_skip (by rfl) ?_; try simp only [Act.put, zT, z0, zS]) | (refine q_take (v := ?_) (by rfl) ?_ ?_; rotate_left; (first | ((intro w h; clear h; go_simp) <;> with_reducible rfl) | ((intro w h; obtain ⟨z0, z1⟩ := hcAB.out w h; clear h; go_simp) <;> with_reducible rfl)); try simp only [Act.put, zT, z0, zS]))
              refine q_nil ?_
              intro wq kq
              have hBq := Lib.hid kq
              have hUq := hUW.out wq kq
              have hm2 : IntKind.i64.wrap ((k : Int) - 1) = mf k := by
                cases k with
                | zero => rw [hm0.out]; decide
                | succ k => rw [hms.out, show (((k + 1 : Nat) : Int) - 1) = (k : Int) by omega]; exact IntWalk.i64_in _ (by omega)
              have hil : i ≤ CA.length := by rw [hla.out]; exact hia.out
              have hcut := OwnI.form hUq
              have hbq : Below wq.heap.size wq (wq.alloc (.cells #[] 3)) := (Below.refl _ wq).alloc (Nat.le_refl _) _
              have hEm : OwnI (wq.alloc (.cells #[] 3)) wq.heap.size (.slice (some ⟨wq.heap.size, 0, none⟩) 0 0) [] := ⟨rfl, .inr ⟨wq.heap.size, 0, #[], rfl, Nat.le_refl _, heap_alloc_new wq _, by simp, by unfold maxLen; omega, by simp, by simp [cI]⟩⟩
              obtain ⟨fu, cu, rfl, hcu, hfu⟩ := hcut
              rw [hla.out] at hcu ⊢
              have hUc := OwnI.cut hUq rfl hil
              obtain ⟨v', wz, hrz, hoz, hbz⟩ := app_emptyI (wq.alloc (.cells #[] 3)) wq.heap.size wq.heap.size hEm _ _ (OwnI.DL (own_below hUc hbq)) (by simp) (by rw [List.length_take]; omega)
              have hbzq := hbq.trans (hbz.mono hbq.size)
              rw [← hF0.out] at hoz
              replace hoz := Lib.hid hoz
              replace hbzq := Lib.hid hbzq
              have s0 : (i : Int) ≤ (cu : Int) := by have := hia.out; omega
              have s1 : (i : Int) ≤ (da : Int) := by have := hia.out; omega
              have hle : Hid (w.heap.size ≤ wq.heap.size) := by show _ ≤ _; have := hBq.out.size; have := B5.out.size; have := hbase.out; omega
              clear hUq hUc hbq hEm hbz hcu hil kq
              go_wp2_with (at_builtin; refine wpList_append_runB rfl (.tmp 77) (.tmp 80) 26 rfl (.slice (some ⟨wq.heap.size, 0, none⟩) 0 0) (.slice fu i cu) rfl rfl _ _ hrz ?_)
              go_loopg [18, 19] k (fun n ov mv wr => n ≤ k ∧ mv = .int .i64 (mf n) ∧ OwnI wr wq.heap.size ov (F n) ∧ Below wq.heap.size wq wr)
              case atStart => exact ⟨Nat.le_refl _, rfl, hoz.out, hbzq.out⟩
              case round =>
                obtain ⟨hnk, rfl, ho, B3⟩ := hrel
                obtain ⟨wl, rfl⟩ : ∃ x, x = wr := ⟨_, rfl⟩
                cases gk with
                | zero =>
                  rw [hm0.out]
                  rw [hFe.out] at ho
                  have hofin := Lib.hid ho
                  have hB3 := Lib.hid (hB0.out.trans ((B5.out.trans ((hBq.out.trans (B3.mono hBq.out.size)).mono B5.out.size)).mono hB0.out.size))
                  clear ho B3 hnk
                  go_wp2_with fail
                  go_ret2
                  exact ⟨_, rfl, own_low hofin.out hle.out, hB3.out⟩
                | succ gn =>
                  rw [hms.out]
                  have n0 : (0 : Int) ≤ (gn : Int) := by omega
                  have n1 : (gn : Int) < (db : Int) := by have := hkb.out; omega
                  have hdl : gn < CB.length := by rw [hlb.out]; omega
                  have hFn := hFs.out gn (by omega) hdl
                  obtain ⟨bd, od, rfl, cd⟩ := hcD.out gn hdl
                  have hq3 : Below w5.heap.size w5 wl := hBq.out.trans (B3.mono hBq.out.size)
                  have d0 := cd wl hq3
                  generalize CB[gn] = dx at *
                  have hm3 : IntKind.i64.wrap ((gn : Int) - 1) = mf gn := by
                    cases gn with
                    | zero => rw [hm0.out]; decide
                    | succ gn => rw [hms.out, show (((gn + 1 : Nat) : Int) - 1) = (gn : Int) by omega]; exact IntWalk.i64_in _ (by omega)
                  obtain ⟨v', w', hr, ho2, hb2, _⟩ := snocI wl wq.heap.size _ (F (gn + 1)) dx ho (by have := hFl.out (gn + 1); omega) B3.size
                  have hb3 := Lib.hid (hb2 wq B3 (Nat.le_refl _) (Nat.le_refl _))
                  rw [← hFn] at ho2
                  replace ho2 := Lib.hid ho2
                  have hnk' : Hid (gn ≤ k) := by show _ ≤ _; omega
                  clear hb2 ho B3 cd hq3 hFn hdl hnk
                  go_wp2_with (at_builtin; refine wpList_append_runB rfl (.tmp 88) (.tmp 93) 26 rfl u18 (.slice (some ⟨wl.heap.size, 0, none⟩) 1 1) rfl rfl _ _ hr ?_)
                  go_roundg gn
                  case measure => omega
                  case rel => exact ⟨hnk'.out, rfl, ho2.out, hb3.out⟩
            · have hnx : Hid (i = p → k + 1 ≤ q) := fun h => by
                have h1 := hkq.out h
                rcases Nat.lt_or_ge k q with h2 | h2
                · omega
                · exact absurd (by rw [h, show k = q by omega]; exact heq2.out) hxy
              generalize XA i = x at *
              generalize XB k = y at *
              have t1 : (x == y) = false := by simpa using hxy
              clear hk hkq B hxy
              go_upto_region 13 with (fail)
              refine q_region (fun W => Below w5.heap.size w5 W) (by kernel_rfl) (by kernel_rfl) (hBk.out.drew) ?_
              repeat (first | (refine q_skip (by rfl) ?_; try simp only [Act.put, zT, z0, zS]) | (refine q_take (v := ?_) (by rfl) ?_ ?_; rotate_left; (first | ((intro w h; clear h; go_simp) <;> with_reducible rfl) | ((intro w h; obtain ⟨z0, z1⟩ := hcAB.out w h; clear h; go_simp) <;> with_reducible rfl)); try simp only [Act.put, zT, z0, zS]))
              refine q_nil ?_
              intro wq kq
              replace kq := Lib.hid kq
              go_wp2_with fail
              go_roundg gj
              case measure => omega
              case rel => exact ⟨k + 1, hkle.out, by go_num, hnx, kq.out⟩
  · have hpc : pathC g a b = ([], 70) := by unfold pathC; rw [if_neg hc]
    rw [hpc]
    cases hh : holdsF g [a, b] with
    | false =>
      have hcf : connF g a b = (false, 70) := by unfold connF; rw [if_neg (by rw [hh]; simp)]
      rw [hcf] at hCo
      obtain ⟨LA, hLA⟩ : ∃ x, x = labelsC g := ⟨_, rfl⟩
      rw [← hLA] at hLa
      obtain ⟨LL, ee⟩ := LA
      generalize g.vs.length = n1 at *
      generalize g.es.length = n2 at *
      generalize g.ds.length = n3 at *
      clear hLA hc hh hpc hcf gb B0 hs1 hv hWy
      go_enter Try.func25, Try.ntmps25
      go_upto_region 1 with (fail)
      rw [← hw1.out]
      go_wp2_with fail
      refine hCo.out.mono ?_
      rintro e w2 ⟨rfl, q2⟩
      have B2 := Lib.hid q2
      clear q2 hCo g0 g1 g2
      obtain ⟨g0, g1, g2⟩ := fb.out w2 B2.out
      go_wp2_with fail
      refine (hLa.out w2 B2.out).mono ?_
      rintro e w3 ⟨lv, rfl, hlv, q3⟩
      have B3 := Lib.hid (hB0.out.trans ((B2.out.trans (q3.mono B2.out.size)).mono hB0.out.size))
      clear q3 g0 g1 g2 hlv
      go_wp2_with fail
      go_ret2
      exact ⟨_, rfl, World.ownsRow_nil _ _ _ _, B3.out⟩
    | true =>
      obtain ⟨ho, ha, hb⟩ := holds_two hh
      have hcf : connF g a b = (false, 0) := by
        have := conn_of ho ha hb
        rw [this] at hc ⊢
        cases hd : decide ((gp (mF g) a).root = (gp (mF g) b).root) with
        | true => exact absurd hd hc
        | false => rfl
      have hlc : labelsC g = (labF (mF g) (keysV g.vs), 0) := by unfold labelsC; rw [if_pos ho]
      rw [hcf] at hCo
      rw [hlc] at hLa
      generalize labF (mF g) (keysV g.vs) = LL at *
      generalize g.vs.length = n1 at *
      generalize g.es.length = n2 at *
      generalize g.ds.length = n3 at *
      clear ho ha hb hlc hc hh hpc hcf gb B0 hs1 hv hWy
      go_enter Try.func25, Try.ntmps25
      go_upto_region 1 with (fail)
      rw [← hw1.out]
      go_wp2_with fail
      refine hCo.out.mono ?_
      rintro e w2 ⟨rfl, q2⟩
      have B2 := Lib.hid q2
      clear q2 hCo g0 g1 g2
      obtain ⟨g0, g1, g2⟩ := fb.out w2 B2.out
      go_wp2_with fail
      refine (hLa.out w2 B2.out).mono ?_
      rintro e w3 ⟨lv, rfl, hlv, q3⟩
      have B3 := Lib.hid (hB0.out.trans ((B2.out.trans (q3.mono B2.out.size)).mono hB0.out.size))
      clear q3 g0 g1 g2 hlv
      go_wp2_with fail
      go_ret2
      exact ⟨_, rfl, World.ownsRow_nil _ _ _ _, B3.out⟩

end Go.Proofs.Ytlnbobclbaieoaa
/- Contracts and facts. -/
set_option linter.unusedSimpArgs false
set_option maxRecDepth 100000
set_option maxHeartbeats 4000000
namespace Go.Proofs.Ytlnbobclbaieoaa
open Go.RowKit
theorem holds_many {g : Gr} {l : List Int} (ho : g.ok = true) : holdsF g l = true ↔ ∀ x ∈ l, x ∈ keysV g.vs := by
  unfold holdsF missP
  rw [ho, Bool.true_and, Bool.not_eq_true', List.any_eq_false]
  constructor
  · intro h x hx
    have := h x hx
    simp only [Bool.not_eq_true', Bool.not_eq_false'] at this
    have h2 : g.vs.any (fun u => u.id == x) = true := by simpa using this
    obtain ⟨u, u1, u2⟩ := List.any_eq_true.1 h2
    exact mem_keysV.2 ⟨u, u1, by simpa using u2⟩
  · intro h x hx
    obtain ⟨u, u1, u2⟩ := mem_keysV.1 (h x hx)
    have : g.vs.any (fun u => u.id == x) = true := List.any_eq_true.2 ⟨u, u1, by simpa using u2⟩
    rw [this]; simp
theorem sd_yes {g : Gr} {l : List Int} (ho : g.ok = true) (h : ∀ i (h : i < l.length), l[i] ∈ keysV g.vs ∧ ∀ j (hj : j + 1 = i), l[j] < l[i]) : (holdsF g l && ascI2 l) = true := by
  rw [Bool.and_eq_true]
  refine ⟨(holds_many ho).2 (fun x hx => ?_), (asc_iff l).2 (fun i hi => (h (i + 1) hi).2 i rfl)⟩
  obtain ⟨i, hi, rfl⟩ := List.getElem_of_mem hx
  exact (h i hi).1
theorem sd_no1 {g : Gr} {l : List Int} (ho : g.ok = true) (i : Nat) (hi : i < l.length) (h : l[i] ∉ keysV g.vs) : (holdsF g l && ascI2 l) = false := by
  refine Bool.eq_false_iff.2 fun hk => ?_
  rw [Bool.and_eq_true] at hk
  exact h ((holds_many ho).1 hk.1 _ (List.getElem_mem hi))
theorem sd_no2 {g : Gr} {l : List Int} (i : Nat) (hi : i + 1 < l.length) (h : ¬ l[i] < l[i + 1]) : (holdsF g l && ascI2 l) = false := by
  refine Bool.eq_false_iff.2 fun hk => ?_
  rw [Bool.and_eq_true] at hk
  exact h ((asc_iff l).1 hk.2 i hi)
set_option maxRecDepth 100000 in
theorem CheckSideR_any (v : Value) (g : Gr) (a b : Int) (vl : Value) (l : List Int) (w : World) (hv : GV w v g) (hn : g.small) (hl : DL w vl l) (hm : l.length ≤ 1000000000) (hes : g.es.length ≤ 1000000000) :
    Calls Try.prog 29 #[v, .int .i64 a, .int .i64 b, vl] w fun e w' => e = .returned (.bool (ckSideC g a b l)) ∧ Below w.heap.size w w' := by
  obtain ⟨a1, a2, b1, b2, c1v, c2, rfl, _, hv2, _⟩ := gv_shape hv
  obtain ⟨l1, l2, rfl⟩ := hl.shape
  have hR : Hid (ckSideC g a b l = (holdsF g [a, b] && (holdsF g l && (ascI2 l && (decide (a ∈ l) && (!decide (b ∈ l) && !g.es.any (leavesF l))))))) := rfl
  obtain ⟨w1, hw1⟩ : ∃ w1, w1 = w.alloc (.cells #[.slice a1 g.vs.length a2, .slice b1 g.es.length b2, .slice c1v g.ds.length c2] 28) := ⟨_, rfl⟩
  have gb : w1.heap[w.heap.size]? = some (.cells #[.slice a1 g.vs.length a2, .slice b1 g.es.length b2, .slice c1v g.ds.length c2] 28 (0, 0)) := by rw [hw1]; exact heap_alloc_new w _
  have B0 : Below w.heap.size w w1 := by rw [hw1]; exact (Below.refl _ w).alloc (Nat.le_refl _) _
  have hs1 : w1.heap.size = w.heap.size + 1 := by rw [hw1]; simp
  obtain ⟨g0, g1, g2⟩ := box3g gb
  have hG1 := Lib.hid (fun W (q : Below w1.heap.size w1 W) => box3g ((q.block _ (by omega)).trans gb))
  have hHo := Lib.hid (Ends_any _ g a b w1 (hv.below B0) hn)
  have hPl := Lib.hid (fun (x : Int) W (q : Below w1.heap.size w1 W) => PlaceR_any _ g x W ((hv.below B0).below q) (by have := hn; unfold Gr.small at this; omega))
  have hHas := Lib.hid (fun (x : Int) W (q : Below w1.heap.size w1 W) => Has_any _ l x W ((hl.below B0).below q) (by omega))
  have cellD := Lib.hid (hl.below B0).cells
  have cE := Lib.hid (hv2.below B0).cells
  replace hw1 := Lib.hid hw1
  have hB0 := Lib.hid B0
  generalize ckSideC g a b l = R at *
  obtain ⟨N, hN⟩ : ∃ N, Hid (N = l.length) := ⟨_, rfl⟩
  rw [← hN.out] at hm hHas ⊢
  obtain ⟨n2, hn2⟩ : ∃ N, Hid (N = g.es.length) := ⟨_, rfl⟩
  rw [← hn2.out] at hw1 g1 hG1 hHo hPl hes
  rw [← hn2.out]
  generalize g.vs.length = n1 at *
  generalize g.ds.length = n3 at *
  clear hs1 B0 gb hv hl hv2
  cases hho : holdsF g [a, b] with
  | false =>
    rw [hho] at hHo
    have hR2 : Hid (R = false) := by show _ = _; rw [hR.out, hho]; rfl
    clear hR hho
    go_enter Try.func29, Try.ntmps29
    go_upto_region 1 with (fail)
    rw [← hw1.out]
    go_wp2_with fail
    refine hHo.out.mono ?_
    rintro e w2 ⟨rfl, b2⟩
    have B2 := Lib.hid (hB0.out.trans (b2.mono hB0.out.size))
    clear b2 hHo g0 g1 g2
    go_wp2_with fail
    go_ret
    exact ⟨ret_bool hR2.out.symm, B2.out⟩
  | true =>
  rw [hho] at hHo
  have ho := Lib.hid (holds_two hho).1
  by_cases hma : a ∈ l
  · by_cases hmb : b ∈ l
    · have hHa := Lib.hid (fun W q => hHas.out a W q)
      have hHb := Lib.hid (fun W q => hHas.out b W q)
      rw [decide_eq_true hma] at hHa
      rw [decide_eq_true hmb] at hHb
      have hR2 : Hid (R = false) := by show _ = _; rw [hR.out, decide_eq_true hmb]; simp
      clear hR hho hma hmb
      go_enter Try.func29, Try.ntmps29
      go_upto_region 1 with (fail)
      rw [← hw1.out]
      go_wp2_with fail
      refine hHo.out.mono ?_
      rintro e w2 ⟨rfl, b2⟩
      clear g0 g1 g2
      go_wp2_with fail
      refine (hHa.out w2 b2).mono ?_
      rintro e w3 ⟨rfl, rfl⟩
      go_wp2_with fail
      refine (hHb.out _ b2).mono ?_
      rintro e w4 ⟨rfl, rfl⟩
      go_wp2_with fail
      go_ret
      exact ⟨ret_bool hR2.out.symm, hB0.out.trans (b2.mono hB0.out.size)⟩
    · have hHa := Lib.hid (fun W q => hHas.out a W q)
      have hHb := Lib.hid (fun W q => hHas.out b W q)
      rw [decide_eq_true hma] at hHa
      rw [decide_eq_false hmb] at hHb
      have hR2 : Hid (R = ((holdsF g l && ascI2 l) && !g.es.any (leavesF l))) := by
        show _ = _; rw [hR.out, hho, decide_eq_true hma, decide_eq_false hmb]
        cases holdsF g l <;> cases ascI2 l <;> simp
      clear hR hho hma hmb
      go_enter Try.func29, Try.ntmps29
      go_upto_region 1 with (fail)
      rw [← hw1.out]
      go_wp2_with fail
      refine hHo.out.mono ?_
      rintro e w2 ⟨rfl, b2⟩
      clear g0 g1 g2
      go_wp2_with fail
      refine (hHa.out w2 b2).mono ?_
      rintro e w3 ⟨rfl, rfl⟩
      go_wp2_with fail
      refine (hHb.out _ b2).mono ?_
      rintro e w4 ⟨rfl, rfl⟩
      have B2 := Lib.hid b2
      clear b2 hHo hHa hHb
      go_wp2_with fail
      go_loopg [9] N (fun n iv wr => ∃ k : Nat, k + n = N ∧ iv = .int .i64 k ∧ Hid (∀ i (h : i < l.length), i < k → l[i] ∈ keysV g.vs ∧ ∀ j (hj : j + 1 = i), l[j] < l[i]) ∧ Below w1.heap.size w1 wr)
      case atStart => exact ⟨0, by omega, rfl, fun i h hi => by omega, B2.out⟩
      case round =>
        obtain ⟨k, hk, rfl, hgo, B⟩ := hrel
        obtain ⟨wo, rfl⟩ : ∃ x, x = wr := ⟨_, rfl⟩
        cases gk with
        | zero =>
          have hk2 : k = N := by omega
          have hR3 : Hid (R = !g.es.any (leavesF l)) := by
            show _ = _
            rw [hR2.out, sd_yes ho.out (fun i hi => hgo.out i hi (by have := hN.out; omega)), Bool.true_and]
          have i1 : ¬ (k : Int) < (N : Int) := by omega
          have hB := Lib.hid B
          clear hk2 hk hgo hR2 B
          go_wp2_with fail
          go_loopg [10] n2 (fun n iv wr => ∃ k : Nat, k + n = n2 ∧ iv = .int .i64 k ∧ Hid (R = !(g.es.drop k).any (leavesF l)) ∧ Below w1.heap.size w1 wr)
          case atStart => exact ⟨0, by omega, rfl, hR3, hB.out⟩
          case round =>
            obtain ⟨k, hk, rfl, hgo, B⟩ := hrel
            obtain ⟨wo, rfl⟩ : ∃ x, x = wr := ⟨_, rfl⟩
            cases gk with
            | zero =>
              have hk2 : k = n2 := by omega
              have hfin : Hid (R = true) := by
                show _ = _
                rw [hgo.out, List.drop_of_length_le (by rw [hk2, hn2.out]; exact Nat.le_refl _)]; rfl
              have i1 : ¬ (k : Int) < (n2 : Int) := by omega
              have hB := Lib.hid B
              obtain ⟨g0, g1, g2⟩ := hG1.out wo B
              clear hk2 hk hgo B
              go_wp2_with fail
              go_ret
              exact ⟨ret_bool hfin.out.symm, hB0.out.trans (hB.out.mono hB0.out.size)⟩
            | succ ga =>
              have hlt : k < n2 := by omega
              have hkl : k < g.es.length := by rw [← hn2.out]; exact hlt
              obtain ⟨eb, eo, rfl, ce⟩ := cE.out k hkl
              have i0 : (0 : Int) ≤ (k : Int) := by omega
              have i1 : (k : Int) < (n2 : Int) := by omega
              have hle : Hid (k + 1 + ga = n2) := by show _ = _; omega
              have hg := hgo.out
              rw [List.drop_eq_getElem_cons hkl, List.any_cons] at hg
              have fY := Lib.hid (fun W (q : Below w1.heap.size w1 W) => (show (W.cell? ⟨w.heap.size, 0, none⟩ = _ ∧ W.cell? ⟨w.heap.size, 1, none⟩ = _ ∧ W.cell? ⟨w.heap.size, 2, none⟩ = _) ∧ EdAt W eb (eo + k * 6) g.es[k] from ⟨hG1.out W q, ce W q⟩))
              unfold EdAt at fY
              generalize g.es[k] = u at *
              obtain ⟨g0, g1, g2⟩ := hG1.out wo B
              have hB := Lib.hid B
              have hHs := Lib.hid (fun W q => hHas.out u.src W q)
              have hHd := Lib.hid (fun W q => hHas.out u.dst W q)
              have hlv : leavesF l u = (decide (u.src ∈ l) != decide (u.dst ∈ l)) := rfl
              rw [hlv] at hg
              generalize decide (u.src ∈ l) = A at *
              generalize decide (u.dst ∈ l) = D at *
              replace hg := Lib.hid hg
              clear hlv hgo hk hlt hkl ce B
              go_upto_region 11 with (fail)
              refine q_region (fun W => Below w1.heap.size w1 W) (by kernel_rfl) (by kernel_rfl) (hB.out.drew) ?_
              repeat (first | (refine q_skip (by rfl) ?_; try simp only [Act.put, zT, z0, zS]) | (refine q_take (v := ?_) (by rfl) ?_ ?_; rotate_left; (first | ((intro w h; clear h; go_simp) <;> with_reducible rfl) | ((intro w h; obtain ⟨⟨y0, y1, y2⟩, z0, z1, z2, z3, z4, z5⟩ := fY.out w h; clear h; go_simp) <;> with_reducible rfl)); try simp only [Act.put, zT, z0, zS]))
              refine q_call (v := _) Try.f58 (by rfl) rfl Try.func58 (by kernel_rfl) (by kernel_rfl) #[.slice l1 N l2, .int .i64 u.src] (by simp [Act.eval]) (fun w h => (hHs.out w h).mono fun e w' ⟨he, hb⟩ => ⟨he, hb ▸ h⟩) ?_; try simp only [Act.put, zT, z0, zS]
              repeat (first | (refine q_skip (by rfl) ?_; try simp only [Act.put, zT, z0, zS]) | (refine q_take (v := ?_) (by rfl) ?_ ?_; rotate_left; (first | ((intro w h; clear h; go_simp) <;> with_reducible rfl) | ((intro w h; obtain ⟨⟨y0, y1, y2⟩, z0, z1, z2, z3, z4, z5⟩ := fY.out w h; clear h; go_simp) <;> with_reducible rfl)); try simp only [Act.put, zT, z0, zS]))
              refine q_call (v := _) Try.f58 (by rfl) rfl Try.func58 (by kernel_rfl) (by kernel_rfl) #[.slice l1 N l2, .int .i64 u.dst] (by simp [Act.eval]) (fun w h => (hHd.out w h).mono fun e w' ⟨he, hb⟩ => ⟨he, hb ▸ h⟩) ?_; try simp only [Act.put, zT, z0, zS]
              repeat (first | (refine q_skip (by rfl) ?_; try simp only [Act.put, zT, z0, zS]) | (refine q_take (v := ?_) (by rfl) ?_ ?_; rotate_left; (first | ((intro w h; clear h; go_simp) <;> with_reducible rfl)); try simp only [Act.put, zT, z0, zS]))
              refine q_nil ?_
              intro w6 k6
              replace k6 := Lib.hid k6
              clear g0 g1 g2
              cases A <;> cases D
              · have hnx : Hid (R = !(g.es.drop (k + 1)).any (leavesF l)) := by show _ = _; rw [hg.out]; rfl
                go_wp2_with fail
                go_roundg ga
                case measure => omega
                case rel => exact ⟨k + 1, hle.out, by go_num, hnx, k6.out⟩
              · have hfin : Hid (R = false) := by show _ = _; rw [hg.out]; rfl
                go_wp2_with fail
                go_ret
                exact ⟨ret_bool hfin.out.symm, hB0.out.trans (k6.out.mono hB0.out.size)⟩
              · have hfin : Hid (R = false) := by show _ = _; rw [hg.out]; rfl
                go_wp2_with fail
                go_ret
                exact ⟨ret_bool hfin.out.symm, hB0.out.trans (k6.out.mono hB0.out.size)⟩
              · have hnx : Hid (R = !(g.es.drop (k + 1)).any (leavesF l)) := by show _ = _; rw [hg.out]; rfl
                go_wp2_with fail
                go_roundg ga
                case measure => omega
                case rel => exact ⟨k + 1, hle.out, by go_num, hnx, k6.out⟩
        | succ ga =>
          have hlt : k < N := by omega
          have hkl : k < l.length := by rw [← hN.out]; exact hlt
          obtain ⟨bv, ov, rfl, cv⟩ := cellD.out k hkl
          have i0 : (0 : Int) ≤ (k : Int) := by omega
          have i1 : (k : Int) < (N : Int) := by omega
          have hle : Hid (k + 1 + ga = N) := by show _ = _; omega
          have hB := Lib.hid B
          have hPx := Lib.hid (fun W q => hPl.out l[k] W q)
          by_cases hx : l[k] ∈ keysV g.vs
          · have p0 : 0 ≤ plI (keysV g.vs) l[k] := by
              rcases Int.lt_or_le (plI (keysV g.vs) l[k]) 0 with h | h
              · exact absurd hx ((plI_neg _ _).1 h)
              · exact h
            by_cases hk0 : k = 0
            · subst hk0
              have hgo2 : Hid (∀ i (h : i < l.length), i < 1 → l[i] ∈ keysV g.vs ∧ ∀ j (hj : j + 1 = i), l[j] < l[i]) := fun i h hi => by
                have : i = 0 := by omega
                subst this
                exact ⟨hx, fun j hj => by omega⟩
              have fX := Lib.hid (fun W (q : Below w1.heap.size w1 W) => (show (W.cell? ⟨w.heap.size, 0, none⟩ = _ ∧ W.cell? ⟨w.heap.size, 1, none⟩ = _ ∧ W.cell? ⟨w.heap.size, 2, none⟩ = _) ∧ W.cell? ⟨bv, ov, none⟩ = some (.int .i64 l[0]) from ⟨hG1.out W q, cv W q⟩))
              generalize l[0] = x at *
              generalize plI (keysV g.vs) x = pk at *
              have p1 : ¬ pk < 0 := by omega
              clear hx hgo cv hk hlt B
              go_upto_region 6 with (fail)
              refine q_region (fun W => Below w1.heap.size w1 W) (by kernel_rfl) (by kernel_rfl) (hB.out.drew) ?_
              repeat (first | (refine q_skip (by rfl) ?_; try simp only [Act.put, zT, z0, zS]) | (refine q_take (v := ?_) (by rfl) ?_ ?_; rotate_left; (first | ((intro w h; clear h; go_simp) <;> with_reducible rfl) | ((intro w h; obtain ⟨⟨y0, y1, y2⟩, x0⟩ := fX.out w h; clear h; go_simp) <;> with_reducible rfl)); try simp only [Act.put, zT, z0, zS]))
              refine q_call (v := _) Try.f20 (by rfl) rfl Try.func20 (by kernel_rfl) (by kernel_rfl) #[.agg #[.slice a1 n1 a2, .slice b1 n2 b2, .slice c1v n3 c2], .int .i64 x] (by simp [Act.eval]) (fun w h => (hPx.out w h).mono fun e w' ⟨he, hb⟩ => ⟨he, h.trans (hb.mono h.size)⟩) ?_; try simp only [Act.put, zT, z0, zS]
              repeat (first | (refine q_skip (by rfl) ?_; try simp only [Act.put, zT, z0, zS]) | (refine q_take (v := ?_) (by rfl) ?_ ?_; rotate_left; (first | ((intro w h; clear h; go_simp) <;> with_reducible rfl) | ((intro w h; obtain ⟨⟨y0, y1, y2⟩, x0⟩ := fX.out w h; clear h; go_simp) <;> with_reducible rfl)); try simp only [Act.put, zT, z0, zS]))
              refine q_nil ?_
              intro w6 k6
              replace k6 := Lib.hid k6
              go_wp2_with fail
              go_roundg ga
              case measure => omega
              case rel => exact ⟨1, hle.out, by go_num, hgo2, k6.out⟩
            · obtain ⟨j, hkj⟩ : ∃ j, k = j + 1 := ⟨k - 1, by omega⟩
              have hjl : j < l.length := by omega
              by_cases hy : l[j] < l[k]
              · have hgo2 : Hid (∀ i (h : i < l.length), i < k + 1 → l[i] ∈ keysV g.vs ∧ ∀ j (hj : j + 1 = i), l[j] < l[i]) := fun i h hi => by
                  rcases Nat.lt_or_ge i k with h1 | h1
                  · exact hgo.out i h h1
                  · have : i = k := by omega
                    subst this
                    exact ⟨hx, fun j2 hj => (by have h9 : j2 = j := (by omega); subst h9; exact hy)⟩
                have cy : ∀ W, Below w1.heap.size w1 W → W.cell? ⟨bv, ov + j, none⟩ = some (.int .i64 l[j]) := by
                  obtain ⟨b', o', h1, h2⟩ := cellD.out j (by omega)
                  injection h1 with h1
                  injection h1 with h1 h1'
                  subst h1 h1'
                  exact h2
                have fX := Lib.hid (fun W (q : Below w1.heap.size w1 W) => (show (W.cell? ⟨w.heap.size, 0, none⟩ = _ ∧ W.cell? ⟨w.heap.size, 1, none⟩ = _ ∧ W.cell? ⟨w.heap.size, 2, none⟩ = _) ∧ W.cell? ⟨bv, ov + k, none⟩ = some (.int .i64 l[k]) ∧ W.cell? ⟨bv, ov + j, none⟩ = some (.int .i64 l[j]) from ⟨hG1.out W q, cv W q, cy W q⟩))
                generalize l[k] = x at *
                generalize l[j] = y at *
                generalize plI (keysV g.vs) x = pk at *
                have p1 : ¬ pk < 0 := by omega
                have m0 : (0 : Int) < (k : Int) := by omega
                have m0n : 0 < k := by omega
                have m0d : decide (0 < k) = true := decide_eq_true m0n
                have m0e : decide ((0 : Int) < (k : Int)) = true := decide_eq_true m0
                have m0f : decide ((k : Int) > 0) = true := decide_eq_true m0
                have m2 : IntKind.i64.wrap ((k : Int) - 1) = (j : Int) := by rw [show ((k : Int) - 1) = (j : Int) by omega]; exact IntWalk.i64_in _ (by omega)
                have m3 : (0 : Int) ≤ (j : Int) := by omega
                have m4 : (j : Int) < (N : Int) := by omega
                have hy1 : ¬ x ≤ y := by omega
                have hy2 : decide (x ≤ y) = false := decide_eq_false hy1
                replace hkj := Lib.hid hkj
                clear hx hgo cv cy hk hlt B hy hk0
                go_upto_region 6 with (fail)
                refine q_region (fun W => Below w1.heap.size w1 W) (by kernel_rfl) (by kernel_rfl) (hB.out.drew) ?_
                repeat (first | (refine q_skip (by rfl) ?_; try simp only [Act.put, zT, z0, zS]) | (refine q_take (v := ?_) (by rfl) ?_ ?_; rotate_left; (first | ((intro w h; clear h; go_simp) <;> with_reducible rfl) | ((intro w h; obtain ⟨⟨y0, y1, y2⟩, x0, x1⟩ := fX.out w h; clear h; go_simp) <;> with_reducible rfl)); try simp only [Act.put, zT, z0, zS]))
                refine q_call (v := _) Try.f20 (by rfl) rfl Try.func20 (by kernel_rfl) (by kernel_rfl) #[.agg #[.slice a1 n1 a2, .slice b1 n2 b2, .slice c1v n3 c2], .int .i64 x] (by simp [Act.eval]) (fun w h => (hPx.out w h).mono fun e w' ⟨he, hb⟩ => ⟨he, h.trans (hb.mono h.size)⟩) ?_; try simp only [Act.put, zT, z0, zS]
                repeat (first | (refine q_skip (by rfl) ?_; try simp only [Act.put, zT, z0, zS]) | (refine q_take (v := ?_) (by rfl) ?_ ?_; rotate_left; (first | ((intro w h; clear h; go_simp) <;> with_reducible rfl) | ((intro w h; obtain ⟨⟨y0, y1, y2⟩, x0, x1⟩ := fX.out w h; clear h; go_simp) <;> with_reducible rfl)); try simp only [Act.put, zT, z0, zS]))
                refine q_nil ?_
                intro w6 k6
                replace k6 := Lib.hid k6
                go_wp2_with fail
                go_roundg ga
                case measure => omega
                case rel => exact ⟨k + 1, hle.out, by go_num, hgo2, k6.out⟩
              · have hfin : Hid (R = false) := by show _ = _; rw [hR2.out, sd_no2 j (by omega) (by simpa [← hkj] using hy)]; rfl
                have cy : ∀ W, Below w1.heap.size w1 W → W.cell? ⟨bv, ov + j, none⟩ = some (.int .i64 l[j]) := by
                  obtain ⟨b', o', h1, h2⟩ := cellD.out j (by omega)
                  injection h1 with h1
                  injection h1 with h1 h1'
                  subst h1 h1'
                  exact h2
                have fX := Lib.hid (fun W (q : Below w1.heap.size w1 W) => (show (W.cell? ⟨w.heap.size, 0, none⟩ = _ ∧ W.cell? ⟨w.heap.size, 1, none⟩ = _ ∧ W.cell? ⟨w.heap.size, 2, none⟩ = _) ∧ W.cell? ⟨bv, ov + k, none⟩ = some (.int .i64 l[k]) ∧ W.cell? ⟨bv, ov + j, none⟩ = some (.int .i64 l[j]) from ⟨hG1.out W q, cv W q, cy W q⟩))
                generalize l[k] = x at *
                generalize l[j] = y at *
                generalize plI (keysV g.vs) x = pk at *
                have p1 : ¬ pk < 0 := by omega
                have m0 : (0 : Int) < (k : Int) := by omega
                have m0n : 0 < k := by omega
                have m0d : decide (0 < k) = true := decide_eq_true m0n
                have m0e : decide ((0 : Int) < (k : Int)) = true := decide_eq_true m0
                have m0f : decide ((k : Int) > 0) = true := decide_eq_true m0
                have m2 : IntKind.i64.wrap ((k : Int) - 1) = (j : Int) := by rw [show ((k : Int) - 1) = (j : Int) by omega]; exact IntWalk.i64_in _ (by omega)
                have m3 : (0 : Int) ≤ (j : Int) := by omega
                have m4 : (j : Int) < (N : Int) := by omega
                have hy1 : x ≤ y := by omega
                have hy2 : decide (x ≤ y) = true := decide_eq_true hy1
                replace hkj := Lib.hid hkj
                clear hx hgo cv cy hk hlt B hy hk0
                go_upto_region 6 with (fail)
                refine q_region (fun W => Below w1.heap.size w1 W) (by kernel_rfl) (by kernel_rfl) (hB.out.drew) ?_
                repeat (first | (refine q_skip (by rfl) ?_; try simp only [Act.put, zT, z0, zS]) | (refine q_take (v := ?_) (by rfl) ?_ ?_; rotate_left; (first | ((intro w h; clear h; go_simp) <;> with_reducible rfl) | ((intro w h; obtain ⟨⟨y0, y1, y2⟩, x0, x1⟩ := fX.out w h; clear h; go_simp) <;> with_reducible rfl)); try simp only [Act.put, zT, z0, zS]))
                refine q_call (v := _) Try.f20 (by rfl) rfl Try.func20 (by kernel_rfl) (by kernel_rfl) #[.agg #[.slice a1 n1 a2, .slice b1 n2 b2, .slice c1v n3 c2], .int .i64 x] (by simp [Act.eval]) (fun w h => (hPx.out w h).mono fun e w' ⟨he, hb⟩ => ⟨he, h.trans (hb.mono h.size)⟩) ?_; try simp only [Act.put, zT, z0, zS]
                repeat (first | (refine q_skip (by rfl) ?_; try simp only [Act.put, zT, z0, zS]) | (refine q_take (v := ?_) (by rfl) ?_ ?_; rotate_left; (first | ((intro w h; clear h; go_simp) <;> with_reducible rfl) | ((intro w h; obtain ⟨⟨y0, y1, y2⟩, x0, x1⟩ := fX.out w h; clear h; go_simp) <;> with_reducible rfl)); try simp only [Act.put, zT, z0, zS]))
                refine q_nil ?_
                intro w6 k6
                replace k6 := Lib.hid k6
                go_wp2_with fail
                go_ret
                exact ⟨ret_bool hfin.out.symm, hB0.out.trans (k6.out.mono hB0.out.size)⟩
          · have p1 : plI (keysV g.vs) l[k] < 0 := (plI_neg _ _).2 hx
            have hfin : Hid (R = false) := by show _ = _; rw [hR2.out, sd_no1 ho.out k hkl hx]; rfl
            have fX := Lib.hid (fun W (q : Below w1.heap.size w1 W) => (show (W.cell? ⟨w.heap.size, 0, none⟩ = _ ∧ W.cell? ⟨w.heap.size, 1, none⟩ = _ ∧ W.cell? ⟨w.heap.size, 2, none⟩ = _) ∧ W.cell? ⟨bv, ov + k, none⟩ = some (.int .i64 l[k]) from ⟨hG1.out W q, cv W q⟩))
            generalize l[k] = x at *
            generalize plI (keysV g.vs) x = pk at *
            clear hx hgo cv hk hlt B
            go_upto_region 6 with (fail)
            refine q_region (fun W => Below w1.heap.size w1 W) (by kernel_rfl) (by kernel_rfl) (hB.out.drew) ?_
            repeat (first | (refine q_skip (by rfl) ?_; try simp only [Act.put, zT, z0, zS]) | (refine q_take (v := ?_) (by rfl) ?_ ?_; rotate_left; (first | ((intro w h; clear h; go_simp) <;> with_reducible rfl) | ((intro w h; obtain ⟨⟨y0, y1, y2⟩, x0⟩ := fX.out w h; clear h; go_simp) <;> with_reducible rfl)); try simp only [Act.put, zT, z0, zS]))
            refine q_call (v := _) Try.f20 (by rfl) rfl Try.func20 (by kernel_rfl) (by kernel_rfl) #[.agg #[.slice a1 n1 a2, .slice b1 n2 b2, .slice c1v n3 c2], .int .i64 x] (by simp [Act.eval]) (fun w h => (hPx.out w h).mono fun e w' ⟨he, hb⟩ => ⟨he, h.trans (hb.mono h.size)⟩) ?_; try simp only [Act.put, zT, z0, zS]
            repeat (first | (refine q_skip (by rfl) ?_; try simp only [Act.put, zT, z0, zS]) | (refine q_take (v := ?_) (by rfl) ?_ ?_; rotate_left; (first | ((intro w h; clear h; go_simp) <;> with_reducible rfl) | ((intro w h; obtain ⟨⟨y0, y1, y2⟩, x0⟩ := fX.out w h; clear h; go_simp) <;> with_reducible rfl)); try simp only [Act.put, zT, z0, zS]))
            refine q_nil ?_
            intro w6 k6
            replace k6 := Lib.hid k6
            go_wp2_with fail
            go_ret
            exact ⟨ret_bool hfin.out.symm, hB0.out.trans (k6.out.mono hB0.out.size)⟩
  · have hHa := Lib.hid (fun W q => hHas.out a W q)
    rw [decide_eq_false hma] at hHa
    have hR2 : Hid (R = false) := by show _ = _; rw [hR.out, decide_eq_false hma]; simp
    clear hR hho hma
    go_enter Try.func29, Try.ntmps29
    go_upto_region 1 with (fail)
    rw [← hw1.out]
    go_wp2_with fail
    refine hHo.out.mono ?_
    rintro e w2 ⟨rfl, b2⟩
    clear g0 g1 g2
    go_wp2_with fail
    refine (hHa.out w2 b2).mono ?_
    rintro e w3 ⟨rfl, rfl⟩
    go_wp2_with fail
    go_ret
    exact ⟨ret_bool hR2.out.symm, hB0.out.trans (b2.mono hB0.out.size)⟩

end Go.Proofs.Ytlnbobclbaieoaa
