/- Contracts and facts. -/
import Derived.Deep.LoopGhost
import Derived.Handy
import Derived.WalkMore
import Derived.Test.YthmkmjkbfjhffaaVFF
set_option linter.unusedSimpArgs false
set_option maxRecDepth 100000
set_option maxHeartbeats 4000000
namespace Go.Proofs.Ythmkmjkbfjhffaa
open Go.RowKit
theorem post_call {o : Oper} {a : Act} {w : World} {R : Value → World → Prop} {f : Nat} {xs : Array Operand} {ts : Array TypeId} (fn : Func) (ho : o.op = .call { callee := .value (.func f), args := xs, argTypes := ts }) (hf : Try.prog.funcs[f]? = some fn) (hn : (fn.name == "runtime.NumGoroutine") = false) (hb : fn.body.isNone = false) (args : Array Value) (hargs : xs.map a.eval = args)
    (hc : Calls Try.prog f args w fun e w'' => ∃ v, e = .returned v ∧ R v w'') : Rel.post Try.prog o a w R := by
  have hrun : (execOp a.eval o).run Try.prog w = .ok (.enter f args) w := by
    simp only [execOp, ho, resolve, Act.eval, Deferred.ofValue, invoke, callFunc, Sem.run_bind, Sem.run_pure, Result.andThen_ok, hargs]
    have hn' : ¬ fn.name = "runtime.NumGoroutine" := by simpa using hn
    have hb' : ¬ fn.body = none := by intro e; rw [e] at hb; cases hb
    simp [hf, hn', hb']
  unfold Rel.post
  rw [hrun]; exact hc
theorem post_skip' {o : Oper} {a : Act} {w : World} {R : Value → World → Prop} (w' : World) (hr : (execOp a.eval o).run Try.prog w = .ok .skip w') (h : R undef w') : Rel.post Try.prog o a w R := by
  unfold Rel.post
  rw [hr]; exact h
theorem PMV.put {W : World} {mb : Nat} {m : PM} (h : PMV W mb m) (i : Int) (p : Pl) : ∃ W', (Instr.mapUpdate 69 (.map (some mb)) (.int .i64 i) (plV p)).run Try.prog W = .ok () W' ∧ PMV W' mb (putP m i p) ∧ W.grownBy W' (some mb) ∧ W'.heap.size = W.heap.size := by
  obtain ⟨W', h1, h2, h3, h4⟩ := MI.MI.write Try.underlying69 Try.underlying3 h i (plV p)
  refine ⟨W', h1, MI.MI.congr h2 (fun k => ?_), h3, h4⟩
  show (if k = i then some (plV p) else (m k).map plV) = (putP m i p k).map plV
  unfold putP
  split <;> rfl
theorem box3g {W : World} {b : Nat} {x y z : Value} {t : TypeId} (h : W.heap[b]? = some (.cells #[x, y, z] t (0, 0))) : W.cell? ⟨b, 0, none⟩ = some x ∧ W.cell? ⟨b, 1, none⟩ = some y ∧ W.cell? ⟨b, 2, none⟩ = some z :=
  ⟨by rw [cell_of_row _ _ _ _ _ _ h]; rfl, by rw [cell_of_row _ _ _ _ _ _ h]; rfl, by rw [cell_of_row _ _ _ _ _ _ h]; rfl⟩
set_option maxRecDepth 100000 in
theorem grow_any (v : Value) (g : Gr) (w : World) (hv : GV w v g) (hn : g.vs.length ≤ 24 ∧ g.es.length ≤ 1000) (G : GrOk g.es (keysV g.vs)) :
    Calls Try.prog 29 #[v] w fun e w' => ∃ mb, e = .returned (.map (some mb)) ∧ w.heap.size ≤ mb ∧ mb < w'.heap.size ∧ PMV w' mb (growF g.es (keysV g.vs)) ∧ Below w.heap.size w w' := by
  obtain ⟨a1, a2, b1, b2, c1v, c2, rfl, hv1, hv2, hv3⟩ := gv_shape hv
  obtain ⟨S, hS⟩ : ∃ S : Nat → PM, ∀ k, S k = ((keysV g.vs).take k).foldl (growE g.es) (spreadF g.es (keysV g.vs)).m := ⟨_, fun _ => rfl⟩
  have hV : (keysV g.vs).length ≤ 24 := by simpa [keysV] using hn.1
  obtain ⟨hI, hAll⟩ := spread_inv G hV
  have hDep := Lib.hid (fun (k : Nat) (x : Int) (hx : x ∈ keysV g.vs) => (show 0 ≤ (gp (S k) x).depth ∧ (gp (S k) x).depth ≤ 24 by
    have h1 := (grow_fold g.es (spreadF g.es (keysV g.vs)).m ((keysV g.vs).take k) (spreadF g.es (keysV g.vs)).m (List.Nodup.sublist (List.take_sublist _ _) G.nodup) (fun _ => ⟨rfl, rfl⟩) (fun _ _ => rfl)).1 x
    rw [← hS] at h1
    obtain ⟨p, hp⟩ := Option.isSome_iff_exists.1 (hAll x hx)
    rw [h1.2, gp_some hp]
    have h2 := hI.inv.lo x p hp
    have h3 := hI.inv.hi x p hp
    omega))
  have hStep := Lib.hid (fun (k : Nat) (hk : k < g.vs.length) => (show S (k + 1) = putP (S k) g.vs[k].id ⟨(gp (S k) g.vs[k].id).root, (gp (S k) g.vs[k].id).depth, upF (S k) g.vs[k].id (atF g.es g.vs[k].id)⟩ by
    have hk' : k < (keysV g.vs).length := by simpa [keysV] using hk
    rw [hS, hS, List.take_succ_eq_append_getElem hk', List.foldl_append]
    simp [keysV, growE]))
  have hEnd : Hid (S g.vs.length = growF g.es (keysV g.vs)) := by
    show _ = _
    rw [hS, List.take_of_length_le (by simp [keysV])]; rfl
  have hS0 : Hid (S 0 = (spreadF g.es (keysV g.vs)).m) := by show _ = _; rw [hS]; rfl
  have cellV := Lib.hid hv1.cells
  have hId := Lib.hid (fun k (hk : k < g.vs.length) => (show g.vs[k].id ∈ keysV g.vs from List.mem_map.2 ⟨_, List.getElem_mem hk, rfl⟩))
  have hsp := Lib.hid (fun W (B : Below w.heap.size w W) => spread_any _ g W (hv.below B) hn G)
  obtain ⟨N, hN⟩ : ∃ N, Hid (N = g.vs.length) := ⟨_, rfl⟩
  rw [← hN.out] at hEnd hsp hv ⊢
  have hGV := Lib.hid (fun W (B : Below w.heap.size w W) => hv.below B)
  have hN24 : N ≤ 24 := by rw [hN.out]; exact hn.1
  have hn2 := Lib.hid hn.2
  obtain ⟨W0, hW0⟩ : ∃ W0, W0 = w.alloc (.cells #[.slice a1 N a2, .slice b1 g.es.length b2, .slice c1v g.ds.length c2] 28) := ⟨_, rfl⟩
  have gb : W0.heap[w.heap.size]? = some (.cells #[.slice a1 N a2, .slice b1 g.es.length b2, .slice c1v g.ds.length c2] 28 (0, 0)) := by rw [hW0]; exact heap_alloc_new w _
  have hB0 : Below w.heap.size w W0 := by rw [hW0]; exact (Below.refl _ w).alloc (Nat.le_refl _) _
  have hs0 : W0.heap.size = w.heap.size + 1 := by rw [hW0]; simp
  obtain ⟨g0, g1, g2⟩ := box3g gb
  replace hW0 := Lib.hid hW0
  clear hS hV hI hAll hv hv1 hv2 hv3
  go_enter Try.func29, Try.ntmps29
  go_upto_region 1 with (fail)
  rw [← hW0.out]
  go_wp2_with fail
  refine (hsp.out W0 hB0).mono ?_
  rintro e W1 ⟨mb, rfl, hm1, hm2, hP, B1⟩
  have gb1 : W1.heap[w.heap.size]? = some (.cells #[.slice a1 N a2, .slice b1 g.es.length b2, .slice c1v g.ds.length c2] 28 (0, 0)) := (B1.block _ (by omega)).trans gb
  have hB1 := Lib.hid (hB0.trans (B1.mono (by omega)))
  have hmb : Hid (w.heap.size < mb) := by show _ < _; omega
  rw [← hS0.out] at hP
  replace hP := Lib.hid hP
  clear g0 g1 g2
  obtain ⟨g0, g1, g2⟩ := box3g gb1
  replace gb1 := Lib.hid gb1
  clear gb hB0 B1 hs0 hm1 hS0
  go_wp2_with fail
  go_loopg [12] N (fun n iv wr => ∃ k : Nat, k + n = N ∧ iv = .int .i64 k ∧ PMV wr mb (S k) ∧ Below w.heap.size w wr ∧ mb < wr.heap.size ∧ wr.heap[w.heap.size]? = some (.cells #[.slice a1 N a2, .slice b1 g.es.length b2, .slice c1v g.ds.length c2] 28 (0, 0)))
  case atStart => exact ⟨0, by omega, rfl, hP.out, hB1.out, hm2, gb1.out⟩
  case round =>
    clear g0 g1 g2 hP gb1 hm2 hB1
    obtain ⟨k, hk, rfl, hP, B, hm2, gb⟩ := hrel
    obtain ⟨wo, rfl⟩ : ∃ x, x = wr := ⟨_, rfl⟩
    cases gk with
    | zero =>
      have hk2 : k = N := by omega
      have i1 : ¬ (k : Int) < (N : Int) := by omega
      rw [hk2, hEnd.out] at hP
      replace hP := Lib.hid hP
      replace B := Lib.hid B
      clear hk2 hk gb
      go_wp2_with fail
      go_ret
      exact ⟨mb, rfl, Nat.le_of_lt hmb.out, hm2, hP.out, B.out⟩
    | succ ga =>
      have hlt : k < N := by omega
      have hkl : k < g.vs.length := by rw [← hN.out]; exact hlt
      obtain ⟨bv, ov, rfl, cv⟩ := cellV.out k hkl
      obtain ⟨d0, d1⟩ := cv wo B
      have i0 : (0 : Int) ≤ (k : Int) := by omega
      have i1 : (k : Int) < (N : Int) := by omega
      have hst := Lib.hid (hStep.out k hkl)
      have hid := Lib.hid (hId.out k hkl)
      have hdp := Lib.hid (hDep.out k _ hid.out)
      have hle : Hid (k + 1 + ga = N) := by show _ = _; omega
      generalize g.vs[k].id = r at *
      generalize g.vs[k].side = sd at *
      generalize hSk : S k = m at *
      generalize hSk1 : S (k + 1) = m' at *
      obtain ⟨W1, hW1⟩ : ∃ W1, W1 = (wo.alloc (.cells #[.int .i64 r, .int .i64 sd] 31)).alloc (.cells #[.int .i64 (gp m r).root, .int .i64 (gp m r).depth, .int .i64 (gp m r).edge] 72) := ⟨_, rfl⟩
      have B1 : Below wo.heap.size wo W1 := by rw [hW1]; exact ((Below.refl _ wo).alloc (Nat.le_refl _) _).alloc (by simp) _
      have hs1 : W1.heap.size = wo.heap.size + 2 := by rw [hW1]; simp
      have vb : W1.heap[wo.heap.size]? = some (.cells #[.int .i64 r, .int .i64 sd] 31 (0, 0)) := by rw [hW1, Below.heap_alloc _ _ _ (by simp)]; exact two_cells _ _ _ _
      have pb : W1.heap[wo.heap.size + 1]? = some (.cells #[.int .i64 (gp m r).root, .int .i64 (gp m r).depth, .int .i64 (gp m r).edge] 72 (0, 0)) := by
        rw [hW1]
        have := heap_alloc_new (wo.alloc (.cells #[.int .i64 r, .int .i64 sd] 31)) (.cells #[.int .i64 (gp m r).root, .int .i64 (gp m r).depth, .int .i64 (gp m r).edge] 72)
        simpa using this
      have hP1 := hP.below B1 hm2
      have hget0 : (Instr.lookup 69 (.map (some mb)) (.int .i64 r) false).run Try.prog (wo.alloc (.cells #[.int .i64 r, .int .i64 sd] 31)) = .ok (.agg #[.int .i64 (gp m r).root, .int .i64 (gp m r).depth, .int .i64 (gp m r).edge]) (wo.alloc (.cells #[.int .i64 r, .int .i64 sd] 31)) := PMV.get (hP.below (B := (Below.refl _ wo).alloc (Nat.le_refl _) _) hm2) r
      have gb2 : W1.heap[w.heap.size]? = some (.cells #[.slice (some ⟨bv, ov, none⟩) N a2, .slice b1 g.es.length b2, .slice c1v g.ds.length c2] 28 (0, 0)) := (B1.block _ (by have := hmb.out; omega)).trans gb
      have hz1 : w.heap.size < W1.heap.size := by have h1 := hmb.out; omega
      have hV1 := Lib.hid (fun W (q : Below W1.heap.size W1 W) => (show W.cell? ⟨wo.heap.size, 0, none⟩ = some (.int .i64 r) by rw [cell_of_row _ _ _ _ _ _ ((q.block _ (by omega)).trans vb)]; rfl))
      have hG1 := Lib.hid (fun W (q : Below W1.heap.size W1 W) => box3g ((q.block _ (by omega)).trans gb2))
      have hAt := Lib.hid (fun W (q : Below W1.heap.size W1 W) => At_own _ g r W (hGV.out W ((B.trans (B1.mono B.size)).trans (q.mono (B.trans (B1.mono B.size)).size))) (by have := hn2.out; omega))
      have hUp := Lib.hid (fun W (q : Below W1.heap.size W1 W) (x : Value) (hx : EL W x (atF g.es r)) => up_any r x (atF g.es r) mb m W hx (hP1.below q (by omega)) (by have := q.size; omega) (by have := atF_len g.es r; have := hn2.out; omega) (by have := hdp.out; omega))
      generalize hl : atF g.es r = l at *
      obtain ⟨u, hu⟩ : ∃ u, Hid (u = upF m r l) := ⟨_, rfl⟩
      rw [← hu.out] at hUp hst
      replace hW1 := Lib.hid hW1
      replace hSk := Lib.hid hSk
      replace hSk1 := Lib.hid hSk1
      replace hl := Lib.hid hl
      have hB2 := Lib.hid (B.trans (B1.mono B.size))
      have hP2 := Lib.hid hP1
      clear hP cv hk hkl hlt B1 gb B hP1 vb
      go_upto_region 6 with (fail)
      rw [← hW1.out]
      refine Rel.b_region W1 [some (.pointer (some ⟨wo.heap.size, 0, none⟩)), some (.int .i64 r), some (.agg #[.slice (some ⟨bv, ov, none⟩) N a2, .slice b1 g.es.length b2, .slice c1v g.ds.length c2]), some (.pointer (some ⟨wo.heap.size, 0, none⟩)), some (.int .i64 r), none, some (.map (some mb)), none, some (.pointer (some ⟨wo.heap.size + 1, 2, none⟩)), none] (fun i v W => match i with
        | 5 => EL W v l
        | 7 => v = .int .i64 u
        | _ => True) (fun _ W => ∃ W9, Below W1.heap.size W1 W9 ∧ W = W9.setCell ⟨wo.heap.size + 1, 2, none⟩ (.int .i64 u)) 9 (by kernel_rfl) (by kernel_rfl) rfl (fun i v W W' h Bl => by split at h <;> first | exact trivial | exact h | exact EL.below h Bl) (fun _ _ _ _ h => h) ((Below.refl _ W1).drew) (fun vals hO => ?_)
      refine Rel.b_pure (.pointer (some ⟨wo.heap.size, 0, none⟩)) rfl (by decide) (hO 0 _ rfl) (by rfl) (fun w hC hd => ?_) ?_
      · clear hd hO; go_simp
      try simp only [Act.put, zT, z0, zS]
      refine Rel.b_pure (.int .i64 r) rfl (by decide) (hO 1 _ rfl) (by rfl) (fun w hC hd => ?_) ?_
      · have t0 := hV1.out w hC; clear hd hO; go_simp
      try simp only [Act.put, zT, z0, zS]
      refine Rel.b_pure (.agg #[.slice (some ⟨bv, ov, none⟩) N a2, .slice b1 g.es.length b2, .slice c1v g.ds.length c2]) rfl (by decide) (hO 2 _ rfl) (by rfl) (fun w hC hd => ?_) ?_
      · obtain ⟨t0, t1, t2⟩ := hG1.out w hC; clear hd hO; go_simp
      try simp only [Act.put, zT, z0, zS]
      refine Rel.b_pure (.pointer (some ⟨wo.heap.size, 0, none⟩)) rfl (by decide) (hO 3 _ rfl) (by rfl) (fun w hC hd => ?_) ?_
      · clear hd hO; go_simp
      try simp only [Act.put, zT, z0, zS]
      refine Rel.b_pure (.int .i64 r) rfl (by decide) (hO 4 _ rfl) (by rfl) (fun w hC hd => ?_) ?_
      · have t0 := hV1.out w hC; clear hd hO; go_simp
      try simp only [Act.put, zT, z0, zS]
      refine Rel.b_rel rfl (by decide) (by rfl) (fun w hC hd => ?_) ?_
      · refine post_call Try.f12 rfl Try.func12 (by kernel_rfl) (by kernel_rfl) #[.agg #[.slice (some ⟨bv, ov, none⟩) N a2, .slice b1 g.es.length b2, .slice c1v g.ds.length c2], .int .i64 r] (by simp [Act.eval]) ((hAt.out w hC).mono ?_)
        rintro e w2 ⟨x, rfl, hx, bx⟩
        exact ⟨x, rfl, bx, hx.EL⟩
      try simp only [Act.put, zT, z0, zS]
      refine Rel.b_pure (.map (some mb)) rfl (by decide) (hO 6 _ rfl) (by rfl) (fun w hC hd => ?_) ?_
      · clear hd hO; go_simp
      try simp only [Act.put, zT, z0, zS]
      refine Rel.b_rel rfl (by decide) (by rfl) (fun w hC hd => ?_) ?_
      · have h5 := hd 5 (by decide)
        refine post_call Try.f46 rfl Try.func46 (by kernel_rfl) (by kernel_rfl) #[.int .i64 r, vals 5, .map (some mb)] (by simp [Act.eval]) ((hUp.out w hC (vals 5) h5).mono ?_)
        rintro e w2 ⟨rfl, bx⟩
        exact ⟨_, rfl, bx, rfl⟩
      try simp only [Act.put, zT, z0, zS]
      refine Rel.b_pure (.pointer (some ⟨wo.heap.size + 1, 2, none⟩)) rfl (by decide) (hO 8 _ rfl) (by rfl) (fun w hC hd => ?_) ?_
      · clear hd hO; go_simp
      try simp only [Act.put, zT, z0, zS]
      refine Rel.b_last rfl (by rfl) (fun w hC hd => ?_) ?_
      · have h7 : vals 7 = .int .i64 u := hd 7 (by decide)
        have hpb := (hC.block _ (by omega)).trans pb
        have t2 : w.cell? ⟨wo.heap.size + 1, 2, none⟩ = some (.int .i64 (gp m r).edge) := (box3g hpb).2.2
        have f2 : w.frozen? ⟨wo.heap.size + 1, 2, none⟩ = false := frozen_of_row _ _ _ _ _ hpb
        rw [h7]
        refine post_skip' (w.setCell ⟨wo.heap.size + 1, 2, none⟩ (.int .i64 u)) ?_ ⟨w, hC, rfl⟩
        clear hd hO; go_simp
      try simp only [Act.put, zT, z0, zS]
      refine Rel.b_end ?_
      intro wz hF
      obtain ⟨W9, B9, hwz⟩ : ∃ W9, Below W1.heap.size W1 W9 ∧ wz = W9.setCell ⟨wo.heap.size + 1, 2, none⟩ (.int .i64 u) := by simpa using hF
      clear hF hO hUp hAt
      have hs9 := B9.size
      have pb9 : wz.heap[wo.heap.size + 1]? = some (.cells #[.int .i64 (gp m r).root, .int .i64 (gp m r).depth, .int .i64 u] 72 (0, 0)) := by rw [hwz]; exact heap_setCell_same W9 _ 2 _ 72 _ ((B9.block _ (by omega)).trans pb)
      have ko : ∀ j, j < wo.heap.size + 2 → j ≠ wo.heap.size + 1 → wz.heap[j]? = W1.heap[j]? := fun j h1 h2 => by rw [hwz, heap_setCell_other _ _ _ _ (by simpa using h2)]; exact B9.block j (by omega)
      have vz : wz.cell? ⟨wo.heap.size, 0, none⟩ = some (.int .i64 r) := by
        have h1 := hV1.out W1 (Below.refl _ _)
        rw [World.cell?_of_block (a := ⟨wo.heap.size, 0, none⟩) (ko wo.heap.size (by omega) (by omega))]; exact h1
      obtain ⟨z0, z1, z2⟩ := box3g pb9
      have hPz : PMV wz mb m := MI.MI.of hP2.out (ko mb (by omega) (by omega))
      obtain ⟨W11, r11, P11, g11, s11⟩ := hPz.put r ⟨(gp m r).root, (gp m r).depth, u⟩
      have hsz : wo.heap.size + 2 ≤ wz.heap.size := by rw [hwz]; simp; omega
      have Bz : Below w.heap.size w wz := by
        have h1 := hmb.out
        refine (hB2.out.trans (B9.mono (by omega))).trans ?_
        rw [hwz]; exact (Below.refl _ W9).setCell (by simp; omega) _
      have hB3 := Lib.hid (Bz.grown g11 (by omega) (fun k e => by injection e with e; have := hmb.out; omega))
      have hwq : w.heap.size < wo.heap.size := by have h1 := hmb.out; omega
      have gb3 : Hid (W11.heap[w.heap.size]? = some (.cells #[.slice (some ⟨bv, ov, none⟩) N a2, .slice b1 g.es.length b2, .slice c1v g.ds.length c2] 28 (0, 0))) := (g11.block _ (by omega) (fun e => by injection e with e; have := hmb.out; omega)).trans ((ko _ (by omega) (by omega)).trans gb2)
      have hP3 : Hid (PMV W11 mb m') := by show PMV W11 mb m'; rw [hst.out]; exact P11
      have hm3 : Hid (mb < W11.heap.size) := by show _ < _; omega
      unfold plV at r11
      clear pb9 ko hPz P11 g11 s11 Bz B9 hwz hV1 hG1 gb2 pb hB2
      go_wp2_with fail
      go_roundg ga
      case measure => omega
      case rel => exact ⟨k + 1, hle.out, by go_num, by rw [hSk1.out]; exact hP3.out, hB3.out, hm3.out, gb3.out⟩

end Go.Proofs.Ythmkmjkbfjhffaa
