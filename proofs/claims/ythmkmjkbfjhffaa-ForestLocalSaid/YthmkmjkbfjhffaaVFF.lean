/- Contracts and facts. -/
import Derived.Deep.LoopGhost
import Derived.Handy
import Derived.WalkMore
import Derived.Test.YthmkmjkbfjhffaaVFA
set_option linter.unusedSimpArgs false
set_option maxRecDepth 100000
set_option maxHeartbeats 4000000
namespace Go.Proofs.Ythmkmjkbfjhffaa
open Go.RowKit
theorem spread_start (w : World) (gcs : Array Value) : SpW w ((((w.alloc (.cells gcs 28)).alloc (.map #[] 0)).alloc (.cells #[.map (some (w.heap.size + 1))] 69)).alloc (.cells #[.slice none 0 0] 26)) gcs w.heap.size ⟨fun _ => none, []⟩ := by
  have B : Below w.heap.size w ((((w.alloc (.cells gcs 28)).alloc (.map #[] 0)).alloc (.cells #[.map (some (w.heap.size + 1))] 69)).alloc (.cells #[.slice none 0 0] 26)) := ((((Below.refl _ w).alloc (Nat.le_refl _) _).alloc (by simp) _).alloc (by simp; omega) _).alloc (by simp; omega) _
  have h0 := heap_alloc_new w (.cells gcs 28)
  have h1 := MI.MI.made (w.alloc (.cells gcs 28))
  have h2 := heap_alloc_new ((w.alloc (.cells gcs 28)).alloc (.map #[] 0)) (.cells #[.map (some (w.heap.size + 1))] 69)
  have h3 := heap_alloc_new (((w.alloc (.cells gcs 28)).alloc (.map #[] 0)).alloc (.cells #[.map (some (w.heap.size + 1))] 69)) (.cells #[.slice none 0 0] 26)
  simp only [World.size_alloc] at h1 h2 h3
  have k : ∀ (W : World) (o o' : Obj) (j : Nat), W.heap[j]? = some o → (W.alloc o').heap[j]? = some o := fun W o o' j e => (Below.heap_alloc W o' j (Array.getElem?_eq_some_iff.1 e).1).trans e
  refine ⟨k _ _ _ _ (k _ _ _ _ (k _ _ _ _ h0)), ?_, k _ _ _ _ h2, ⟨_, h3, QI.nil _ _⟩, by simp, B⟩
  refine MI.MI.congr (m := fun _ => none) (MI.MI.of h1 ?_) (fun _ => rfl)
  obtain ⟨es, clk, e, _⟩ := h1
  rw [k _ _ _ _ (k _ _ _ _ e), e]
theorem VL.cells {w : World} {b1 : Option Addr} {n c : Nat} {l : List Vx} (hv : VL w (.slice b1 n c) l) : ∀ (k : Nat) (_ : k < l.length), ∃ b o, b1 = some ⟨b, o, none⟩ ∧ ∀ W, Below w.heap.size w W → W.cell? ⟨b, o + k * 2, none⟩ = some (.int .i64 l[k].id) ∧ W.cell? ⟨b, o + k * 2 + 1, none⟩ = some (.int .i64 l[k].side) := fun k hk => by
  obtain ⟨b, o, c, he, e1, e2, e3⟩ := hv.own (fun e => by rw [e] at hk; simp at hk)
  injection he with he1 he2 he3
  exact ⟨b, o, he1, fun W B => (e3.below e2 B) k _ (List.getElem?_eq_getElem hk)⟩
theorem two_cells (W : World) (a b : Value) (t : TypeId) : (W.alloc (.cells #[a, b] t)).heap[W.heap.size]? = some (.cells #[a, b] t (0, 0)) := heap_alloc_new W _
theorem SpW.pop {w0 W : World} {gcs : Array Value} {b : Nat} {s : St} (h : SpW w0 W gcs b s) {qv : Value} (h3 : W.heap[b + 3]? = some (.cells #[qv] 26 (0, 0))) (v' : Value) (q : QI W (b + 4) v' s.q.tail) : SpW w0 (W.setCell ⟨b + 3, 0, none⟩ v') gcs b (popF s) := by
  have o : ∀ k, k ≠ b + 3 → (W.setCell ⟨b + 3, 0, none⟩ v').heap[k]? = W.heap[k]? := fun k hk => heap_setCell_other W _ k v' hk
  exact ⟨(o _ (by omega)).trans h.gbox, MI.MI.of h.map (o _ (by omega)), (o _ (by omega)).trans h.pbox, ⟨v', heap_setCell_same W (b + 3) 0 _ 26 v' h3, q.of fun g _ hg _ => o g (by omega)⟩, by simpa using h.sz, h.below.setCell (by simp) _⟩
theorem qi_tail {W : World} {base g o cap L : Nat} {cur : Array Value} {a : Int} {t : List Int} (hb : base ≤ g) (hh : W.heap[g]? = some (.cells cur 3 (0, 0))) (hL : L + 1 = (a :: t).length) (hc : L + 1 ≤ cap) (hm : cap ≤ 9223372036854775807) (hs : o + cap ≤ cur.size)
    (hx : ∀ j x, (a :: t)[j]? = some x → W.cell? ⟨g, o + j, none⟩ = some (.int .i64 x)) : QI W base (.slice (some ⟨g, o + 1, none⟩) L (cap - 1)) t ∧ (cap = 1 → QI W base (.slice (some ⟨g, o, none⟩) L 0) t) := by
  simp only [List.length_cons] at hL
  have e : L = t.length := by omega
  subst e
  refine ⟨.inr ⟨g, o + 1, cap - 1, cur, rfl, hb, hh, by omega, by omega, by omega, fun j x h => ?_⟩, fun h1 => .inr ⟨g, o, 0, cur, rfl, hb, hh, by omega, by omega, by omega, fun j x h => ?_⟩⟩
  · have := hx (j + 1) x (by simpa using h)
    rw [show o + 1 + j = o + (j + 1) by omega]; exact this
  · have := (List.getElem?_eq_some_iff.1 h).1; omega
theorem KM.own {b b' : Nat} {W W' : World} {v : Value} {l : List Ed} (k : KM b W W') (h : OwnEd W b' v l) (hb : b + 4 ≤ b') : OwnEd W' b' v l := by
  refine ⟨h.1, h.2.imp id fun ⟨g, cap, cur, h1, h2, h3, h4⟩ => ⟨g, cap, cur, h1, h2, k.keep g _ h3 (by omega) (by omega) (fun _ cs e => by injection e with _ e; cases e), h4⟩⟩
theorem OwnEd.below {b' : Nat} {W W' : World} {v : Value} {l : List Ed} (h : OwnEd W b' v l) (B : Below W.heap.size W W') : OwnEd W' b' v l :=
  ⟨h.1, h.2.imp id fun ⟨g, cap, cur, h1, h2, h3, h4⟩ => ⟨g, cap, cur, h1, h2, (B.block g (Array.getElem?_eq_some_iff.1 h3).1).trans h3, h4⟩⟩
set_option maxRecDepth 100000 in
theorem spread_any (v : Value) (g : Gr) (w : World) (hv : GV w v g) (hn : g.vs.length ≤ 24 ∧ g.es.length ≤ 1000) (G : GrOk g.es (keysV g.vs)) :
    Calls Try.prog 51 #[v] w fun e w' => ∃ mb, e = .returned (.map (some mb)) ∧ w.heap.size ≤ mb ∧ mb < w'.heap.size ∧ PMV w' mb (spreadF g.es (keysV g.vs)).m ∧ Below w.heap.size w w' := by
  obtain ⟨a1, a2, b1, b2, c1v, c2, rfl, hv1, hv2, hv3⟩ := gv_shape hv
  obtain ⟨W0, hW0⟩ : ∃ W0, W0 = ((((w.alloc (.cells #[.slice a1 g.vs.length a2, .slice b1 g.es.length b2, .slice c1v g.ds.length c2] 28)).alloc (.map #[] 0)).alloc (.cells #[.map (some (w.heap.size + 1))] 69)).alloc (.cells #[.slice none 0 0] 26)) := ⟨_, rfl⟩
  have hS0 := Lib.hid (spread_start w #[.slice a1 g.vs.length a2, .slice b1 g.es.length b2, .slice c1v g.ds.length c2])
  rw [← hW0] at hS0
  have hmm : ∀ t, (Instr.makeMap t none).run Try.prog (w.alloc (.cells #[.slice a1 g.vs.length a2, .slice b1 g.es.length b2, .slice c1v g.ds.length c2] 28)) = .ok (.map (some (w.heap.size + 1))) ((w.alloc (.cells #[.slice a1 g.vs.length a2, .slice b1 g.es.length b2, .slice c1v g.ds.length c2] 28)).alloc (.map #[] 0)) := fun t => by rw [run_makeMap]; simp
  replace hW0 := Lib.hid hW0
  have hB0 : Below w.heap.size w W0 := hS0.out.below
  have g0 : W0.cell? ⟨w.heap.size, 0, none⟩ = some (.slice a1 g.vs.length a2) := by rw [cell_of_row _ _ _ _ _ _ hS0.out.gbox]; rfl
  go_enter Try.func51, Try.ntmps51
  go_wp2_with fail
  go_step3
  go_wp2_with fail
  go_step3
  go_upto_region 4 with (fail)
  rw [← hW0.out]
  go_wp2_with fail
  obtain ⟨S, hS⟩ : ∃ S : Nat → St, ∀ k, S k = ((keysV g.vs).take k).foldl (spreadV g.es) ⟨fun _ => none, []⟩ := ⟨_, fun _ => rfl⟩
  have hV : (keysV g.vs).length ≤ 24 := by simpa [keysV] using hn.1
  have hInv := Lib.hid (fun k => (show InvV g.es (keysV g.vs) (S k) by rw [hS]; exact (spread_fold G hV _ (s := ⟨fun _ => none, []⟩) ⟨Inv.empty _ _, rfl, fun k p h => by simp at h⟩ (fun x hx => (List.take_subset _ _) hx)).1))
  have hStep := Lib.hid (fun (k : Nat) (hk : k < g.vs.length) => (show S (k + 1) = spreadV g.es (S k) (g.vs[k].id) by
    have hk' : k < (keysV g.vs).length := by simpa [keysV] using hk
    rw [hS, hS, List.take_succ_eq_append_getElem hk', List.foldl_append]
    simp [keysV]))
  have hEnd : Hid ((S g.vs.length).m = (spreadF g.es (keysV g.vs)).m) := by
    show _ = _
    rw [hS, List.take_of_length_le (by simp [keysV])]; rfl
  have hS1 : Hid (SpW w W0 #[.slice a1 g.vs.length a2, .slice b1 g.es.length b2, .slice c1v g.ds.length c2] w.heap.size (S 0)) := by rw [hS]; exact hS0.out
  have cellV := Lib.hid hv1.cells
  have hId : ∀ k (hk : k < g.vs.length), g.vs[k].id ∈ keysV g.vs := fun k hk => List.mem_map.2 ⟨_, List.getElem_mem hk, rfl⟩
  replace hId := Lib.hid hId
  obtain ⟨N, hN⟩ : ∃ N, Hid (N = g.vs.length) := ⟨_, rfl⟩
  rw [← hN.out] at hEnd hS1 ⊢
  rw [← hN.out] at hv
  have hGV := Lib.hid (fun W (B : Below w.heap.size w W) => hv.below B)
  have hn2 := hn.2
  have hN24 : N ≤ 24 := by rw [hN.out]; exact hn.1
  replace hn := Lib.hid hn
  obtain ⟨gcs, hgcs⟩ : ∃ gcs, Hid (gcs = #[Value.slice a1 N a2, .slice b1 g.es.length b2, .slice c1v g.ds.length c2]) := ⟨_, rfl⟩
  rw [← hgcs.out] at hS1
  clear hS0 hmm g0 hB0 hS hv hv1 hv2 hv3 hV
  replace hn2 := Lib.hid hn2
  go_loopg [21] N (fun gk iv wr => ∃ k : Nat, k + gk = N ∧ iv = .int .i64 k ∧ SpW w wr gcs w.heap.size (S k))
  case atStart => exact ⟨0, by omega, rfl, hS1.out⟩
  case round =>
    obtain ⟨k, hk, rfl, hW⟩ := hrel
    cases gk with
    | zero =>
      have hk2 : k = N := by omega
      have i1 : ¬ (k : Int) < (N : Int) := by omega
      rw [hk2] at hW
      have p0 : wr.cell? ⟨w.heap.size + 2, 0, none⟩ = some (.map (some (w.heap.size + 1))) := by rw [cell_of_row _ _ _ _ _ _ hW.pbox]; rfl
      have hfin := Lib.hid hW
      clear hk2 hk hW
      go_wp2_with fail
      try rw [Exit.noGoto_ret]
      go_ret
      refine ⟨_, rfl, by omega, by have := hfin.out.sz; omega, ?_, hfin.out.below⟩
      rw [← hEnd.out]; exact hfin.out.map
    | succ ga =>
      obtain ⟨wo, rfl⟩ : ∃ x, x = wr := ⟨_, rfl⟩
      have hlt : k < N := by omega
      have hkl : k < g.vs.length := by rw [← hN.out]; exact hlt
      obtain ⟨bv, ov, rfl, cv⟩ := cellV.out k hkl
      obtain ⟨d0, d1⟩ := cv wo hW.below
      have i0 : (0 : Int) ≤ (k : Int) := by omega
      have i1 : (k : Int) < (N : Int) := by omega
      have hst := Lib.hid (hStep.out k hkl)
      have hid := Lib.hid (hId.out k hkl)
      have hiv := Lib.hid (hInv.out k)
      have hle : Hid (k + 1 + ga = N) := by show _ = _; omega
      obtain ⟨W1, hW1⟩ : ∃ W1, W1 = wo.alloc (.cells #[.int .i64 g.vs[k].id, .int .i64 g.vs[k].side] 31) := ⟨_, rfl⟩
      have B1 : Below wo.heap.size wo W1 := by rw [hW1]; exact (Below.refl _ wo).alloc (Nat.le_refl _) _
      have hS2 := hW.to B1
      have vb1 : W1.heap[wo.heap.size]? = some (.cells #[.int .i64 g.vs[k].id, .int .i64 g.vs[k].side] 31 (0, 0)) := by rw [hW1]; exact two_cells _ _ _ _
      generalize g.vs[k].id = r at *
      generalize g.vs[k].side = sd at *
      have v0 : W1.cell? ⟨wo.heap.size, 0, none⟩ = some (.int .i64 r) := by rw [cell_of_row _ _ _ _ _ _ vb1]; rfl
      have p0 : W1.cell? ⟨w.heap.size + 2, 0, none⟩ = some (.map (some (w.heap.size + 1))) := by rw [cell_of_row _ _ _ _ _ _ hS2.pbox]; rfl
      have hget := hS2.map.getOk r
      have hsz := Lib.hid (show w.heap.size + 4 ≤ wo.heap.size from hW.sz)
      replace hW1 := Lib.hid hW1
      replace hS2 := Lib.hid hS2
      replace vb1 := Lib.hid vb1
      clear hW cv hk hkl hlt B1
      go_upto_region 7 with (fail)
      rw [← hW1.out]
      clear d0 d1
      rcases Bool.eq_false_or_eq_true ((S k).m r).isSome with hm | hm
      · rw [hm] at hget
        have hnew : Hid (S (k + 1) = S k) := by show _ = _; rw [hst.out]; unfold spreadV; rw [if_pos hm]
        have B2 : Below W1.heap.size W1 (W1.alloc (.cells #[.int .i64 (gp (S k).m r).root, .int .i64 (gp (S k).m r).depth, .int .i64 (gp (S k).m r).edge] 72)) := (Below.refl _ W1).alloc (Nat.le_refl _) _
        have hS3 := Lib.hid (hS2.out.to B2)
        clear hm B2
        go_wp2_with fail
        go_roundg ga
        case measure => omega
        case rel => exact ⟨k + 1, hle.out, by go_num, by rw [hnew.out]; exact hS3.out⟩
      · rw [hm] at hget
        obtain ⟨W2, hW2⟩ : ∃ W2, W2 = W1.alloc (.cells #[.int .i64 (gp (S k).m r).root, .int .i64 (gp (S k).m r).depth, .int .i64 (gp (S k).m r).edge] 72) := ⟨_, rfl⟩
        have B2 : Below W1.heap.size W1 W2 := by rw [hW2]; exact (Below.refl _ W1).alloc (Nat.le_refl _) _
        have hS3 := Lib.hid (hS2.out.to B2)
        have hnewS : Hid (S (k + 1) = runQ g.es r 100 (meetF (S k) r ⟨r, 0, 0⟩)) := by show _ = _; rw [hst.out]; unfold spreadV; rw [if_neg (by rw [hm]; simp)]
        have hI0 : InvS g.es (keysV g.vs) r (S k) := ⟨hiv.out.inv, fun x hx => by rw [hiv.out.q] at hx; simp at hx, fun x p hx _ => hiv.out.cl x p hx⟩
        have hI1 := Lib.hid (meet_inv G hI0 (k := r) (p := ⟨r, 0, 0⟩) rfl hid.out hm (by simp) (by simp) (by have := unm_le (keysV g.vs) (S k).m; simp only; omega) (fun q => by simp at q))
        have hms : Hid (msr (keysV g.vs) (meetF (S k) r ⟨r, 0, 0⟩) ≤ 100) := by
          show _ ≤ _
          rw [hI1.out.2]; unfold msr; rw [hiv.out.q]
          have h1 := unm_le (keysV g.vs) (S k).m
          have h2 : (keysV g.vs).length ≤ 24 := by simp [keysV]; exact hn.out.1
          simp; omega
        have hmeet := Lib.hid (meet_any w W2 gcs w.heap.size (S k) r ⟨r, 0, 0⟩ hS3.out (by rw [hiv.out.q]; simp))
        have vb2 : W2.heap[wo.heap.size]? = some (.cells #[.int .i64 r, .int .i64 sd] 31 (0, 0)) := (B2.block _ (Array.getElem?_eq_some_iff.1 vb1.out).1).trans vb1.out
        have v2 : W2.cell? ⟨wo.heap.size, 0, none⟩ = some (.int .i64 r) := by rw [cell_of_row _ _ _ _ _ _ vb2]; rfl
        replace hW2 := Lib.hid hW2
        replace vb2 := Lib.hid vb2
        clear hm B2 hI0
        go_upto_region 9 with (fail)
        rw [← hW2.out]
        clear v0 p0
        go_wp2_with fail
        refine hmeet.out.mono ?_
        rintro e W3 ⟨rfl, hS4, kk⟩
        have vb3 : Hid (W3.heap[wo.heap.size]? = some (.cells #[.int .i64 r, .int .i64 sd] 31 (0, 0))) := kk.keep _ _ vb2.out (by have := hsz.out; omega) (by have := hsz.out; omega) (fun _ cs e => by injection e with _ e; cases e)
        have hT0 : Hid (InvS g.es (keysV g.vs) r (meetF (S k) r ⟨r, 0, 0⟩)) := hI1.out.1
        obtain ⟨s1, hs1⟩ : ∃ s1, s1 = meetF (S k) r ⟨r, 0, 0⟩ := ⟨_, rfl⟩
        rw [← hs1] at hT0 hms hS4 hnewS
        replace hS4 := Lib.hid hS4
        clear kk v2 vb2 hmeet hI1 hs1 hS3 hget vb1 hS2 hiv hst
        go_wp2_with fail
        go_loopg [42] 100 (fun n _ wx => ∃ s, SpW w wx gcs w.heap.size s ∧ InvS g.es (keysV g.vs) r s ∧ (msr (keysV g.vs) s ≤ n ∧ n ≤ 100) ∧ runQ g.es r n s = S (k + 1) ∧ wx.heap[wo.heap.size]? = some (.cells #[.int .i64 r, .int .i64 sd] 31 (0, 0)))
        case atStart => exact ⟨s1, hS4.out, hT0.out, ⟨hms.out, Nat.le_refl _⟩, hnewS.out.symm, vb3.out⟩
        case round =>
          clear hnewS hms hT0 hS4 vb3
          obtain ⟨s, hS5, hI, ⟨hmz, hmz2⟩, hrun, vb⟩ := hrel
          obtain ⟨qv, q1, q2⟩ := hS5.q
          have c0 : wr.cell? ⟨w.heap.size + 3, 0, none⟩ = some qv := by rw [cell_of_row _ _ _ _ _ _ q1]; rfl
          cases hq : s.q with
          | nil =>
            rw [hq] at q2
            obtain ⟨qa, qc, rfl⟩ := q2.shape
            simp only [List.length_nil] at c0
            have hfin : Hid (SpW w wr gcs w.heap.size (S (k + 1))) := by
              rw [runQ_nil _ hq] at hrun; rw [← hrun]; exact hS5
            clear hrun hmz hmz2 hI hS5 q1 q2 vb hq
            go_wp2_with fail
            go_roundg ga
            case measure => omega
            case rel => exact ⟨k + 1, hle.out, by go_num, hfin.out⟩
          | cons a tq =>
            rw [hq] at q2
            rcases q2 with ⟨_, q3⟩ | ⟨qg, qo, qc, cur, rfl, qb, qh, ql, qm, qsz, qx⟩
            · cases q3
            have c1 : wr.cell? ⟨qg, qo, none⟩ = some (.int .i64 a) := qx 0 a rfl
            obtain ⟨wq, rfl⟩ : ∃ x, x = wr := ⟨_, rfl⟩
            obtain ⟨L, hL⟩ : ∃ L, Hid (L + 1 = (a :: tq).length) := ⟨tq.length, rfl⟩
            rw [← hL.out] at c0 ql
            have i2 : (0 : Int) < ((L + 1 : Nat) : Int) := by omega
            have i3 : ((L + 1 : Nat) : Int) > 0 := by omega
            have i4 : (0 : Int) < (L : Int) + 1 := by omega
            have i5 : (0 : Int) ≤ (L : Int) := by omega
            have hAt := Lib.hid (At_own (.agg #[.slice (some ⟨bv, ov, none⟩) N a2, .slice b1 g.es.length b2, .slice c1v g.ds.length c2]) g a wq (hGV.out wq hS5.below) (by have := hn2.out; omega))
            obtain ⟨pa, hpa, hpr⟩ := hI.q a (by rw [hq]; simp)
            have hround := Lib.hid (round_inv G hI hq)
            obtain ⟨n1, rfl⟩ : ∃ n1, gk = n1 + 1 := ⟨gk - 1, by unfold msr at hmz; rw [hq] at hmz; simp at hmz; omega⟩
            have hrun2 : Hid (runQ g.es r n1 (popF (visitF r a s (atF g.es a))) = S (k + 1)) := by
              show _ = _; rw [← hrun]; conv => rhs; unfold runQ
              rw [hq]
            have hround1 : Hid (InvS g.es (keysV g.vs) r (popF (visitF r a s (atF g.es a)))) := hround.out.1
            have hms2 : Hid (msr (keysV g.vs) (popF (visitF r a s (atF g.es a))) ≤ n1) := by have := hround.out.2; show _ ≤ _; omega
            have hql : Hid (∀ t : List Int, s.q ++ t = s.q ++ t) := fun _ => rfl
            have hqn : Hid (msr (keysV g.vs) s ≤ n1 + 1 ∧ n1 + 1 ≤ 100) := ⟨hmz, hmz2⟩
            have G0 : wq.cell? ⟨w.heap.size, 0, none⟩ = some (.slice (some ⟨bv, ov, none⟩) N a2) := by rw [cell_of_row _ _ _ _ _ _ hS5.gbox, hgcs.out]; rfl
            have G1 : wq.cell? ⟨w.heap.size, 1, none⟩ = some (.slice b1 g.es.length b2) := by rw [cell_of_row _ _ _ _ _ _ hS5.gbox, hgcs.out]; rfl
            have G2 : wq.cell? ⟨w.heap.size, 2, none⟩ = some (.slice c1v g.ds.length c2) := by rw [cell_of_row _ _ _ _ _ _ hS5.gbox, hgcs.out]; rfl
            have hI' := Lib.hid hI
            have hS5' := Lib.hid hS5
            have vb' := Lib.hid vb
            have hpa' := Lib.hid hpa
            have q1' := Lib.hid q1
            clear hI hS5 vb hpa hround hrun hmz hmz2 qx q1 qh qb qsz
            go_wp2_with fail
            go_step3
            go_wp2_with fail
            go_step3
            go_wp2_with fail
            refine hAt.out.mono ?_
            rintro e W4 ⟨lv, rfl, hown, B4⟩
            have hS6 := Lib.hid (hS5'.out.to B4)
            have vb4 : Hid (W4.heap[wo.heap.size]? = some (.cells #[.int .i64 r, .int .i64 sd] 31 (0, 0))) := (B4.block _ (Array.getElem?_eq_some_iff.1 vb'.out).1).trans vb'.out
            have hlen := atF_len g.es a
            have hmem : Hid (∀ e ∈ atF g.es a, e ∈ atF g.es a) := fun _ h => h
            obtain ⟨l, hl⟩ : ∃ l, Hid (l = atF g.es a) := ⟨_, rfl⟩
            rw [← hl.out] at hown hlen hrun2 hms2 hround1
            obtain ⟨x1, x2, rfl⟩ := hown.EL.shape
            obtain ⟨M, hM⟩ : ∃ M, Hid (M = l.length) := ⟨_, rfl⟩
            rw [← hM.out] at hown hlen ⊢
            replace hown := Lib.hid hown
            clear G0 G1 G2 c0 c1 B4 hAt
            go_wp2_with fail
            obtain ⟨T, hT⟩ : ∃ T : Nat → St, ∀ j, T j = visitF r a s (l.take j) := ⟨_, fun _ => rfl⟩
            have hTI := Lib.hid (fun j => (show InvS g.es (keysV g.vs) r (T j) ∧ msr (keysV g.vs) (T j) = msr (keysV g.vs) s ∧ (T j).m a = some pa by
              rw [hT]
              obtain ⟨z1, z2, z3, _⟩ := visitF_inv G hpr (l.take j) hI'.out hpa'.out (fun e he => by rw [← hl.out]; exact List.take_subset _ _ he)
              exact ⟨z1, z2, z3 _ _ hpa'.out⟩))
            have hTs := Lib.hid (fun (j : Nat) (hj : j < l.length) => (show T (j + 1) = visitE r a (T j) l[j] by
              rw [hT, hT, List.take_succ_eq_append_getElem hj]; unfold visitF; rw [List.foldl_append]; rfl))
            have hTe : Hid (T M = visitF r a s l) := by show _ = _; rw [hT, List.take_of_length_le (by rw [hM.out]; exact Nat.le_refl _)]
            have hS7 : Hid (SpW w W4 gcs w.heap.size (T 0)) := by rw [hT]; exact hS6.out
            rw [← hTe.out] at hrun2 hms2
            have hbig : Hid (M ≤ 1000) := by have := hn2.out; show _ ≤ _; omega
            have hwq : Hid (w.heap.size + 4 ≤ wq.heap.size) := hS5'.out.sz
            clear hT hS6 hlen
            go_loopg [52] M (fun m iv wx => ∃ j : Nat, j + m = M ∧ iv = .int .i64 j ∧ SpW w wx gcs w.heap.size (T j) ∧ wx.heap[wo.heap.size]? = some (.cells #[.int .i64 r, .int .i64 sd] 31 (0, 0)) ∧ OwnEd wx wq.heap.size (.slice x1 M x2) l)
            case atStart => exact ⟨0, by omega, rfl, hS7.out, vb4.out, hown.out⟩
            case round =>
              clear hS7 vb4 hown
              obtain ⟨j, hj, rfl, hS8, vb5, hown⟩ := hrel
              obtain ⟨wx, rfl⟩ : ∃ x, x = wr := ⟨_, rfl⟩
              cases gk with
              | zero =>
                have hj2 : j = M := by omega
                subst hj2
                have i6 : ¬ (j : Int) < (j : Int) := by omega
                obtain ⟨qw, qz1, qz2⟩ := hS8.q
                have hqt : ∃ t, (T j).q = a :: t := by
                  obtain ⟨u, hu⟩ := (visitF_inv G hpr l hI'.out hpa'.out (fun e he => by rw [← hl.out]; exact he)).2.2.2.1
                  exact ⟨tq ++ u, by rw [hTe.out, hu, hq]; rfl⟩
                obtain ⟨tt, hqt⟩ := hqt
                rw [hqt] at qz2
                rcases qz2 with ⟨_, q3⟩ | ⟨g2, o2, p2, cur2, rfl, qb2, qh2, ql2, qm2, qsz2, qx2⟩
                · cases q3
                obtain ⟨L2, hL2⟩ : ∃ L2, Hid (L2 + 1 = (a :: tt).length) := ⟨tt.length, rfl⟩
                rw [← hL2.out] at qz1 ql2
                have c0 : wx.cell? ⟨w.heap.size + 3, 0, none⟩ = some (.slice (some ⟨g2, o2, none⟩) (L2 + 1) p2) := by rw [cell_of_row _ _ _ _ _ _ qz1]; rfl
                have f3 : wx.frozen? ⟨w.heap.size + 3, 0, none⟩ = false := frozen_of_row _ _ _ _ _ qz1
                have i8 : (1 : Int) ≤ (L2 : Int) + 1 := by omega
                have i9 : (1 : Int) ≤ ((L2 + 1 : Nat) : Int) := by omega
                have i10 : ((L2 + 1 : Nat) : Int) ≤ (p2 : Int) := by omega
                replace hS8 := Lib.hid hS8
                replace vb5 := Lib.hid vb5
                replace qx2 := Lib.hid qx2
                replace qh2 := Lib.hid qh2
                replace qz1 := Lib.hid qz1
                replace hqt := Lib.hid hqt
                have hQ := Lib.hid (qi_tail qb2 qh2.out hL2.out ql2 qm2 qsz2 qx2.out)
                have hbz : Hid (w.heap.size + 3 ≠ wo.heap.size) := by have := hsz.out; show _ ≠ _; omega
                clear hown hI' hpa' hS5' vb' q1' qb2 ql2 qm2 qsz2
                go_wp2_with fail
                ·
                  have hfin := Lib.hid (hS8.out.pop qz1.out (.slice (some ⟨g2, o2, none⟩) L2 0) (by rw [hqt.out]; exact hQ.out.2 (by assumption)))
                  go_roundg n1
                  case measure => omega
                  case rel => exact ⟨popF (T j), hfin.out, by rw [hTe.out]; exact hround1.out, ⟨hms2.out, by have := hqn.out.2; omega⟩, hrun2.out, (heap_setCell_other _ _ _ _ (by simpa using hbz.out.symm)).trans vb5.out⟩
                ·
                  have hfin := Lib.hid (hS8.out.pop qz1.out (.slice (some ⟨g2, o2 + 1, none⟩) L2 (p2 - 1)) (by rw [hqt.out]; exact hQ.out.1))
                  go_roundg n1
                  case measure => omega
                  case rel => exact ⟨popF (T j), hfin.out, by rw [hTe.out]; exact hround1.out, ⟨hms2.out, by have := hqn.out.2; omega⟩, hrun2.out, (heap_setCell_other _ _ _ _ (by simpa using hbz.out.symm)).trans vb5.out⟩
              | succ gb =>
                have hlt : j < M := by omega
                have hjl : j < l.length := by rw [← hM.out]; exact hlt
                obtain ⟨bw, ow, rfl, cw⟩ := hown.EL.cells j hjl
                obtain ⟨d0, d1, d2, d3, d4, d5⟩ := cw wx (Below.refl _ _)
                have i6 : (0 : Int) ≤ (j : Int) := by omega
                have i7 : (j : Int) < (M : Int) := by omega
                have hTn := Lib.hid (hTs.out j hjl)
                have hTj := Lib.hid (hTI.out j)
                have hle2 : Hid (j + 1 + gb = M) := by show _ = _; omega
                have he : Hid (l[j] ∈ atF g.es a) := by show _ ∈ _; rw [← hl.out]; exact List.getElem_mem hjl
                have hjb : (j : Int) ≤ 1000 := by have := hbig.out; omega
                obtain ⟨W5, hW5⟩ : ∃ W5, W5 = wx.alloc (.cells (edCells l[j]) 40) := ⟨_, rfl⟩
                have B5 : Below wx.heap.size wx W5 := by rw [hW5]; exact (Below.refl _ wx).alloc (Nat.le_refl _) _
                have eb : W5.heap[wx.heap.size]? = some (.cells (edCells l[j]) 40 (0, 0)) := by rw [hW5]; exact heap_alloc_new wx _
                have hOt := Lib.hid (fun w' => Other_any l[j] a w')
                generalize l[j] = u at *
                unfold edCells at hW5 eb
                obtain ⟨e0, e1, e2, e3, e4, e5⟩ : EdAt W5 wx.heap.size 0 u := by
                  refine ⟨?_, ?_, ?_, ?_, ?_, ?_⟩ <;> (rw [cell_of_row _ _ _ _ _ _ eb]; rfl)
                simp only [Nat.zero_add] at e0 e1 e2 e3 e4 e5
                have hS9 := Lib.hid (hS8.to B5)
                have vb6 : Hid (W5.heap[wo.heap.size]? = some (.cells #[.int .i64 r, .int .i64 sd] 31 (0, 0))) := (B5.block _ (Array.getElem?_eq_some_iff.1 vb5).1).trans vb5
                have hown2 := Lib.hid (hown.below B5)
                replace hW5 := Lib.hid hW5
                unfold Ed.val at hOt
                have hVis : Hid (T (j + 1) = if ((T j).m (otherI u a)).isSome then T j else meetF (T j) (otherI u a) ⟨r, (gp (T j).m a).depth + 1, 0⟩) := hTn.out
                have hVin := Lib.hid (visitE_inv G hTj.out.1 hTj.out.2.2 hpr he.out)
                generalize otherI u a = y at *
                clear cw hS8 vb5 hown B5 eb hTn
                go_upto_region 16 with (fail)
                rw [← hW5.out]
                clear d0 d1 d2 d3 d4 d5
                go_wp2_with fail
                refine (hOt.out _).mono ?_
                rintro e W6 ⟨rfl, B6⟩
                have hSa := hS9.out.to B6
                have vb7 : Hid (W6.heap[wo.heap.size]? = some (.cells #[.int .i64 r, .int .i64 sd] 31 (0, 0))) := (B6.block _ (Array.getElem?_eq_some_iff.1 vb6.out).1).trans vb6.out
                have hown3 := Lib.hid (hown2.out.below B6)
                have p0 : W6.cell? ⟨w.heap.size + 2, 0, none⟩ = some (.map (some (w.heap.size + 1))) := by rw [cell_of_row _ _ _ _ _ _ hSa.pbox]; rfl
                have hget := hSa.map.getOk y
                replace hSa := Lib.hid hSa
                clear B6 hS9 vb6 hown2 e0 e1 e2 e3 e4 e5
                rcases Bool.eq_false_or_eq_true ((T j).m y).isSome with hm | hm
                · rw [hm] at hget
                  have hnew : Hid (T (j + 1) = T j) := by show _ = _; rw [hVis.out, if_pos hm]
                  have B7 : Below W6.heap.size W6 (W6.alloc (.cells #[.int .i64 (gp (T j).m y).root, .int .i64 (gp (T j).m y).depth, .int .i64 (gp (T j).m y).edge] 72)) := (Below.refl _ W6).alloc (Nat.le_refl _) _
                  have hSb := Lib.hid (hSa.out.to B7)
                  have vb8 : Hid ((W6.alloc (.cells #[.int .i64 (gp (T j).m y).root, .int .i64 (gp (T j).m y).depth, .int .i64 (gp (T j).m y).edge] 72)).heap[wo.heap.size]? = some (.cells #[.int .i64 r, .int .i64 sd] 31 (0, 0))) := (B7.block _ (Array.getElem?_eq_some_iff.1 vb7.out).1).trans vb7.out
                  have hown4 := Lib.hid (hown3.out.below B7)
                  clear hm B7
                  go_wp2_with fail
                  go_roundg gb
                  case measure => omega
                  case rel => exact ⟨j + 1, hle2.out, by go_num, by rw [hnew.out]; exact hSb.out, vb8.out, hown4.out⟩
                · rw [hm] at hget
                  obtain ⟨W7, hW7⟩ : ∃ W7, W7 = W6.alloc (.cells #[.int .i64 (gp (T j).m y).root, .int .i64 (gp (T j).m y).depth, .int .i64 (gp (T j).m y).edge] 72) := ⟨_, rfl⟩
                  have B7 : Below W6.heap.size W6 W7 := by rw [hW7]; exact (Below.refl _ W6).alloc (Nat.le_refl _) _
                  have hSb := hSa.out.to B7
                  have vb8 : W7.heap[wo.heap.size]? = some (.cells #[.int .i64 r, .int .i64 sd] 31 (0, 0)) := (B7.block _ (Array.getElem?_eq_some_iff.1 vb7.out).1).trans vb7.out
                  have hown4 := Lib.hid (hown3.out.below B7)
                  have p7 : W7.cell? ⟨w.heap.size + 2, 0, none⟩ = some (.map (some (w.heap.size + 1))) := by rw [cell_of_row _ _ _ _ _ _ hSb.pbox]; rfl
                  have v7 : W7.cell? ⟨wo.heap.size, 0, none⟩ = some (.int .i64 r) := by rw [cell_of_row _ _ _ _ _ _ vb8]; rfl
                  have hga := hSb.map.get a
                  have hga2 : gp (T j).m a = pa := gp_some hTj.out.2.2
                  have hdp := hTj.out.1.inv.lo a pa hTj.out.2.2
                  have hdh := hTj.out.1.inv.hi a pa hTj.out.2.2
                  have hVl : (keysV g.vs).length ≤ 24 := by simp [keysV]; exact hn.out.1
                  have hwr : IntKind.i64.wrap ((gp (T j).m a).depth + 1) = (gp (T j).m a).depth + 1 := IntWalk.i64_in _ (by rw [hga2]; omega)
                  have hnew : Hid (T (j + 1) = meetF (T j) y ⟨r, (gp (T j).m a).depth + 1, 0⟩) := by show _ = _; rw [hVis.out, if_neg (by rw [hm]; simp)]
                  have hmeet := Lib.hid (meet_any w W7 gcs w.heap.size (T j) y ⟨r, (gp (T j).m a).depth + 1, 0⟩ hSb (by have := hTj.out.2.1; unfold msr at this; have h2 := hqn.out; unfold msr at h2; omega))
                  unfold plV at hmeet
                  replace hSb := Lib.hid hSb
                  replace vb8 := Lib.hid vb8
                  replace hW7 := Lib.hid hW7
                  clear hm B7 hga2 hdp hdh hVl
                  have f1 := fld1
                  go_upto_region 19 with (fail)
                  rw [← hW7.out]
                  clear p0
                  go_wp2_with fail
                  refine hmeet.out.mono ?_
                  rintro e W8 ⟨rfl, hSc, kk⟩
                  have vb9 : Hid (W8.heap[wo.heap.size]? = some (.cells #[.int .i64 r, .int .i64 sd] 31 (0, 0))) := kk.keep _ _ vb8.out (by have := hsz.out; omega) (by have := hsz.out; omega) (fun _ cs e => by injection e with _ e; cases e)
                  have hown5 := Lib.hid (kk.own hown4.out hwq.out)
                  replace hSc := Lib.hid hSc
                  clear kk p7 v7 hga hget
                  go_wp2_with fail
                  go_roundg gb
                  case measure => omega
                  case rel => exact ⟨j + 1, hle2.out, by go_num, by rw [hnew.out]; exact hSc.out, vb9.out, hown5.out⟩

end Go.Proofs.Ythmkmjkbfjhffaa
