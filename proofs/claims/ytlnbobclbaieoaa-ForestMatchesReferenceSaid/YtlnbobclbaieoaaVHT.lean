/- Contracts and facts. -/
import Derived.Deep.LoopGhost
import Derived.Handy
import Derived.WalkMore
import Derived.BigRegion
import Derived.Laws.EntriesVeiled
import Derived.Test.YtlnbobclbaieoaaVHQ
set_option linter.unusedSimpArgs false
set_option maxRecDepth 100000
set_option maxHeartbeats 4000000
namespace Go.Proofs.Ytlnbobclbaieoaa
open Go.RowKit
set_option maxRecDepth 1000000 in
set_option maxHeartbeats 16000000 in
theorem Spread_any (v : Value) (g : Gr) (a : Int) (n : Nat) (w : World) (hv : GV w v g) (ho : g.ok = true) (ha : a ∈ keysV g.vs) (hn : n ≤ 1000000) :
    Calls Try.prog 54 #[v, .int .i64 a, .int .i64 n] w fun e w' => ∃ r, e = .returned r ∧ OwnZ w' w.heap.size r ((keysV g.vs).map (ballF g.es a n)) ∧ Below w.heap.size w w' := by
  obtain ⟨a1, a2, b1, b2, c1v, c2, rfl, hv1, hv2, hv3⟩ := gv_shape hv
  obtain ⟨G, M, hV24, F, hA⟩ := good_of ho
  obtain ⟨w1, hw1⟩ : ∃ w1, w1 = w.alloc (.cells #[.slice a1 g.vs.length a2, .slice b1 g.es.length b2, .slice c1v g.ds.length c2] 28) := ⟨_, rfl⟩
  have gb : w1.heap[w.heap.size]? = some (.cells #[.slice a1 g.vs.length a2, .slice b1 g.es.length b2, .slice c1v g.ds.length c2] 28 (0, 0)) := by rw [hw1]; exact heap_alloc_new w _
  have B0 : Below w.heap.size w w1 := by rw [hw1]; exact (Below.refl _ w).alloc (Nat.le_refl _) _
  have hs1 : w1.heap.size = w.heap.size + 1 := by rw [hw1]; simp
  have fb := Lib.hid (fun W (q : Below w1.heap.size w1 W) => box3g ((q.block _ (show w.heap.size < w1.heap.size by omega)).trans gb))
  have fP := Lib.hid (fun W (q : Below w1.heap.size w1 W) x => PlaceR_any _ g x W ((hv.below B0).below q) (by have := (ok_facts ho).1; omega))
  have cellE := Lib.hid ((hv2.below B0).cells)
  obtain ⟨N, hN⟩ : ∃ N, Hid (N = g.vs.length) := ⟨_, rfl⟩
  obtain ⟨K, hK⟩ : ∃ N, Hid (N = g.es.length) := ⟨_, rfl⟩
  have hNV : Hid ((keysV g.vs).length = N) := by show _ = _; rw [hN.out]; simp [keysV]
  have hN24 : N ≤ 24 := by rw [hN.out]; exact (ok_facts ho).1.1
  have hK1 : K ≤ 1000 := by rw [hK.out]; exact (ok_facts ho).1.2
  obtain ⟨V, hVe⟩ : ∃ V, V = keysV g.vs := ⟨_, rfl⟩
  rw [← hVe] at hNV G ha fP ⊢
  replace hVe := Lib.hid hVe
  have hVN := hNV.out
  have hends := Lib.hid G.ends
  have hnd := Lib.hid G.nodup
  have hplI := Lib.hid (fun (x : Int) (hx : x ∈ V) => plI_idx hx G.nodup)
  have hN0 : 0 < N := by rw [← hVN]; exact List.length_pos_of_mem ha
  rw [← hN.out, ← hK.out] at hw1 fb fP
  rw [← hN.out, ← hK.out]
  generalize g.ds.length = n3 at *
  have hbase : Hid (w.heap.size ≤ w1.heap.size) := by show _ ≤ _; omega
  have hB0 := Lib.hid B0
  replace hw1 := Lib.hid hw1
  obtain ⟨ia, hia, hpa, hVa⟩ := hplI.out a ha
  have i0 : (0 : Int) ≤ (ia : Int) := by omega
  have i1 : (ia : Int) < (N : Int) := by omega
  obtain ⟨i4, hi4, hz0, hz1, hz2⟩ := info_parts info4
  obtain ⟨w2, hmk, hown0, hg0⟩ := run_makeSlice_full (P := Try.prog) (w := w1) w1.heap.size 91 4 i4 (.bool false) 1 Try.underlying91 hi4 hz0 hz1 .i64 .i64 N (by omega) (by rw [hz2]; omega) (by unfold maxLen; omega) (Nat.le_refl _)
  have hown1 : OwnZ w2 w1.heap.size (.slice (some ⟨w1.heap.size, 0, none⟩) N N) (V.map fun _ => false) := by
    unfold OwnZ
    rw [List.length_map, hVN]
    rw [show (madeCells (Value.bool false).cells (N * 1)).toList = cB (V.map fun _ => false) from by
      rw [show (Value.bool false).cells = #[Value.bool false] from rfl, toList_madeCells_one, Nat.mul_one, ← hVN]
      simp [cB, Function.comp_def, List.map_const']] at hown0
    exact hown0
  have B2 : Below w1.heap.size w1 w2 := (Below.refl _ w1).grown hg0 (Nat.le_refl _) (fun k e => by cases e)
  have hB2 := Lib.hid B2
  replace hown1 := Lib.hid hown1
  have hmn : Hid ((0 : Int) ≤ (n : Int)) := by show _ ≤ _; omega
  obtain ⟨g0, g1, g2⟩ := fb.out w1 (Below.refl _ _)
  clear gb B0 hs1 hown0 hg0 B2 hv hv1 hv2 hv3 hi4 hz0 hz1 hz2
  go_enter Try.func54, Try.ntmps54
  go_upto_region 1 with (fail)
  rw [← hw1.out]
  go_upto_region 2 with (fail)
  clear g0 g1 g2 hmk
  obtain ⟨g0, g1, g2⟩ := fb.out w2 hB2.out
  go_wp2_with fail
  refine (fP.out w2 hB2.out a).mono ?_
  rintro e w3 ⟨he, b3⟩
  rw [hpa] at he
  subst he
  have ho3 := own_below hown1.out b3
  have hB3 := Lib.hid (hB2.out.trans (b3.mono hB2.out.size))
  obtain ⟨y0, y1⟩ := OwnZ.at_ ho3 ia false (by simp [hia])
  have ho4 := Lib.hid (OwnZ.set ho3 (by rw [List.length_map]; exact hVN) ia true)
  have hset := set_map hnd.out (fun _ => false) ia hia true
  simp only [Bool.false_or, Bool.and_true] at hset
  rw [hset, hVa] at ho4
  have hB4 := Lib.hid (hB3.out.setCell (p := ⟨w1.heap.size, ia, none⟩) (Nat.le_refl _) (.bool true))
  clear hset ho3 b3 g0 g1 g2
  go_upto_region 3 with (fail)
  go_wp2_with fail
  go_loopg [7, 8] n (fun gq ov rv wr => ∃ (r go co : Nat), r + gq = n ∧ rv = .int .i64 r ∧ ov = .slice (some ⟨go, 0, none⟩) N co ∧ OwnZ wr w1.heap.size ov (V.map (ballF g.es a r)) ∧ Below w1.heap.size w1 wr)
  case atStart => exact ⟨0, _, _, by omega, rfl, rfl, ho4.out, hB4.out⟩
  case round =>
  obtain ⟨r, go, co, hr, rfl, rfl, hO, hB⟩ := hrel
  obtain ⟨wo, rfl⟩ : ∃ x, x = wr := ⟨_, rfl⟩
  clear ho4 hB4
  have hOo := Lib.hid hO
  have hBo := Lib.hid hB
  cases gk with
  | zero =>
    have hr2 : r = n := by omega
    have l1 : ¬ (r : Int) < (n : Int) := by omega
    rw [hr2] at hO
    have hO2 := Lib.hid (show OwnZ wo w.heap.size (.slice (some ⟨go, 0, none⟩) N co) (V.map (ballF g.es a n)) from own_low hO hbase.out)
    have hF := Lib.hid (hB0.out.trans (hB.mono hB0.out.size))
    clear hr hr2 hO hB hOo
    go_wp2_with fail
    go_ret
    exact ⟨_, rfl, hO2.out, hF.out⟩
  | succ ga =>
    have hlt : r < n := by omega
    have l0 : (0 : Int) ≤ (r : Int) := by omega
    have l1 : (r : Int) < (n : Int) := by omega
    have hle : Hid (r + 1 + ga = n) := by show _ = _; omega
    have hrl : Hid (r ≤ 1000000) := by show _ ≤ _; omega
    obtain ⟨W1, hW1⟩ : ∃ x, x = wo.alloc (.cells #[] 4) := ⟨_, rfl⟩
    have q1 : Below wo.heap.size wo W1 := by rw [hW1]; exact (Below.refl _ wo).alloc (Nat.le_refl _) _
    have hO1 := own_below hO q1
    have hlen : (V.map (ballF g.es a r)).length = N := by rw [List.length_map]; exact hVN
    have hO1' : OwnZ W1 w1.heap.size (.slice (some ⟨go, 0, none⟩) (V.map (ballF g.es a r)).length co) (V.map (ballF g.es a r)) := by rw [hlen]; exact hO1
    obtain ⟨gn, cn, W2, hap, hN2, q2, hgn⟩ := copyZ W1 wo.heap.size w1.heap.size go co _ hO1' (by rw [hlen]; exact hN0) (by rw [hlen]; omega)
    rw [hlen] at hap hN2
    have hW1s : W1.heap.size = wo.heap.size + 1 := by rw [hW1]; simp
    obtain ⟨_, _, hfg, _, _, cur, hcur⟩ := hO.form (by rw [hlen]; exact hN0)
    injection hfg with hfg hfg2 hfg3
    injection hfg with hfg
    injection hfg with hfg
    clear hfg2 hfg3
    subst hfg
    have hgolt := (Array.getElem?_eq_some_iff.1 hcur).1
    have hne : go ≠ gn := by omega
    have hOW := Lib.hid (own_below hO1 q2)
    have hNW : Hid (OwnZ W2 w1.heap.size (.slice (some ⟨gn, 0, none⟩) N cn) (V.map (ballF g.es a r))) := own_low hN2 (by have := hB.size; have := q1.size; omega)
    have hBW := Lib.hid ((hB.trans (q1.mono hB.size)).trans (q2.mono (by have := hB.size; have := q1.size; omega)))
    have hgnb : Hid (w1.heap.size ≤ gn) := by have := hB.size; show _ ≤ _; omega
    replace hne := Lib.hid hne
    rw [hW1] at hap
    generalize hS : ballF g.es a r = S at *
    replace hS := Lib.hid hS
    clear hr hO hB hOo hBo q1 hO1 hO1' hN2 q2 hgn hW1s hcur hgolt hlen hW1
    go_wp2_with (at_builtin; refine wpList_append_runB rfl (.tmp 27) (.tmp 28) 91 rfl (.slice (some ⟨wo.heap.size, 0, none⟩) 0 0) (.slice (some ⟨go, 0, none⟩) N co) rfl rfl _ _ hap ?_)
    go_loopg [10] K (fun gq kv wr => ∃ k : Nat, k + gq = K ∧ kv = .int .i64 k ∧ OwnZ wr w1.heap.size (.slice (some ⟨gn, 0, none⟩) N cn) (V.map (stepB g.es S k)) ∧ OwnZ wr w1.heap.size (.slice (some ⟨go, 0, none⟩) N co) (V.map S) ∧ Below w1.heap.size w1 wr)
    case atStart => exact ⟨0, by omega, rfl, by rw [show stepB g.es S 0 = S from by funext x; simp [stepB]]; exact hNW.out, hOW.out, hBW.out⟩
    case round =>
    obtain ⟨k, hk, rfl, hNk, hOk, hBk⟩ := hrel
    obtain ⟨wi, rfl⟩ : ∃ x, x = wr := ⟨_, rfl⟩
    obtain ⟨g0, g1, g2⟩ := fb.out wi hBk
    clear hNW hOW hBW
    cases gk with
    | zero =>
      have hk2 : k = K := by omega
      have m1 : ¬ (k : Int) < (K : Int) := by omega
      rw [hk2, hK.out, ← hS.out, stepB_full] at hNk
      have hN3 := Lib.hid hNk
      have hB3 := Lib.hid hBk
      clear hk hk2 hNk hOk hBk
      go_wp2_with fail
      go_roundg ga
      case measure => omega
      case rel => exact ⟨r + 1, gn, cn, hle.out, by go_num, rfl, hN3.out, hB3.out⟩
    | succ gb =>
      have hkK : k < K := by omega
      have hke : k < g.es.length := by rw [← hK.out]; exact hkK
      have m0 : (0 : Int) ≤ (k : Int) := by omega
      have m1 : (k : Int) < (K : Int) := by omega
      have hle2 : Hid (k + 1 + gb = K) := by show _ = _; omega
      obtain ⟨eb, eo, rfl, ce⟩ := cellE.out k hke
      have hen := hends.out g.es[k] (List.getElem_mem hke)
      have hst : Hid (stepB g.es S (k + 1) = fun x => ((stepB g.es S k x || (x == g.es[k].src && S g.es[k].dst)) || (x == g.es[k].dst && S g.es[k].src))) := by show _ = _; funext x; exact stepB_succ g.es S k hke x
      obtain ⟨is, his, hps, hVs⟩ := hplI.out _ hen.1
      obtain ⟨id, hid, hpd, hVd⟩ := hplI.out _ hen.2
      generalize g.es[k] = u at *
      have fU := Lib.hid (fun W (qq : Below wi.heap.size wi W) => (show W.cell? ⟨w.heap.size, 0, none⟩ = _ ∧ W.cell? ⟨w.heap.size, 1, none⟩ = _ ∧ W.cell? ⟨w.heap.size, 2, none⟩ = _ ∧ EdAt W eb (eo + k * 6) u from ⟨(fb.out W (hBk.trans (qq.mono hBk.size))).1, (fb.out W (hBk.trans (qq.mono hBk.size))).2.1, (fb.out W (hBk.trans (qq.mono hBk.size))).2.2, ce W (hBk.trans (qq.mono hBk.size))⟩))
      unfold EdAt at fU
      have cs := Lib.hid (fun W (qq : Below wi.heap.size wi W) => fP.out W (hBk.trans (qq.mono hBk.size)) u.src)
      have cd := Lib.hid (fun W (qq : Below wi.heap.size wi W) => fP.out W (hBk.trans (qq.mono hBk.size)) u.dst)
      rw [hps] at cs
      rw [hpd] at cd
      have hBi := Lib.hid hBk
      have hNi := Lib.hid hNk
      have hOi := Lib.hid hOk
      have s0 : (0 : Int) ≤ (is : Int) := by omega
      have s1 : (is : Int) < (N : Int) := by omega
      have d0 : (0 : Int) ≤ (id : Int) := by omega
      have d1 : (id : Int) < (N : Int) := by omega
      clear ce hk hkK hke hNk hOk hBk hen hps hpd
      go_upto_region 10 with (fail)
      clear g0 g1 g2
      refine q_region (fun W => Below wi.heap.size wi W) (by kernel_rfl) (by kernel_rfl) ((Below.refl _ wi).drew) ?_
      repeat (first | (refine q_skip (by rfl) ?_; try simp only [Act.put, zT, z0, zS]) | (refine q_take (v := ?_) (by rfl) ?_ ?_; rotate_left; (first | ((intro w h; clear h; go_simp) <;> with_reducible rfl) | ((intro w h; obtain ⟨y0, y1, y2, z0, z1, z2, z3, z4, z5⟩ := fU.out w h; clear h; go_simp) <;> with_reducible rfl)); try simp only [Act.put, zT, z0, zS]))
      refine q_call (v := _) Try.f20 (by rfl) rfl Try.func20 (by kernel_rfl) (by kernel_rfl) #[.agg #[.slice a1 N a2, .slice (some ⟨eb, eo, none⟩) K b2, .slice c1v n3 c2], .int .i64 u.src] (by simp [Act.eval]) (fun w h => (cs.out w h).mono fun e w' ⟨he, hb⟩ => ⟨he, h.trans (hb.mono h.size)⟩) ?_; try simp only [Act.put, zT, z0, zS]
      repeat (first | (refine q_skip (by rfl) ?_; try simp only [Act.put, zT, z0, zS]) | (refine q_take (v := ?_) (by rfl) ?_ ?_; rotate_left; (first | ((intro w h; clear h; go_simp) <;> with_reducible rfl)); try simp only [Act.put, zT, z0, zS]))
      refine q_nil ?_
      intro w5 k5
      have K5 := Lib.hid k5
      clear k5
      go_upto_region 11 with (fail)
      refine q_region (fun W => Below wi.heap.size wi W) (by kernel_rfl) (by kernel_rfl) (K5.out.drew) ?_
      repeat (first | (refine q_skip (by rfl) ?_; try simp only [Act.put, zT, z0, zS]) | (refine q_take (v := ?_) (by rfl) ?_ ?_; rotate_left; (first | ((intro w h; clear h; go_simp) <;> with_reducible rfl) | ((intro w h; obtain ⟨y0, y1, y2, z0, z1, z2, z3, z4, z5⟩ := fU.out w h; clear h; go_simp) <;> with_reducible rfl)); try simp only [Act.put, zT, z0, zS]))
      refine q_call (v := _) Try.f20 (by rfl) rfl Try.func20 (by kernel_rfl) (by kernel_rfl) #[.agg #[.slice a1 N a2, .slice (some ⟨eb, eo, none⟩) K b2, .slice c1v n3 c2], .int .i64 u.dst] (by simp [Act.eval]) (fun w h => (cd.out w h).mono fun e w' ⟨he, hb⟩ => ⟨he, h.trans (hb.mono h.size)⟩) ?_; try simp only [Act.put, zT, z0, zS]
      repeat (first | (refine q_skip (by rfl) ?_; try simp only [Act.put, zT, z0, zS]) | (refine q_take (v := ?_) (by rfl) ?_ ?_; rotate_left; (first | ((intro w h; clear h; go_simp) <;> with_reducible rfl)); try simp only [Act.put, zT, z0, zS]))
      refine q_nil ?_
      intro w6 k6
      have hB6 := Lib.hid (hBi.out.trans (k6.mono hBi.out.size))
      have hN6 := own_below hNi.out k6
      have hO6 := own_below hOi.out k6
      clear K5 k6 cs cd fU
      have hln : Hid ((V.map (stepB g.es S k)).length = N) := by show _ = _; rw [List.length_map]; exact hVN
      obtain ⟨P1, hP1⟩ : ∃ q, Hid (q = stepB g.es S k u.src) := ⟨_, rfl⟩
      obtain ⟨n0, n1'⟩ := OwnZ.at_ hN6 is P1 (by simp [his, hVs, hP1.out])
      obtain ⟨o0, _⟩ := OwnZ.at_ hO6 id (S u.dst) (by simp [hid, hVd])
      cases hP : P1 with
      | true =>
        have hN7 := Lib.hid (OwnZ.set hN6 hln.out is true)
        have hset1 := set_map hnd.out (stepB g.es S k) is his (S u.dst)
        rw [hVs, ← hP1.out, hP] at hset1
        simp only [Bool.true_or, Bool.false_or] at hset1
        rw [hset1] at hN7
        have hO7 := Lib.hid (OwnZ.other (i := is) (u := .bool true) hO6 (hne.out))
        have hB7 := Lib.hid (hB6.out.setCell (p := ⟨gn, is, none⟩) hgnb.out (.bool true))
        obtain ⟨f1, hf1⟩ : ∃ f : Int → Bool, Hid (f = fun x => stepB g.es S k x || (x == u.src && S u.dst)) := ⟨_, rfl⟩
        rw [← hf1.out] at hN7
        obtain ⟨Q1, hQ1⟩ : ∃ q, Hid (q = f1 u.dst) := ⟨_, rfl⟩
        have hln2 : Hid ((V.map f1).length = N) := by show _ = _; rw [List.length_map]; exact hVN
        rw [hP] at n0
        clear hset1 hP hN6 hO6
        go_upto_region 13 with (fail)
        clear n0 n1' o0
        obtain ⟨p0, p1'⟩ := OwnZ.at_ hN7.out id Q1 (by simp [hid, hVd, hQ1.out])
        obtain ⟨r0, r1'⟩ := OwnZ.at_ hO7.out is (S u.src) (by simp [his, hVs])
        replace hln := hln2
        cases hQ : Q1 with
        | true =>
          have hN8 := Lib.hid (OwnZ.set hN7.out hln.out id true)
          have hset2 := set_map hnd.out f1 id hid (S u.src)
          rw [hVd, ← hQ1.out, hQ] at hset2
          simp only [Bool.true_or, Bool.false_or] at hset2
          rw [hset2, hf1.out, ← hst.out] at hN8
          have hO8 := Lib.hid (OwnZ.other (i := id) (u := .bool true) hO7.out (hne.out))
          have hB8 := Lib.hid (hB7.out.setCell (p := ⟨gn, id, none⟩) hgnb.out (.bool true))
          rw [hQ] at p0
          clear hset2 hQ
          go_wp2_with fail
          go_roundg gb
          case measure => omega
          case rel => exact ⟨k + 1, hle2.out, by go_num, hN8.out, hO8.out, hB8.out⟩
        | false =>
          have hN8 := Lib.hid (OwnZ.set hN7.out hln.out id (S u.src))
          have hset2 := set_map hnd.out f1 id hid (S u.src)
          rw [hVd, ← hQ1.out, hQ] at hset2
          simp only [Bool.true_or, Bool.false_or] at hset2
          rw [hset2, hf1.out, ← hst.out] at hN8
          have hO8 := Lib.hid (OwnZ.other (i := id) (u := .bool (S u.src)) hO7.out (hne.out))
          have hB8 := Lib.hid (hB7.out.setCell (p := ⟨gn, id, none⟩) hgnb.out (.bool (S u.src)))
          rw [hQ] at p0
          clear hset2 hQ
          go_wp2_with fail
          go_roundg gb
          case measure => omega
          case rel => exact ⟨k + 1, hle2.out, by go_num, hN8.out, hO8.out, hB8.out⟩
      | false =>
        have hN7 := Lib.hid (OwnZ.set hN6 hln.out is (S u.dst))
        have hset1 := set_map hnd.out (stepB g.es S k) is his (S u.dst)
        rw [hVs, ← hP1.out, hP] at hset1
        simp only [Bool.true_or, Bool.false_or] at hset1
        rw [hset1] at hN7
        have hO7 := Lib.hid (OwnZ.other (i := is) (u := .bool (S u.dst)) hO6 (hne.out))
        have hB7 := Lib.hid (hB6.out.setCell (p := ⟨gn, is, none⟩) hgnb.out (.bool (S u.dst)))
        obtain ⟨f1, hf1⟩ : ∃ f : Int → Bool, Hid (f = fun x => stepB g.es S k x || (x == u.src && S u.dst)) := ⟨_, rfl⟩
        rw [← hf1.out] at hN7
        obtain ⟨Q1, hQ1⟩ : ∃ q, Hid (q = f1 u.dst) := ⟨_, rfl⟩
        have hln2 : Hid ((V.map f1).length = N) := by show _ = _; rw [List.length_map]; exact hVN
        rw [hP] at n0
        clear hset1 hP hN6 hO6
        go_upto_region 13 with (fail)
        clear n0 n1' o0
        obtain ⟨p0, p1'⟩ := OwnZ.at_ hN7.out id Q1 (by simp [hid, hVd, hQ1.out])
        obtain ⟨r0, r1'⟩ := OwnZ.at_ hO7.out is (S u.src) (by simp [his, hVs])
        replace hln := hln2
        cases hQ : Q1 with
        | true =>
          have hN8 := Lib.hid (OwnZ.set hN7.out hln.out id true)
          have hset2 := set_map hnd.out f1 id hid (S u.src)
          rw [hVd, ← hQ1.out, hQ] at hset2
          simp only [Bool.true_or, Bool.false_or] at hset2
          rw [hset2, hf1.out, ← hst.out] at hN8
          have hO8 := Lib.hid (OwnZ.other (i := id) (u := .bool true) hO7.out (hne.out))
          have hB8 := Lib.hid (hB7.out.setCell (p := ⟨gn, id, none⟩) hgnb.out (.bool true))
          rw [hQ] at p0
          clear hset2 hQ
          go_wp2_with fail
          go_roundg gb
          case measure => omega
          case rel => exact ⟨k + 1, hle2.out, by go_num, hN8.out, hO8.out, hB8.out⟩
        | false =>
          have hN8 := Lib.hid (OwnZ.set hN7.out hln.out id (S u.src))
          have hset2 := set_map hnd.out f1 id hid (S u.src)
          rw [hVd, ← hQ1.out, hQ] at hset2
          simp only [Bool.true_or, Bool.false_or] at hset2
          rw [hset2, hf1.out, ← hst.out] at hN8
          have hO8 := Lib.hid (OwnZ.other (i := id) (u := .bool (S u.src)) hO7.out (hne.out))
          have hB8 := Lib.hid (hB7.out.setCell (p := ⟨gn, id, none⟩) hgnb.out (.bool (S u.src)))
          rw [hQ] at p0
          clear hset2 hQ
          go_wp2_with fail
          go_roundg gb
          case measure => omega
          case rel => exact ⟨k + 1, hle2.out, by go_num, hN8.out, hO8.out, hB8.out⟩

end Go.Proofs.Ytlnbobclbaieoaa
/- Contracts and facts. -/
set_option linter.unusedSimpArgs false
set_option maxRecDepth 100000
set_option maxHeartbeats 4000000
namespace Go.Proofs.Ytlnbobclbaieoaa
open Go.RowKit
def findF (L : List Nm) (id many : Int) : List Int := match L.find? (fun x => x.1 == id) with
  | some x => if (x.2.length : Int) = many then x.2 else []
  | none => []
theorem findF_at (L : List Nm) (id many : Int) (k : Nat) (hk : k < L.length) (h1 : ∀ j (h : j < L.length), j < k → L[j].1 ≠ id) (h2 : L[k].1 = id) : findF L id many = if (L[k].2.length : Int) = many then L[k].2 else [] := by
  have : L.find? (fun x => x.1 == id) = some L[k] := List.find?_eq_some_iff_getElem.2 ⟨by simpa using h2, k, hk, rfl, fun j hj => by
    have := h1 j (by omega) hj
    simpa using this⟩
  unfold findF; rw [this]
theorem findF_none (L : List Nm) (id many : Int) (h1 : ∀ j (h : j < L.length), L[j].1 ≠ id) : findF L id many = [] := by
  have : L.find? (fun x => x.1 == id) = none := List.find?_eq_none.2 (fun x hx => by
    obtain ⟨j, hj, rfl⟩ := List.getElem_of_mem hx
    simpa using h1 j hj)
  unfold findF; rw [this]
def FindNR (w : World) (l : List Int) (e : Ending) (w' : World) : Prop := ∃ r, e = .returned r ∧ DL w r l ∧ w = w'
set_option maxRecDepth 100000 in
theorem FindN_any (lv : Value) (L : List Nm) (id many : Int) (w : World) (hL : NL w lv L) (hLn : L.length ≤ 1000000) (hLx : ∀ x ∈ L, x.2.length ≤ 9223372036854775807) :
    Calls Try.prog 62 #[lv, .int .i64 id, .int .i64 many] w (FindNR w (findF L id many)) := by
  obtain ⟨a, c, rfl⟩ := hL.shape
  obtain ⟨R, hR⟩ : ∃ R, Hid (R = findF L id many) := ⟨_, rfl⟩
  rw [← hR.out]
  obtain ⟨N, hN⟩ : ∃ N, Hid (N = L.length) := ⟨_, rfl⟩
  have cL := Lib.hid hL.cells
  have hx := Lib.hid hLx
  rw [← hN.out] at hLn ⊢
  clear hL hLx
  go_enter Try.func62, Try.ntmps62
  go_wp2_with fail
  go_loop [7] (fun i => ∃ k : Nat, k ≤ N ∧ i = .int .i64 k ∧ Hid (∀ j (h : j < L.length), j < k → L[j].1 ≠ id)) (fun i => N - (intOf i).toNat)
  case atStart => exact ⟨0, by omega, rfl, fun j h hj => by omega⟩
  case round =>
    obtain ⟨k, hk, rfl, hno⟩ := hrel
    by_cases hlt : k < N
    · have hkl : k < L.length := by rw [← hN.out]; exact hlt
      obtain ⟨b, o, v, rfl, cv⟩ := cL.out k hkl
      obtain ⟨d0, d1, d2⟩ := cv w (Below.refl _ _)
      obtain ⟨v1, v2, rfl⟩ := d2.shape
      have hd := Lib.hid d2
      have i0 : (0 : Int) ≤ (k : Int) := by omega
      have i1 : (k : Int) < (N : Int) := by omega
      have hat := Lib.hid (findF_at L id many k hkl hno.out)
      have hup := Lib.hid (fun (hne : L[k].1 ≠ id) j (h : j < L.length) (hj : j < k + 1) => show L[j].1 ≠ id from by
        rcases Nat.lt_or_ge j k with h1 | h1
        · exact hno.out j h h1
        · have : j = k := by omega
          subst this; exact hne)
      have hxl := hx.out L[k] (List.getElem_mem hkl)
      generalize L[k] = u at *
      obtain ⟨u1, u2⟩ := u
      simp only at *
      clear cv d2 hno
      by_cases hu : u1 = id
      · have t1 : (u1 == id) = true := by simpa using hu
        by_cases hm : (u2.length : Int) = many
        · have hr : Hid (R = u2) := by show _ = _; rw [hR.out, hat.out hu, if_pos hm]
          have t2 : ((u2.length : Int) != many) = false := by simpa using hm
          clear hat hup hu hm
          go_wp2_with fail
          go_ret
          rw [hr.out]
          exact ⟨_, rfl, hd.out, rfl⟩
        · have hr : Hid (R = []) := by show _ = _; rw [hR.out, hat.out hu, if_neg hm]
          have t2 : ((u2.length : Int) != many) = true := by simpa using hm
          clear hat hup hu hm
          go_wp2_with fail
          go_ret
          rw [hr.out]
          exact ⟨_, rfl, .inl ⟨rfl, _, _, rfl⟩, rfl⟩
      · have t1 : (u1 == id) = false := by simpa using hu
        have hr := Lib.hid (hup.out hu)
        clear hat hup hu
        go_wp2_with fail
        go_round
        case rel => exact ⟨k + 1, by omega, by go_num, hr.out⟩
        case measure => simp [intOf]; omega
    · have hk2 : k = N := by omega
      have hr : Hid (R = []) := by show _ = _; rw [hR.out]; exact findF_none L id many (fun j h => hno.out j h (by rw [hk2, hN.out]; exact h))
      have i1 : ¬ (k : Int) < (N : Int) := by omega
      clear hk2
      go_wp2_with fail
      go_ret
      rw [hr.out]
      exact ⟨_, rfl, .inl ⟨rfl, _, _, rfl⟩, rfl⟩
set_option maxRecDepth 100000 in
theorem Has_any (v : Value) (l : List Int) (x : Int) (w : World) (hv : DL w v l) (hn : l.length ≤ 1000000000000) :
    Calls Try.prog 58 #[v, .int .i64 x] w fun e w' => e = .returned (.bool (decide (x ∈ l))) ∧ w = w' := by
  obtain ⟨a, c, rfl⟩ := hv.shape
  obtain ⟨R, hR⟩ : ∃ R, Hid (R = decide (x ∈ l)) := ⟨_, rfl⟩
  rw [← hR.out]
  obtain ⟨N, hN⟩ : ∃ N, Hid (N = l.length) := ⟨_, rfl⟩
  have cL := Lib.hid hv.cells
  rw [← hN.out] at hn ⊢
  clear hv
  go_enter Try.func58, Try.ntmps58
  go_wp2_with fail
  go_loop [5] (fun i => ∃ k : Nat, k ≤ N ∧ i = .int .i64 k ∧ Hid (∀ j (h : j < l.length), j < k → l[j] ≠ x)) (fun i => N - (intOf i).toNat)
  case atStart => exact ⟨0, by omega, rfl, fun j h hj => by omega⟩
  case round =>
    obtain ⟨k, hk, rfl, hno⟩ := hrel
    by_cases hlt : k < N
    · have hkl : k < l.length := by rw [← hN.out]; exact hlt
      obtain ⟨b, o, rfl, cv⟩ := cL.out k hkl
      have d0 := cv w (Below.refl _ _)
      have i0 : (0 : Int) ≤ (k : Int) := by omega
      have i1 : (k : Int) < (N : Int) := by omega
      have hup := Lib.hid (fun (hne : l[k] ≠ x) j (h : j < l.length) (hj : j < k + 1) => show l[j] ≠ x from by
        rcases Nat.lt_or_ge j k with h1 | h1
        · exact hno.out j h h1
        · have : j = k := by omega
          subst this; exact hne)
      have hin := Lib.hid (List.getElem_mem hkl)
      generalize l[k] = u at *
      clear cv hno
      by_cases hu : u = x
      · have t1 : (u == x) = true := by simpa using hu
        have hr : Hid (R = true) := by show _ = _; rw [hR.out, decide_eq_true_iff, ← hu]; exact hin.out
        clear hup hu
        go_wp2_with fail
        go_ret
        exact ⟨by rw [hr.out]; rfl, rfl⟩
      · have t1 : (u == x) = false := by simpa using hu
        have hr := Lib.hid (hup.out hu)
        clear hup hu
        go_wp2_with fail
        go_round
        case rel => exact ⟨k + 1, by omega, by go_num, hr.out⟩
        case measure => simp [intOf]; omega
    · have hk2 : k = N := by omega
      have hr : Hid (R = false) := by
        show _ = _; rw [hR.out, decide_eq_false_iff_not]
        intro h
        obtain ⟨j, hj, he⟩ := List.getElem_of_mem h
        exact hno.out j hj (by rw [hk2, hN.out]; exact hj) he
      have i1 : ¬ (k : Int) < (N : Int) := by omega
      clear hk2
      go_wp2_with fail
      go_ret
      exact ⟨by rw [hr.out]; rfl, rfl⟩
set_option maxRecDepth 100000 in
theorem Part_any (v : Value) (g : Gr) (a : Int) (w : World) (hv : GV w v g) (ho : g.ok = true) (ha : a ∈ keysV g.vs) :
    Calls Try.prog 53 #[v, .int .i64 a] w fun e w' => ∃ r, e = .returned r ∧ OwnZ w' w.heap.size r ((keysV g.vs).map (ballF g.es a (keysV g.vs).length)) ∧ Below w.heap.size w w' := by
  obtain ⟨a1, a2, b1, b2, c1v, c2, rfl, hv1, hv2, hv3⟩ := gv_shape hv
  have hkl : Hid ((keysV g.vs).length = g.vs.length) := by show _ = _; simp [keysV]
  obtain ⟨w1, hw1⟩ : ∃ w1, w1 = w.alloc (.cells #[.slice a1 g.vs.length a2, .slice b1 g.es.length b2, .slice c1v g.ds.length c2] 28) := ⟨_, rfl⟩
  have gb : w1.heap[w.heap.size]? = some (.cells #[.slice a1 g.vs.length a2, .slice b1 g.es.length b2, .slice c1v g.ds.length c2] 28 (0, 0)) := by rw [hw1]; exact heap_alloc_new w _
  have B0 : Below w.heap.size w w1 := by rw [hw1]; exact (Below.refl _ w).alloc (Nat.le_refl _) _
  obtain ⟨g0, g1, g2⟩ := box3g gb
  have hs := Spread_any _ g a g.vs.length w1 (hv.below B0) ho ha (by have := (ok_facts ho).1.1; omega)
  rw [← hkl.out] at hs
  obtain ⟨N, hN⟩ : ∃ N, Hid (N = g.vs.length) := ⟨_, rfl⟩
  rw [hkl.out] at hs ⊢
  have hs := Lib.hid hs
  have hB0 := Lib.hid B0
  rw [← hN.out] at hw1 hs g0
  rw [← hN.out]
  have hn24 : N ≤ 24 := by rw [hN.out]; exact (ok_facts ho).1.1
  replace hw1 := Lib.hid hw1
  clear gb B0 hv hv1 hv2 hv3
  generalize g.es.length = n2 at *
  generalize g.ds.length = n3 at *
  go_enter Try.func53, Try.ntmps53
  go_upto_region 1 with (fail)
  rw [← hw1.out]
  go_wp2_with fail
  refine hs.out.mono ?_
  rintro e w2 ⟨r, rfl, h1, h2⟩
  have h3 := Lib.hid (own_low h1 hB0.out.size)
  have h4 := Lib.hid (hB0.out.trans (h2.mono hB0.out.size))
  clear h1 h2 g0 g1 g2
  go_wp2_with fail
  go_ret
  exact ⟨_, rfl, h3.out, h4.out⟩

end Go.Proofs.Ytlnbobclbaieoaa
