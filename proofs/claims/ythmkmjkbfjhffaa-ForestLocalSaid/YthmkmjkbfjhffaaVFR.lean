/- Contracts and facts. -/
import Derived.Deep.LoopGhost
import Derived.Handy
import Derived.WalkMore
import Derived.BigRegion
import Derived.Test.YthmkmjkbfjhffaaVFO
set_option linter.unusedSimpArgs false
set_option maxRecDepth 100000
set_option maxHeartbeats 4000000
namespace Go.Proofs.Ythmkmjkbfjhffaa
open Go.RowKit
theorem ownB_len (f : Option Addr) (n n' c c' : Nat) : (Value.slice f n c).ownBlock = (Value.slice f n' c').ownBlock := by cases f <;> rfl
theorem own_apart {W W' : World} {base : Nat} {v : Value} {l : List Int} {r : Option Nat} (h : OwnI W base v l) (g : W.grownBy W' r) (hne : ∀ x, v.ownBlock = some x → r ≠ some x) : OwnI W' base v l := by
  refine ⟨h.1, ?_⟩
  rcases h.2 with h2 | ⟨gg, cap, cur, h1, h2, h3, h4⟩
  · exact .inl h2
  · exact .inr ⟨gg, cap, cur, h1, h2, (g.block gg (Array.getElem?_eq_some_iff.1 h3).1 (fun e => hne gg (by rw [h1]; rfl) e.symm)).trans h3, h4⟩
theorem conn_true {g : Gr} {a b : Int} (h : (connF g a b).1 = true) : g.ok = true ∧ a ∈ keysV g.vs ∧ b ∈ keysV g.vs ∧ (gp (growF g.es (keysV g.vs)) a).root = (gp (growF g.es (keysV g.vs)) b).root := by
  unfold connF at h
  split at h
  · next h2 => obtain ⟨k1, k2, k3⟩ := holds_two h2; exact ⟨k1, k2, k3, by simpa using h⟩
  · cases h
set_option maxRecDepth 100000 in
theorem Path_any (v : Value) (g : Gr) (a b : Int) (w : World) (hv : GV w v g) (hn : g.small) :
    Calls Try.prog 11 #[v, .int .i64 a, .int .i64 b] w fun e w' => ∃ r, e = .returned (.tuple #[r, .int .i64 (pathC g a b).2]) ∧ OwnI w' w.heap.size r (pathC g a b).1 ∧ Below w.heap.size w w' := by
  obtain ⟨a1, a2, b1, b2, c1v, c2, rfl, hv1, _, _⟩ := gv_shape hv
  have hR : Hid (pathC g a b = if (connF g a b).1 = true then (pathF g.es (growF g.es (keysV g.vs)) a b, 0) else ([], 70)) := rfl
  obtain ⟨w1, hw1⟩ : ∃ w1, w1 = w.alloc (.cells #[.slice a1 g.vs.length a2, .slice b1 g.es.length b2, .slice c1v g.ds.length c2] 28) := ⟨_, rfl⟩
  have gb : w1.heap[w.heap.size]? = some (.cells #[.slice a1 g.vs.length a2, .slice b1 g.es.length b2, .slice c1v g.ds.length c2] 28 (0, 0)) := by rw [hw1]; exact heap_alloc_new w _
  have B0 : Below w.heap.size w w1 := by rw [hw1]; exact (Below.refl _ w).alloc (Nat.le_refl _) _
  have hs1 : w1.heap.size = w.heap.size + 1 := by rw [hw1]; simp
  obtain ⟨g0, g1, g2⟩ := box3g gb
  have hG1 := Lib.hid (fun W (q : Below w1.heap.size w1 W) => box3g ((q.block _ (by omega)).trans gb))
  have hCn := Lib.hid (Connected_any _ g a b w1 (hv.below B0) hn)
  have hGr := Lib.hid (fun (h : g.ok = true) W (q : Below w1.heap.size w1 W) => grow_any _ g W ((hv.below B0).below q) (ok_facts h).1 (ok_facts h).2)
  have hCl := Lib.hid (fun (h : g.ok = true) (x : Int) (hx : x ∈ keysV g.vs) mb W (q : Below w1.heap.size w1 W) (hP : PMV W mb (growF g.es (keysV g.vs))) (hm : mb < W.heap.size) => climb_any _ g mb _ x W ((hv.below B0).below q) (ok_facts h).1 (ok_facts h).2 (grow_good (ok_facts h).2 (by have := (ok_facts h).1.1; simpa [keysV] using this)).1 hP hm hx)
  have hLe := Lib.hid (fun (h : g.ok = true) (x : Int) (hx : x ∈ keysV g.vs) => (show (climb g.es (growF g.es (keysV g.vs)) x).length ≤ 24 by
    have h1 := climb_le (ok_facts h).2 (grow_good (ok_facts h).2 (by have := (ok_facts h).1.1; simpa [keysV] using this)).1 hx
    have h2 := (ok_facts h).1.1
    simp only [keysV, List.length_map] at h1; simp only [keysV]; omega))
  have hCt := Lib.hid (conn_true (g := g) (a := a) (b := b))
  replace hw1 := Lib.hid hw1
  have hB0 := Lib.hid B0
  have hbase : Hid (w.heap.size ≤ w1.heap.size) := by show _ ≤ _; omega
  generalize pathC g a b = R at *
  obtain ⟨R1, R2⟩ := R
  generalize connF g a b = cR at *
  obtain ⟨C1, C2⟩ := cR
  generalize g.vs.length = n1 at *
  generalize g.es.length = n2 at *
  generalize g.ds.length = n3 at *
  clear hs1 B0 gb hv hv1
  cases C1 with
  | false =>
    obtain ⟨r1, r2⟩ := Prod.mk.inj hR.out
    replace r1 := Lib.hid r1
    replace r2 := Lib.hid r2
    clear hR hGr hCl hLe hCt
    go_enter Try.func11, Try.ntmps11
    go_upto_region 1 with (fail)
    rw [← hw1.out]
    go_wp2_with fail
    refine hCn.out.mono ?_
    rintro e w2 ⟨rfl, b2⟩
    have B2 := Lib.hid (hB0.out.trans (b2.mono hB0.out.size))
    clear b2 hCn g0 g1 g2
    go_wp2_with fail
    go_ret2
    rw [r1.out, r2.out]
    exact ⟨_, rfl, World.ownsRow_nil _ _ _ _, B2.out⟩
  | true =>
    obtain ⟨r1, r2⟩ := Prod.mk.inj hR.out
    replace r1 := Lib.hid r1
    replace r2 := Lib.hid r2
    obtain ⟨hok, hav, hbv, hrt⟩ := hCt.out rfl
    have hGr2 := Lib.hid (hGr.out hok)
    have hla := hLe.out hok a hav
    have hlb := hLe.out hok b hbv
    have hCa := Lib.hid (hCl.out hok a hav)
    have hCb := Lib.hid (hCl.out hok b hbv)
    obtain ⟨l1, hl1⟩ : ∃ l, Hid (l = climb g.es (growF g.es (keysV g.vs)) a) := ⟨_, rfl⟩
    obtain ⟨l2, hl2⟩ : ∃ l, Hid (l = climb g.es (growF g.es (keysV g.vs)) b) := ⟨_, rfl⟩
    rw [← hl1.out] at hCa hla
    rw [← hl2.out] at hCb hlb
    have hPF : Hid (R1 = (cp l1.reverse l2.reverse).1.reverse ++ (cp l1.reverse l2.reverse).2) := by show _ = _; rw [r1.out, hl1.out, hl2.out]; rfl
    generalize growF g.es (keysV g.vs) = m at *
    replace hla := Lib.hid hla
    replace hlb := Lib.hid hlb
    clear hR hGr hCl hLe hCt r1 hok hav hbv hrt hl1 hl2
    go_enter Try.func11, Try.ntmps11
    go_upto_region 1 with (fail)
    rw [← hw1.out]
    go_wp2_with fail
    refine hCn.out.mono ?_
    rintro e w2 ⟨rfl, B2⟩
    clear hCn g0 g1 g2
    obtain ⟨g0, g1, g2⟩ := hG1.out w2 B2
    go_wp2_with fail
    refine (hGr2.out w2 B2).mono ?_
    rintro e w3 ⟨mb, rfl, h1, h2, hP, b3⟩
    have B3 := B2.trans (b3.mono B2.size)
    have hPW := Lib.hid (fun W (q : Below w3.heap.size w3 W) => hP.below q h2)
    have hmW := Lib.hid (fun W (q : Below w3.heap.size w3 W) => Nat.lt_of_lt_of_le h2 q.size)
    have hG3 := Lib.hid (fun W (q : Below w3.heap.size w3 W) => hG1.out W (B3.trans (q.mono B3.size)))
    have hB3w : Hid (w.heap.size ≤ w3.heap.size) := by have := hbase.out; have := B3.size; show _ ≤ _; omega
    have hB3 := Lib.hid (fun W (q : Below w3.heap.size w3 W) => B3.trans (q.mono B3.size))
    clear b3 B2 hGr2 hP h1 h2 g0 g1 g2 B3
    go_upto_region 5 with (fail)
    refine wp_region_F (fun W => Below w3.heap.size w3 W) 999 (by kernel_rfl) ((Below.refl _ w3).drew) (fun hHeld => ?_)
    refine tkP 0 rfl ?_ (by (intro w h; obtain ⟨u0, u1, u2⟩ := hG3.out w h; clear h; go_simp) <;> with_reducible rfl)
    refine tkP 1 rfl ?_
    refine tkP 2 rfl ?_
    refine tkP 4 rfl ?_ (by (intro w h; obtain ⟨u0, u1, u2⟩ := hG3.out w h; clear h; go_simp) <;> with_reducible rfl)
    refine tkP 5 rfl ?_
    refine tkP 6 rfl ?_
    refine rdy [3] ?_
    refine arC rfl (fun K hK => ?_) AllReadyF.nil
    rw [if_pos (by rfl)]
    refine Rel.post_wp (R := fun r w4 => OwnI w4 w3.heap.size r l1 ∧ Below w3.heap.size w3 w4) (post_call Try.f30 rfl Try.func30 (by kernel_rfl) (by kernel_rfl) #[.agg #[.slice a1 n1 a2, .slice b1 n2 b2, .slice c1v n3 c2], .map (some mb), .int .i64 a] (by simp [Act.eval]) ((hCa.out mb _ (hB3.out _ hHeld) (hPW.out _ hHeld) (hmW.out _ hHeld)).mono ?_)) (fun f w4 hR4 => ?_)
    · rintro e w4 ⟨r, rfl, ho, bb⟩
      exact ⟨r, rfl, ho, hHeld.trans (bb.mono hHeld.size)⟩
    obtain ⟨ho4, b4⟩ := hR4
    replace ho4 := Lib.hid ho4
    clear hHeld
    refine hK.out _ _ b4 (fun hHeld => ?_)
    clear hK K b4
    try simp only [Act.put, zT, z0, zS]
    refine rdy [7] ?_
    refine arC rfl (fun K hK => ?_) AllReadyF.nil
    rw [if_pos (by rfl)]
    refine Rel.post_wp (R := fun r w5 => OwnI w5 w4.heap.size r l2 ∧ Below w4.heap.size w4 w5) (post_call Try.f30 rfl Try.func30 (by kernel_rfl) (by kernel_rfl) #[.agg #[.slice a1 n1 a2, .slice b1 n2 b2, .slice c1v n3 c2], .map (some mb), .int .i64 b] (by simp [Act.eval]) ((hCb.out mb _ (hB3.out _ hHeld) (hPW.out _ hHeld) (hmW.out _ hHeld)).mono ?_)) (fun t w5 hR5 => ?_)
    · rintro e w5 ⟨r, rfl, ho, bb⟩
      exact ⟨r, rfl, ho, bb⟩
    obtain ⟨ho5, b5⟩ := hR5
    have b6 := hHeld.trans (b5.mono hHeld.size)
    have ho6 : Hid (OwnI w5 w3.heap.size f l1) := own_below ho4.out b5
    have hap : Hid (∀ x, f.ownBlock = some x → t.ownBlock ≠ some x) := fun x h1 h2 => by
      have k1 := (OwnI.base ho4.out x h1).2
      have k2 := (OwnI.base ho5 x h2).1
      omega
    have hsz4 := Lib.hid hHeld.size
    replace ho5 := Lib.hid ho5
    clear hHeld b5 ho4
    refine hK.out _ _ b6 (fun hHeld => ?_)
    clear hK K b6
    try simp only [Act.put, zT, z0, zS]
    refine tkP 8 rfl ?_
    refine tkP 9 rfl ?_
    refine wpAnyF_done (by kernel_rfl) ?_ _
    have hO2 : Hid (OwnI w5 w3.heap.size t l2) := ⟨ho5.out.1, ho5.out.2.imp id fun ⟨g, cap, cur, h1, h2, h3⟩ => ⟨g, cap, cur, h1, Nat.le_trans hsz4.out h2, h3⟩⟩
    clear ho5 hsz4 hCa hCb hPW hmW hG3
    obtain ⟨ff, fc, rfl, flc, fg⟩ := OwnI.form ho6.out
    obtain ⟨tf, tc, rfl, tlc, tg⟩ := OwnI.form hO2.out
    replace fg := Lib.hid fg
    replace tg := Lib.hid tg
    have hH5' := hB3.out _ hHeld
    have hz3w := hB3w.out
    have hH5 : Hid (Below w.heap.size w w5) := hB0.out.trans (hH5'.mono hB0.out.size)
    clear hH5'
    replace hz3w := Lib.hid hz3w
    clear hHeld hB3
    go_wp2_with fail
    obtain ⟨L1, hL1⟩ : ∃ L, Hid (L = l1.length) := ⟨_, rfl⟩
    obtain ⟨L2, hL2⟩ : ∃ L, Hid (L = l2.length) := ⟨_, rfl⟩
    rw [← hL1.out] at hla flc fg ho6 hap ⊢
    rw [← hL2.out] at hlb tlc tg hO2 hap ⊢
    have hla2 := hla.out
    have hlb2 := hlb.out
    have hz0 : strk l1 l2 L1 L2 := by unfold strk; rw [List.take_of_length_le (by rw [hL1.out]; exact Nat.le_refl _), List.take_of_length_le (by rw [hL2.out]; exact Nat.le_refl _)]
    replace hz0 := Lib.hid hz0
    go_loopg [11, 12] L1 (fun n fv tv wr => ∃ m2, fv = .slice ff n fc ∧ tv = .slice tf m2 tc ∧ n ≤ L1 ∧ m2 ≤ L2 ∧ strk l1 l2 n m2 ∧ Below w5.heap.size w5 wr)
    case atStart => exact ⟨L2, rfl, rfl, Nat.le_refl _, Nat.le_refl _, hz0.out, Below.refl _ _⟩
    case round =>
      clear hz0
      obtain ⟨m2, rfl, rfl, q1, q2, hsk, B⟩ := hrel
      obtain ⟨wo, rfl⟩ : ∃ x, x = wr := ⟨_, rfl⟩
      replace hsk := Lib.hid hsk
      by_cases hm1 : gk = 0
      · have t1 : decide ((gk : Int) > 0) = false := by rw [decide_eq_false_iff_not]; omega
        have t2 : decide ((0 : Int) < (gk : Int)) = false := by rw [decide_eq_false_iff_not]; omega
        have t3 : decide (0 < gk) = false := by rw [decide_eq_false_iff_not]; omega
        have hend := Lib.hid (strk_end hsk.out (.inl hm1))
        clear hm1
        go_wp2_with fail
        refine q_region (fun W => Below wo.heap.size wo W) (by kernel_rfl) (by kernel_rfl) ((Below.refl _ wo).drew) ?_
        repeat (first | (refine q_skip (by rfl) ?_; try simp only [Act.put, zT, z0, zS]) | (refine q_take (v := ?_) (by rfl) ?_ ?_; rotate_left; (first | ((intro w h; clear h; go_simp) <;> with_reducible rfl)); try simp only [Act.put, zT, z0, zS]))
        refine q_nil ?_
        intro wz hz
        have hB6 := Lib.hid (B.trans (hz.mono B.size))
        have hzz := Lib.hid hz
        clear hz t1 t2 t3
        have hF : Hid (OwnI wz w3.heap.size (.slice ff gk fc) (l1.take gk)) := OwnI.cut (own_below ho6.out (B.trans (hzz.out.mono B.size))) hL1.out q1
        have hT : Hid (OwnI wz w3.heap.size (.slice tf m2 tc) (l2.take m2)) := OwnI.cut (own_below hO2.out (B.trans (hzz.out.mono B.size))) hL2.out q2
        have hRv := Lib.hid (Reverse_own _ _ _ wz hT.out (by rw [List.length_take]; omega))
        have hBz := Lib.hid (hH5.out.trans (hB6.out.mono hH5.out.size))
        have hA := Lib.hid (fun x => hap.out x)
        have hz3 : Hid (w.heap.size ≤ w3.heap.size) := hz3w.out
        go_wp2_with fail
        refine hRv.out.mono ?_
        rintro e w7 ⟨rfl, hT7, g7⟩
        have hF7 : Hid (OwnI w7 w3.heap.size (.slice ff gk fc) (l1.take gk)) := own_apart hF.out g7 (fun x hx => by rw [ownB_len _ _ L2 _ tc]; exact hap.out x (by rw [ownB_len _ _ gk _ fc]; exact hx))
        have hB7 := Lib.hid (Below.grown hBz.out g7 hBz.out.size (fun x hx => by have := (OwnI.base hT.out x hx).1; have := hz3.out; omega))
        replace hT7 := Lib.hid hT7
        obtain ⟨w8, hw8⟩ : ∃ w8, w8 = w7.alloc (.cells #[.slice ff gk fc, .slice tf m2 tc] 26) := ⟨_, rfl⟩
        have b8 : Below w7.heap.size w7 w8 := by rw [hw8]; exact (Below.refl _ w7).alloc (Nat.le_refl _) _
        have jb : w8.heap[w7.heap.size]? = some (.cells #[.slice ff gk fc, .slice tf m2 tc] 26 (0, 0)) := by rw [hw8]; exact two_cells _ _ _ _
        have hJn := Lib.hid (join_any _ _ _ _ w7.heap.size w8 jb (OwnI.DL (own_below hF7.out b8)) (OwnI.DL (own_below hT7.out b8)) (by rw [List.length_reverse, List.length_take, List.length_take]; omega))
        have hB8 := Lib.hid (hB7.out.trans (b8.mono hB7.out.size))
        replace hw8 := Lib.hid hw8
        clear g7 hRv hF hT b8 jb hA
        go_wp2_with fail
        rw [← hw8.out]
        refine hJn.out.mono ?_
        rintro e w9 ⟨r, rfl, hr9, b9⟩
        have hB9 := Lib.hid (hB8.out.trans (b9.mono hB8.out.size))
        have hr10 : Hid (OwnI w9 w.heap.size r R1) := by
          have hle := hB8.out.size
          show OwnI _ _ _ _
          rw [hPF.out, ← hend.out]
          exact ⟨hr9.1, hr9.2.imp id fun ⟨g, cap, cur, h1, h2, h3⟩ => ⟨g, cap, cur, h1, by omega, h3⟩⟩
        clear b9 hr9 hJn
        go_wp2_with fail
        go_ret2
        rw [r2.out]
        exact ⟨_, rfl, hr10.out, hB9.out⟩
      · have t1 : decide ((gk : Int) > 0) = true := by rw [decide_eq_true_iff]; omega
        have t2 : decide ((0 : Int) < (gk : Int)) = true := by rw [decide_eq_true_iff]; omega
        have t3 : decide (0 < gk) = true := by rw [decide_eq_true_iff]; omega
        by_cases hm2 : m2 = 0
        · have s1 : decide ((m2 : Int) > 0) = false := by rw [decide_eq_false_iff_not]; omega
          have s2 : decide ((0 : Int) < (m2 : Int)) = false := by rw [decide_eq_false_iff_not]; omega
          have s3 : decide (0 < m2) = false := by rw [decide_eq_false_iff_not]; omega
          have hend := Lib.hid (strk_end hsk.out (.inr (.inl hm2)))
          clear hm1 hm2
          go_wp2_with fail
          refine q_region (fun W => Below wo.heap.size wo W) (by kernel_rfl) (by kernel_rfl) ((Below.refl _ wo).drew) ?_
          repeat (first | (refine q_skip (by rfl) ?_; try simp only [Act.put, zT, z0, zS]) | (refine q_take (v := ?_) (by rfl) ?_ ?_; rotate_left; (first | ((intro w h; clear h; go_simp) <;> with_reducible rfl)); try simp only [Act.put, zT, z0, zS]))
          refine q_nil ?_
          intro wz hz
          have hB6 := Lib.hid (B.trans (hz.mono B.size))
          have hzz := Lib.hid hz
          clear hz t1 t2 t3 s1 s2 s3
          have hF : Hid (OwnI wz w3.heap.size (.slice ff gk fc) (l1.take gk)) := OwnI.cut (own_below ho6.out (B.trans (hzz.out.mono B.size))) hL1.out q1
          have hT : Hid (OwnI wz w3.heap.size (.slice tf m2 tc) (l2.take m2)) := OwnI.cut (own_below hO2.out (B.trans (hzz.out.mono B.size))) hL2.out q2
          have hRv := Lib.hid (Reverse_own _ _ _ wz hT.out (by rw [List.length_take]; omega))
          have hBz := Lib.hid (hH5.out.trans (hB6.out.mono hH5.out.size))
          have hA := Lib.hid (fun x => hap.out x)
          have hz3 : Hid (w.heap.size ≤ w3.heap.size) := hz3w.out
          go_wp2_with fail
          refine hRv.out.mono ?_
          rintro e w7 ⟨rfl, hT7, g7⟩
          have hF7 : Hid (OwnI w7 w3.heap.size (.slice ff gk fc) (l1.take gk)) := own_apart hF.out g7 (fun x hx => by rw [ownB_len _ _ L2 _ tc]; exact hap.out x (by rw [ownB_len _ _ gk _ fc]; exact hx))
          have hB7 := Lib.hid (Below.grown hBz.out g7 hBz.out.size (fun x hx => by have := (OwnI.base hT.out x hx).1; have := hz3.out; omega))
          replace hT7 := Lib.hid hT7
          obtain ⟨w8, hw8⟩ : ∃ w8, w8 = w7.alloc (.cells #[.slice ff gk fc, .slice tf m2 tc] 26) := ⟨_, rfl⟩
          have b8 : Below w7.heap.size w7 w8 := by rw [hw8]; exact (Below.refl _ w7).alloc (Nat.le_refl _) _
          have jb : w8.heap[w7.heap.size]? = some (.cells #[.slice ff gk fc, .slice tf m2 tc] 26 (0, 0)) := by rw [hw8]; exact two_cells _ _ _ _
          have hJn := Lib.hid (join_any _ _ _ _ w7.heap.size w8 jb (OwnI.DL (own_below hF7.out b8)) (OwnI.DL (own_below hT7.out b8)) (by rw [List.length_reverse, List.length_take, List.length_take]; omega))
          have hB8 := Lib.hid (hB7.out.trans (b8.mono hB7.out.size))
          replace hw8 := Lib.hid hw8
          clear g7 hRv hF hT b8 jb hA
          go_wp2_with fail
          rw [← hw8.out]
          refine hJn.out.mono ?_
          rintro e w9 ⟨r, rfl, hr9, b9⟩
          have hB9 := Lib.hid (hB8.out.trans (b9.mono hB8.out.size))
          have hr10 : Hid (OwnI w9 w.heap.size r R1) := by
            have hle := hB8.out.size
            show OwnI _ _ _ _
            rw [hPF.out, ← hend.out]
            exact ⟨hr9.1, hr9.2.imp id fun ⟨g, cap, cur, h1, h2, h3⟩ => ⟨g, cap, cur, h1, by omega, h3⟩⟩
          clear b9 hr9 hJn
          go_wp2_with fail
          go_ret2
          rw [r2.out]
          exact ⟨_, rfl, hr10.out, hB9.out⟩
        · have s1 : decide ((m2 : Int) > 0) = true := by rw [decide_eq_true_iff]; omega
          have s2 : decide ((0 : Int) < (m2 : Int)) = true := by rw [decide_eq_true_iff]; omega
          have s3 : decide (0 < m2) = true := by rw [decide_eq_true_iff]; omega
          obtain ⟨k1, hk1⟩ : ∃ k, gk = k + 1 := ⟨gk - 1, by omega⟩
          obtain ⟨k2, hk2⟩ : ∃ k, m2 = k + 1 := ⟨m2 - 1, by omega⟩
          have hx1 : k1 < l1.length := by rw [← hL1.out]; omega
          have hx2 : k2 < l2.length := by rw [← hL2.out]; omega
          obtain ⟨g1v, rfl⟩ := fg.out (by omega)
          obtain ⟨g2v, rfl⟩ := tg.out (by omega)
          have e1 := List.getElem?_eq_getElem hx1
          have e2 := List.getElem?_eq_getElem hx2
          have c1 := (OwnI.at_ (own_below ho6.out B) k1 _ e1).1
          have c2' := (OwnI.at_ (own_below hO2.out B) k2 _ e2).1
          have hcc := Lib.hid (fun W (q : Below wo.heap.size wo W) => (show W.cell? ⟨g1v, k1, none⟩ = some (.int .i64 l1[k1]) ∧ W.cell? ⟨g2v, k2, none⟩ = some (.int .i64 l2[k2]) from ⟨(OwnI.at_ (own_below (own_below ho6.out B) q) k1 _ e1).1, (OwnI.at_ (own_below (own_below hO2.out B) q) k2 _ e2).1⟩))
          have hwa : IntKind.i64.wrap ((gk : Int) - 1) = (k1 : Int) := by rw [IntWalk.i64_in _ (by omega)]; omega
          have hwb : IntKind.i64.wrap ((m2 : Int) - 1) = (k2 : Int) := by rw [IntWalk.i64_in _ (by omega)]; omega
          have j1 : (0 : Int) ≤ (k1 : Int) := by omega
          have j2 : (k1 : Int) < (gk : Int) := by omega
          have j3 : (0 : Int) ≤ (k2 : Int) := by omega
          have j4 : (k2 : Int) < (m2 : Int) := by omega
          have hst := Lib.hid (fun (h : l1[k1] = l2[k2]) => strk_step (l1 := l1) (l2 := l2) (n1 := k1) (n2 := k2) (by rw [← hk1, ← hk2]; exact hsk.out) e1 (by rw [e2, h]))
          have hen := Lib.hid (fun (h : ¬ l1[k1] = l2[k2]) => strk_end hsk.out (.inr (.inr ⟨k1, k2, _, _, hk1, hk2, e1, e2, h⟩)))
          have hq : Hid (k1 < gk ∧ k1 ≤ L1 ∧ k2 ≤ L2) := by show _ ∧ _; omega
          replace hk1 := Lib.hid hk1
          replace hk2 := Lib.hid hk2
          generalize l1[k1] = x at *
          generalize l2[k2] = y at *
          clear e1 e2 c1 c2' hx1 hx2 hm1 hm2
          have j5 : (k1 : Int) ≤ (fc : Int) := by have := hq.out; omega
          have j6 : (k2 : Int) ≤ (tc : Int) := by have := hq.out; omega
          by_cases hxy : x = y
          · have t4 : (x == y) = true := by simpa using hxy
            have hnx := Lib.hid (hst.out hxy)
            clear hxy hst hen
            go_wp2_with fail
            refine q_region (fun W => Below wo.heap.size wo W) (by kernel_rfl) (by kernel_rfl) ((Below.refl _ wo).drew) ?_
            repeat (first | (refine q_skip (by rfl) ?_; try simp only [Act.put, zT, z0, zS]) | (refine q_take (v := ?_) (by rfl) ?_ ?_; rotate_left; (first | ((intro w h; clear h; go_simp) <;> with_reducible rfl) | ((intro w h; obtain ⟨e1, e2⟩ := hcc.out w h; clear h; go_simp) <;> with_reducible rfl)); try simp only [Act.put, zT, z0, zS]))
            refine q_nil ?_
            intro wz hz
            have hB6 := Lib.hid (B.trans (hz.mono B.size))
            clear hz t1 t2 t3 s1 s2 s3 t4
            go_wp2_with fail
            refine q_region (fun W => Below w5.heap.size w5 W) (by kernel_rfl) (by kernel_rfl) (hB6.out.drew) ?_
            repeat (first | (refine q_skip (by rfl) ?_; try simp only [Act.put, zT, z0, zS]) | (refine q_take (v := ?_) (by rfl) ?_ ?_; rotate_left; (first | ((intro w h; clear h; go_simp) <;> with_reducible rfl)); try simp only [Act.put, zT, z0, zS]))
            refine q_nil ?_
            intro wy hy
            replace hy := Lib.hid hy
            go_wp2_with fail
            go_roundg k1
            case measure => exact hq.out.1
            case rel => exact ⟨k2, rfl, rfl, hq.out.2.1, hq.out.2.2, hnx.out, hy.out⟩
          · have t4 : (x == y) = false := by simpa using hxy
            have hend := Lib.hid (hen.out hxy)
            clear hxy hst hen
            go_wp2_with fail
            refine q_region (fun W => Below wo.heap.size wo W) (by kernel_rfl) (by kernel_rfl) ((Below.refl _ wo).drew) ?_
            repeat (first | (refine q_skip (by rfl) ?_; try simp only [Act.put, zT, z0, zS]) | (refine q_take (v := ?_) (by rfl) ?_ ?_; rotate_left; (first | ((intro w h; clear h; go_simp) <;> with_reducible rfl) | ((intro w h; obtain ⟨e1, e2⟩ := hcc.out w h; clear h; go_simp) <;> with_reducible rfl)); try simp only [Act.put, zT, z0, zS]))
            refine q_nil ?_
            intro wz hz
            have hB6 := Lib.hid (B.trans (hz.mono B.size))
            have hzz := Lib.hid hz
            clear hz t1 t2 t3 s1 s2 s3 t4 hcc
            have hF : Hid (OwnI wz w3.heap.size (.slice (some ⟨g1v, 0, none⟩) gk fc) (l1.take gk)) := OwnI.cut (own_below ho6.out (B.trans (hzz.out.mono B.size))) hL1.out q1
            have hT : Hid (OwnI wz w3.heap.size (.slice (some ⟨g2v, 0, none⟩) m2 tc) (l2.take m2)) := OwnI.cut (own_below hO2.out (B.trans (hzz.out.mono B.size))) hL2.out q2
            have hRv := Lib.hid (Reverse_own _ _ _ wz hT.out (by rw [List.length_take]; omega))
            have hBz := Lib.hid (hH5.out.trans (hB6.out.mono hH5.out.size))
            have hA := Lib.hid (fun x => hap.out x)
            have hz3 : Hid (w.heap.size ≤ w3.heap.size) := hz3w.out
            go_wp2_with fail
            refine hRv.out.mono ?_
            rintro e w7 ⟨rfl, hT7, g7⟩
            have hF7 : Hid (OwnI w7 w3.heap.size (.slice (some ⟨g1v, 0, none⟩) gk fc) (l1.take gk)) := own_apart hF.out g7 (fun x hx => by rw [ownB_len _ _ L2 _ tc]; exact hap.out x (by rw [ownB_len _ _ gk _ fc]; exact hx))
            have hB7 := Lib.hid (Below.grown hBz.out g7 hBz.out.size (fun x hx => by have := (OwnI.base hT.out x hx).1; have := hz3.out; omega))
            replace hT7 := Lib.hid hT7
            obtain ⟨w8, hw8⟩ : ∃ w8, w8 = w7.alloc (.cells #[.slice (some ⟨g1v, 0, none⟩) gk fc, .slice (some ⟨g2v, 0, none⟩) m2 tc] 26) := ⟨_, rfl⟩
            have b8 : Below w7.heap.size w7 w8 := by rw [hw8]; exact (Below.refl _ w7).alloc (Nat.le_refl _) _
            have jb : w8.heap[w7.heap.size]? = some (.cells #[.slice (some ⟨g1v, 0, none⟩) gk fc, .slice (some ⟨g2v, 0, none⟩) m2 tc] 26 (0, 0)) := by rw [hw8]; exact two_cells _ _ _ _
            have hJn := Lib.hid (join_any _ _ _ _ w7.heap.size w8 jb (OwnI.DL (own_below hF7.out b8)) (OwnI.DL (own_below hT7.out b8)) (by rw [List.length_reverse, List.length_take, List.length_take]; omega))
            have hB8 := Lib.hid (hB7.out.trans (b8.mono hB7.out.size))
            replace hw8 := Lib.hid hw8
            clear g7 hRv hF hT b8 jb hA
            go_wp2_with fail
            rw [← hw8.out]
            refine hJn.out.mono ?_
            rintro e w9 ⟨r, rfl, hr9, b9⟩
            have hB9 := Lib.hid (hB8.out.trans (b9.mono hB8.out.size))
            have hr10 : Hid (OwnI w9 w.heap.size r R1) := by
              have hle := hB8.out.size
              show OwnI _ _ _ _
              rw [hPF.out, ← hend.out]
              exact ⟨hr9.1, hr9.2.imp id fun ⟨g, cap, cur, h1, h2, h3⟩ => ⟨g, cap, cur, h1, by omega, h3⟩⟩
            clear b9 hr9 hJn
            go_wp2_with fail
            go_ret2
            rw [r2.out]
            exact ⟨_, rfl, hr10.out, hB9.out⟩

end Go.Proofs.Ythmkmjkbfjhffaa
