/- The reference's Encode. -/
import Derived.Test.YtlaldnlgapeckaaGreatZH
import Derived.Test.YtlaldnlgapeckaaGreatYHq
set_option linter.unusedSimpArgs false
set_option maxRecDepth 100000
set_option maxHeartbeats 4000000
namespace Go.Proofs.YtlaldnlgapeckaaGreat
open Go.RowKit
def vN (u : Vx) : List Int := [u.id, u.side]
def gN1 (g : Gr) : List Int := [(g.vs.length : Int)] ++ g.vs.flatMap vN
def gN2 (g : Gr) : List Int := gN1 g ++ [(g.es.length : Int)] ++ g.es.flatMap edN
def gN (g : Gr) : List Int := gN2 g ++ [(g.ds.length : Int)] ++ g.ds
theorem gN_enc (g : Gr) : (gN g).flatMap putL = encB g := by
 have h1 : ∀ l : List Vx, (l.flatMap vN).flatMap putL = l.flatMap vB := fun l => by
  induction l with
  | nil => rfl
  | cons u t ih => simp only [List.flatMap_cons, List.flatMap_append, ih]; simp [vN, vB]
 have h2 : ∀ l : List Ed, (l.flatMap edN).flatMap putL = l.flatMap eB := fun l => by
  induction l with
  | nil => rfl
  | cons u t ih => simp only [List.flatMap_cons, List.flatMap_append, ih]; rfl
 unfold gN gN2 gN1 encB lB
 simp only [List.flatMap_append, h1, h2]
 simp
theorem gN_ok {g : Gr} (h : Ok g) : okP (gN g) = true := by
 have l1 := h.vlen
 have l2 := h.elen
 have l3 := h.dlen
 rw [okP_iff]
 intro n hn
 unfold gN gN2 gN1 at hn
 simp only [List.mem_append, List.mem_singleton, List.mem_flatMap] at hn
 rcases hn with ((((rfl | ⟨u, hu, hn⟩) | rfl) | ⟨u, hu, hn⟩) | rfl) | hn
 all_goals first | (unfold inP; omega) | skip
 · have := h.inV u hu
   unfold vN at hn
   simp only [List.mem_cons, List.not_mem_nil, or_false] at hn
   rcases hn with rfl | rfl
   · exact this.1
   · exact this.2
 · exact h.inE u hu n hn
 · exact h.inD n hn
theorem vN_len (l : List Vx) : (l.flatMap vN).length = 2 * l.length := by
 induction l with
 | nil => rfl
 | cons u t ih => rw [List.flatMap_cons, List.length_append, ih]; simp [vN]; omega
theorem eN_len (l : List Ed) : (l.flatMap edN).length = 6 * l.length := by
 induction l with
 | nil => rfl
 | cons u t ih => rw [List.flatMap_cons, List.length_append, ih]; simp [edN]; omega
theorem gN_in {g : Gr} (h : okP (gN g) = true) : ∀ n ∈ gN g, inI n := fun n hn => ((okP_iff _).1 h n hn).toI
theorem EncodeR_any (v : Value) (g : Gr) (w : World) (hv : GV w v g) (hn : g.small) :
  Calls Tryz.prog 33 #[v] w (EncPost g w) := by
 obtain ⟨a, b, c, rfl, h1, h2, h3⟩ := hv
 obtain ⟨w1, hw1⟩ : ∃ w1, w1 = w.alloc (.cells #[a, b, c] 26) := ⟨_, rfl⟩
 obtain ⟨B1, z1, hcell0⟩ := one_box w w1 a b c 26 hw1
 have hcell := Hd hcell0
 have k1 := Hd (ValidR_any (.agg #[a, b, c]) g w1 ⟨a, b, c, rfl, h1.below B1, h2.below B1, h3.below B1⟩ hn)
 have hB1 := Hd B1
 obtain ⟨a1, a2, rfl⟩ := h1.shape
 obtain ⟨b1, b2, rfl⟩ := h2.shape
 obtain ⟨c1, c2, rfl⟩ := h3.shape
 have cV := Hd (fun (k : Nat) (hk : k < g.vs.length) => cellsV h1 k hk)
 have cE := Hd (fun (k : Nat) (hk : k < g.es.length) => cellsE h2 k hk)
 have hD := Hd (fun W (BB : Below w.heap.size w W) => h3.below BB)
 replace hw1 := Hd hw1
 obtain ⟨d0, d1, d2⟩ := hcell.out w1 (Below.refl _ _)
 cases hok : g.ok with
 | false =>
  have hP : Hid (∀ W, Below w.heap.size w W → EncPost g w (.returned (.tuple #[.string ⟨#[]⟩, .int .i64 30])) W) := fun W B => ⟨by rw [hok]; rfl, B⟩
  rw [hok] at k1
  rw [hw1.out] at d0 d1 d2
  clear hcell0 B1 h1 h2 h3 hn hok hcell cV cE hD
  generalize g.vs.length = n1 at *
  generalize g.es.length = n2 at *
  generalize g.ds.length = n3 at *
  go_enter Tryz.func33, Tryz.ntmps33
  go_wp2_with fail
  rw [← hw1.out]
  with_reducible refine k1.out.mono ?_
  rintro e w2 ⟨rfl, hq⟩
  have hB2 := Hd (hB1.out.trans (hq.mono hB1.out.size))
  clear hq
  go_wp2_with fail
  go_ret2
  exact hP.out _ hB2.out
 | true =>
  have hO := (ok_iff g).1 hok
  have hP : Hid (∀ W, Below w.heap.size w W → EncPost g w (.returned (.tuple #[.string ⟨(encB g).toArray⟩, .int .i64 0])) W) := fun W B => ⟨by rw [hok]; rfl, B⟩
  rw [hok] at k1
  rw [hw1.out] at d0 d1 d2
  have l1 := hO.vlen
  have l2 := hO.elen
  have l3 := hO.dlen
  have hN := Hd (gN_ok hO)
  have hNl := Hd (show (gN g).length ≤ 1000000 by
   simp only [gN, gN2, gN1, List.length_append, vN_len, eN_len, List.length_singleton]
   omega)
  obtain ⟨n1, hn1⟩ : ∃ n1, Hid (n1 = g.vs.length) := ⟨_, rfl⟩
  obtain ⟨n2, hn2⟩ : ∃ n2, Hid (n2 = g.es.length) := ⟨_, rfl⟩
  obtain ⟨n3, hn3⟩ : ∃ n3, Hid (n3 = g.ds.length) := ⟨_, rfl⟩
  clear hcell0 B1 h1 h2 h3 hn hok hO
  rw [← hn1.out, ← hn2.out, ← hn3.out] at hw1 d0 d1 d2 k1 hcell
  simp only [← hn1.out, ← hn2.out, ← hn3.out] at l1 l2 l3 cV cE hD ⊢
  go_enter Tryz.func33, Tryz.ntmps33
  go_wp2_with fail
  rw [← hw1.out]
  with_reducible refine k1.out.mono ?_
  rintro e w2 ⟨rfl, hq⟩
  have hB2 := Hd (hB1.out.trans (hq.mono hB1.out.size))
  obtain ⟨w3, hw3⟩ : ∃ w3, w3 = w2.alloc (.cells (cI [(n1 : Int)]).toArray 3) := ⟨_, rfl⟩
  obtain ⟨B0, hB0⟩ : ∃ B, Hid (B = w2.heap.size) := ⟨_, rfl⟩
  have hL := Hd (show OwnI w3 B0 (.slice (some ⟨w2.heap.size, 0, none⟩) 1 1) [(n1 : Int)] by rw [hw3, hB0.out]; exact own_lit w2 w2.heap.size [(n1 : Int)] (Nat.le_refl _) (by simp))
  have hb3 := Hd (show Below B0 w2 w3 by rw [hw3, hB0.out]; exact (Below.refl _ w2).alloc (Nat.le_refl _) _)
  have hbox := Hd (fun W (BB : Below B0 w2 W) => hcell.out W (hq.trans (BB.mono (by rw [hB0.out]; exact hq.size))))
  have hup := Hd (fun W (BB : Below B0 w2 W) => (hB2.out.trans (BB.mono (by rw [hB0.out]; exact hB2.out.size)) : Below w.heap.size w W))
  have hs0 := Hd (fun W (BB : Below B0 w2 W) => (show B0 ≤ W.heap.size by rw [hB0.out]; exact BB.size))
  simp only [cI, List.map_cons, List.map_nil] at hw3
  replace hw3 := Hd hw3
  obtain ⟨q0, q1, q2⟩ := hbox.out w2 (by rw [hB0.out]; exact Below.refl _ _)
  clear d0 d1 d2 hq k1 hcell hw1 hB1
  have l1 := Hd l1
  have l2 := Hd l2
  go_wp2_with fail
  rw [← hw3.out]
  clear q0 q1 q2
  go_loopw [4, 5] (fun lv i wr => ∃ (k : Nat), k ≤ n1 ∧ i = .int .i64 k ∧ Hid (OwnI wr B0 lv ([(n1 : Int)] ++ (g.vs.take k).flatMap vN)) ∧ Hid (Below B0 w2 wr)) (fun _ i _ => n1 - (intOf i).toNat)
  case atStart => exact ⟨0, Nat.zero_le _, rfl, by show OwnI _ _ _ _; simpa using hL.out, hb3⟩
  case round =>
   obtain ⟨k, hk, rfl, hown, hb⟩ := hrel
   obtain ⟨xa, xc, ex⟩ := hown.out.DL.shape
   obtain ⟨M, hM⟩ : ∃ M, Hid (M = ([(n1 : Int)] ++ (g.vs.take k).flatMap vN).length) := ⟨_, rfl⟩
   rw [← hM.out] at ex
   subst ex
   obtain ⟨u0, u1, u2⟩ := hbox.out wr hb.out
   by_cases hlt : k < n1
   · have i0' : (0 : Int) ≤ (k : Int) := by omega
     have i1 : (k : Int) < (n1 : Int) := by omega
     obtain ⟨vb, vo, c, he, hc⟩ := cV.out k hlt
     injection he with he _ e3
     subst he e3
     have hall := Hd (fun W (BB : Below B0 w2 W) => (⟨hbox.out W BB, hc W (hup.out W BB)⟩ : _ ∧ _))
     have hkk : g.vs.take (k + 1) = g.vs.take k ++ [g.vs[k]'(by rw [← hn1.out]; exact hlt)] := by rw [List.take_append_getElem]
     obtain ⟨u, hu⟩ : ∃ u, Hid (u = g.vs[k]'(by rw [← hn1.out]; exact hlt)) := ⟨_, Hd rfl⟩
     rw [← hu.out] at hall hkk
     have hkk := Hd hkk
     have hMl : Hid (([(n1 : Int)] ++ (g.vs.take k).flatMap vN).length ≤ 1000) := by
      show _ ≤ _
      have := l1.out
      rw [List.length_append, vN_len, List.length_take]
      simp only [List.length_singleton]
      omega
     clear hc hu hM
     go_upto_region 7 with (fail)
     refine wp_region_F (fun W => Below B0 w2 W) 999 (by kernel_rfl) hb.out.drew (fun hHeld => ?_)
     clear u0 u1 u2
     refine tkP 0 rfl ?_
     refine tkP 1 rfl ?_
     refine tkP 2 rfl ?_ (by (intro w h; obtain ⟨⟨u0, u1, u2⟩, e0, e1⟩ := hall.out w h; clear h; go_simp) <;> with_reducible rfl)
     refine tkP 3 rfl ?_
     refine tkP 4 rfl ?_
     refine tkP 5 rfl ?_
     refine tkP 6 rfl ?_ (by (intro w h; obtain ⟨⟨u0, u1, u2⟩, e0, e1⟩ := hall.out w h; clear h; go_simp) <;> with_reducible rfl)
     refine tkP 7 rfl ?_
     refine tkP 8 rfl ?_ (by (intro w h; obtain ⟨⟨u0, u1, u2⟩, e0, e1⟩ := hall.out w h; clear h; go_simp) <;> with_reducible rfl)
     refine tkP 9 rfl ?_
     refine tkP 10 rfl ?_
     refine tkP 11 rfl ?_
     refine tkP 12 rfl ?_ (by (intro w h; obtain ⟨⟨u0, u1, u2⟩, e0, e1⟩ := hall.out w h; clear h; go_simp) <;> with_reducible rfl)
     refine rdy [13] ?_
     refine arC rfl (fun K hK => ?_) AllReadyF.nil
     go_simp
     go_wp2_with fail
     have hL := own_lit wr.drew B0 [u.id, u.side] (hs0.out _ hb.out.drew) (by simp)
     have hb4 : Below B0 w2 (wr.drew.alloc (.cells (cI [u.id, u.side]).toArray 3)) := hb.out.drew.alloc (hs0.out _ hb.out.drew) _
     refine hK.out _ _ hb4 (fun hHeld => ?_)
     clear hK K
     try simp only [Act.put, zT, z0, zS]
     refine rdy [14] ?_
     refine arC rfl (fun K hK => ?_) AllReadyF.nil
     have ox : OwnI (wr.drew.alloc (.cells (cI [u.id, u.side]).toArray 3)) B0 (.slice xa M xc) ([(n1 : Int)] ++ (g.vs.take k).flatMap vN) := own_below hown.out ((Below.refl _ wr).drew.alloc (Nat.le_refl _) _)
     obtain ⟨v', W', hra, hoa, hza, hBa⟩ := app_own _ B0 (.slice xa M xc) (.slice (some ⟨wr.heap.size, 0, none⟩) 2 2) _ [u.id, u.side] ox hL.DL (by have := hMl.out; simp only [List.length_cons, List.length_nil]; omega) (hs0.out _ hb4)
     have hb5 := Hd (hBa B0 w2 (Nat.le_refl _) hb4)
     refine wp_append_run (.tmp 23) (.tmp 36) 24 rfl _ _ rfl rfl _ _ hra ?_
     refine hK.out _ _ hb5.out (fun hHeld => ?_)
     clear hK K hra hL ox hb4
     try simp only [Act.put, zT, z0, zS]
     refine tkP 15 rfl ?_
     refine wpAnyF_done (by kernel_rfl) ?_ _
     have hoa := Hd hoa
     clear hHeld hBa hza
     go_wp2_with fail
     go_roundw
     case rel => exact ⟨k + 1, by omega, by go_num, by show OwnI _ _ _ _; rw [hkk.out, List.flatMap_append, ← List.append_assoc]; simpa [vN] using hoa.out, hb5⟩
     case measure => simp [intOf]; omega
   · have i1 : ¬ (k : Int) < (n1 : Int) := by omega
     have hkn : k = n1 := by omega
     have hoG : OwnI wr B0 (.slice xa M xc) (gN1 g) := by
      have := hown.out
      rw [hkn, hn1.out, List.take_length] at this
      exact this
     have hMG : Hid (M = (gN1 g).length) := by show _ = _; rw [hM.out, hkn, hn1.out, List.take_length]; rfl
     have hoG := Hd hoG
     clear hown hM hkn
     have hgl : Hid ((gN1 g).length ≤ 1000) := by
      show _ ≤ _
      have := l1.out
      have := hn1.out
      unfold gN1
      rw [List.length_append, vN_len]
      simp only [List.length_singleton]
      omega
     have hL8 := own_lit wr B0 [(n2 : Int)] (hs0.out _ hb.out) (by simp)
     have hb8 : Below B0 w2 (wr.alloc (.cells (cI [(n2 : Int)]).toArray 3)) := hb.out.alloc (hs0.out _ hb.out) _
     obtain ⟨v8, W8, hr8, ho8, hz8, hB8⟩ := app_own (wr.alloc (.cells (cI [(n2 : Int)]).toArray 3)) B0 (.slice xa M xc) (.slice (some ⟨wr.heap.size, 0, none⟩) 1 1) (gN1 g) [(n2 : Int)] (own_below hoG.out ((Below.refl _ wr).alloc (Nat.le_refl _) _)) hL8.DL (by have := hgl.out; simp only [List.length_cons, List.length_nil]; omega) (hs0.out _ hb8)
     have hb8 := Hd (hB8 B0 w2 (Nat.le_refl _) hb8)
     have ho8 := Hd ho8
     clear hL8 hz8 hB8 hoG hMG
     go_wp2_with (at_builtin; refine wpList_append_runB rfl (.tmp 38) (.tmp 42) 24 rfl _ _ rfl rfl _ _ hr8 ?_)
     clear hr8 u0 u1 u2
     go_loopw [4, 6] (fun lv i wr => ∃ (k : Nat), k ≤ n2 ∧ i = .int .i64 k ∧ Hid (OwnI wr B0 lv (gN1 g ++ [(n2 : Int)] ++ (g.es.take k).flatMap edN)) ∧ Hid (Below B0 w2 wr)) (fun _ i _ => n2 - (intOf i).toNat)
     case atStart => exact ⟨0, Nat.zero_le _, rfl, by show OwnI _ _ _ _; simpa using ho8.out, hb8⟩
     case round =>
      clear hb hlt i1 hk hb8 ho8
      obtain ⟨k, hk, rfl, hown, hb⟩ := hrel
      obtain ⟨xa, xc, ex⟩ := hown.out.DL.shape
      obtain ⟨M, hM⟩ : ∃ M, Hid (M = (gN1 g ++ [(n2 : Int)] ++ (g.es.take k).flatMap edN).length) := ⟨_, rfl⟩
      rw [← hM.out] at ex
      subst ex
      obtain ⟨u0, u1, u2⟩ := hbox.out wr hb.out
      by_cases hlt : k < n2
      · have i0' : (0 : Int) ≤ (k : Int) := by omega
        have i1 : (k : Int) < (n2 : Int) := by omega
        obtain ⟨vb, vo, c, he, hc⟩ := cE.out k hlt
        injection he with he _ e3
        subst he e3
        have hkk : g.es.take (k + 1) = g.es.take k ++ [g.es[k]'(by rw [← hn2.out]; exact hlt)] := by rw [List.take_append_getElem]
        obtain ⟨u, hu⟩ : ∃ u, Hid (u = g.es[k]'(by rw [← hn2.out]; exact hlt)) := ⟨_, Hd rfl⟩
        have hc1 := hc wr (hup.out wr hb.out)
        rw [← hu.out] at hc1 hkk
        have hkk := Hd hkk
        have hMl : Hid ((gN1 g ++ [(n2 : Int)] ++ (g.es.take k).flatMap edN).length ≤ 2000) := by
         show _ ≤ _
         have := l2.out
         have := hgl.out
         rw [List.length_append, List.length_append, eN_len, List.length_take]
         simp only [List.length_singleton]
         omega
        obtain ⟨q0, q1, q2, q3, q4, q5⟩ := hc1
        have k6 := Hd (six_any u wr)
        unfold edCells at k6
        clear hc hu hM
        go_wp2_with fail
        refine k6.out.mono ?_
        rintro e w6 ⟨v6, rfl, o6, b6⟩
        have hb6 : Below B0 w2 w6 := hb.out.trans (b6.mono (hs0.out _ hb.out))
        obtain ⟨v', W', hra, hoa, hza, hBa⟩ := app_own w6 B0 (.slice xa M xc) v6 _ (edN u) (own_below hown.out b6) o6.DL (by have := hMl.out; simp only [edN, List.length_cons, List.length_nil]; omega) (hs0.out _ hb6)
        have hb7 := Hd (hBa B0 w2 (Nat.le_refl _) hb6)
        have hoa := Hd hoa
        clear hb6 o6 b6 hza hBa k6
        go_wp2_with (at_builtin; refine wpList_append_runB rfl (.tmp 51) (.tmp 57) 24 rfl _ _ rfl rfl _ _ hra ?_)
        go_roundw
        case rel => exact ⟨k + 1, by omega, by go_num, by show OwnI _ _ _ _; rw [hkk.out, List.flatMap_append, ← List.append_assoc]; simpa using hoa.out, hb7⟩
        case measure => simp [intOf]; omega
      · have i1 : ¬ (k : Int) < (n2 : Int) := by omega
        have hkn : k = n2 := by omega
        have hoG : OwnI wr B0 (.slice xa M xc) (gN2 g) := by
         have := hown.out
         rw [hkn, hn2.out, List.take_length] at this
         exact this
        have hoG := Hd hoG
        have hg2 : Hid ((gN2 g).length ≤ 2000) := by
         show _ ≤ _
         have := l2.out
         have := hn2.out
         have := hgl.out
         unfold gN2
         rw [List.length_append, List.length_append, eN_len]
         simp only [List.length_singleton]
         omega
        clear hown hkn hM
        go_upto_region 13 with (fail)
        go_cut [4] from 59 to 67 (fun v wx => Hid (OwnI wx B0 v (gN g)) ∧ Hid (Below B0 w2 wx))
        case first =>
         have hall := Hd (fun W (BB : Below B0 w2 W) => (⟨hbox.out W BB, trivial⟩ : _ ∧ True))
         refine wp_region_F (fun W => Below B0 w2 W) 999 (by kernel_rfl) hb.out.drew (fun hHeld => ?_)
         clear u0 u1 u2
         refine tkP 0 rfl ?_
         refine tkP 1 rfl ?_
         refine tkP 2 rfl ?_ (by (intro w h; obtain ⟨⟨u0, u1, u2⟩, e0⟩ := hall.out w h; clear h; go_simp) <;> with_reducible rfl)
         refine tkP 3 rfl ?_
         refine tkP 6 rfl ?_
         refine tkP 7 rfl ?_ (by (intro w h; obtain ⟨⟨u0, u1, u2⟩, e0⟩ := hall.out w h; clear h; go_simp) <;> with_reducible rfl)
         refine rdy [4] ?_
         refine arC rfl (fun K hK => ?_) AllReadyF.nil
         go_simp
         go_wp2_with fail
         have hL := own_lit wr.drew B0 [(n3 : Int)] (hs0.out _ hb.out.drew) (by simp)
         have hb2 : Below B0 w2 (wr.drew.alloc (.cells (cI [(n3 : Int)]).toArray 3)) := hb.out.drew.alloc (hs0.out _ hb.out.drew) _
         refine hK.out _ _ hb2 (fun hHeld => ?_)
         clear hK K
         try simp only [Act.put, zT, z0, zS]
         refine rdy [5] ?_
         refine arC rfl (fun K hK => ?_) AllReadyF.nil
         have ox : OwnI (wr.drew.alloc (.cells (cI [(n3 : Int)]).toArray 3)) B0 (.slice xa M xc) (gN2 g) := own_below hoG.out ((Below.refl _ wr).drew.alloc (Nat.le_refl _) _)
         obtain ⟨v', W', hra, hoa, hza, hBa⟩ := app_own _ B0 (.slice xa M xc) (.slice (some ⟨wr.heap.size, 0, none⟩) 1 1) (gN2 g) [(n3 : Int)] ox hL.DL (by have := hg2.out; simp only [List.length_cons, List.length_nil]; omega) (hs0.out _ hb2)
         have hb3 := hBa B0 w2 (Nat.le_refl _) hb2
         refine wp_append_run (.tmp 59) (.tmp 63) 24 rfl _ _ rfl rfl _ _ hra ?_
         refine hK.out _ _ hb3 (fun hHeld => ?_)
         clear hK K hra hL ox hb2
         try simp only [Act.put, zT, z0, zS]
         refine rdy [8] ?_
         refine arC rfl (fun K hK => ?_) AllReadyF.nil
         have hyd := hD.out _ (hup.out _ hb3)
         obtain ⟨v'', W'', hra2, hoa2, hza2, hBa2⟩ := app_own W' B0 v' (.slice c1 n3 c2) (gN2 g ++ [(n3 : Int)]) g.ds hoa hyd (by have := hg2.out; have := hn3.out; simp only [List.length_append, List.length_cons, List.length_nil]; omega) (hs0.out _ hb3)
         have hb4 := hBa2 B0 w2 (Nat.le_refl _) hb3
         refine wp_append_run (.tmp 64) (.tmp 66) 24 rfl _ _ rfl rfl _ _ hra2 ?_
         refine hK.out _ _ hb4 (fun hHeld => ?_)
         clear hK K hra2 hoa hyd
         try simp only [Act.put, zT, z0, zS]
         refine tkP 9 rfl ?_
         refine wpAnyF_done (by kernel_rfl) ?_ _
         go_wp2_with fail
         go_meet
         case rel => exact ⟨by show OwnI _ _ _ _; unfold gN; rw [← hn3.out]; exact hoa2, hb4⟩
        case rest =>
        obtain ⟨o1, b1⟩ := hcut
        obtain ⟨wx, rfl⟩ : ∃ w', w' = wc := ⟨_, rfl⟩
        have hnum := Hd (fun v (h : OwnI wx B0 v (gN g)) => numbersR_any v (gN g) wx h.DL (gN_in hN.out) hNl.out)
        obtain ⟨va, vc, ev⟩ := o1.out.DL.shape
        subst ev
        have hnum := Hd (hnum.out _ o1.out)
        unfold NumsPost at hnum
        rw [hN.out, if_pos rfl, gN_enc] at hnum
        generalize (gN g).length = MM at *
        clear u0 u1 u2
        go_wp2_with fail
        refine hnum.out.mono ?_
        rintro e w9 ⟨rfl, b9⟩
        have hF := Hd (hP.out w9 ((hup.out _ b1.out).trans (b9.mono ((hup.out _ b1.out).size))))
        clear b9 hnum hP
        go_wp2_with fail
        go_ret2
        exact hF.out
end Go.Proofs.YtlaldnlgapeckaaGreat
