/- The decoding of changes. -/
import Derived.Test.YtlaldnlgapeckaaGreatYT
import Derived.Test.YtlaldnlgapeckaaGreatYH
set_option linter.unusedSimpArgs false
set_option maxRecDepth 100000
set_option maxHeartbeats 4000000
namespace Go.Proofs.YtlaldnlgapeckaaGreat
open Go.RowKit
theorem catch92 (p : Addr) (x : Int) (u : TypeId) (pv : Value) (older : List PanicEntry) (w : World) (hc : w.cell? p = some (.int .i64 x)) (hz : w.frozen? p = false) :
  CallsD Tryz.prog 92 #[.pointer (some p)] (.panicking ({ v := .iface u pv, recovered := false } :: older)) w fun e u' w' =>
   e = .returned (.tuple #[]) ∧ u' = .panicking ({ v := .iface u pv, recovered := true } :: older) ∧ w' = w.setCell p (.int .i64 30) := by
 refine callsD_of_wpS Tryz.func92 rfl fun c₀ cs hu => ?_;apply wpS_seq;apply wpS_region;simp [wpOpsS, go_sem, recoverD, hu, Tryz.ntmps92, Exit.thenS];refine wpS_cond (t := true) (by simp [Act.eval, Array.replicate]) ?_;simp only [if_true];apply wpS_region;simp [wpOpsS, go_sem, hc, hz, bodyPostS, results, Tryz.results92]
theorem idle92 (p : Addr) (w : World) :
  CallsD Tryz.prog 92 #[.pointer (some p)] .returning w fun e u' w' => e = .returned (.tuple #[]) ∧ u' = .returning ∧ w' = w := by
 refine callsD_of_wpS Tryz.func92 rfl fun c₀ cs hu => ?_;apply wpS_seq;apply wpS_region;simp [wpOpsS, go_sem, recoverD, hu, Tryz.ntmps92, Exit.thenS];refine wpS_cond (t := false) (by simp [Act.eval, Array.replicate]) ?_;simp only [Bool.false_eq_true, if_false];refine wpS_of_wp (wp_skip ?_);cases c₀
 simp_all [bodyPostS, results, Tryz.results92]
def rCh (l : List UInt8) (a : Int) : Option (Ch × Nat) :=
 (rdI l a).bind fun p1 => (rV l p1.2).bind fun p2 => (rE l p2.2).bind fun p3 => (rdI l p3.2).bind fun p4 => (rdI l p4.2).bind fun p5 => (rLst (fun m => rdI l m) l 80 p5.2).bind fun p6 => (rLst (fun m => rdI l m) l 3 p6.2).map fun p7 =>
  (⟨p1.1, p2.1, p3.1, p4.1, p5.1, p6.1, p7.1⟩, p7.2)
def CPost (b : Nat) (s : ByteArray) (r : Option (Ch × Nat)) (w : World) (e : Ending) (w' : World) : Prop :=
 match r with
 | none => (∃ v, e = .panicked [{ v := .iface 45 (.int .i64 v), recovered := false }]) ∧ KR b w w'
 | some (c, m) => ∃ x y, e = .returned (.agg (chCells c x y)) ∧ OwnI w' w.heap.size x c.ends ∧ OwnI w' w.heap.size y c.deps ∧ Rd w' b s m ∧ KR b w w'
theorem rchange_any (b : Nat) (s : ByteArray) (a : Int) (w : World) (h : Rd w b s a) (hs : s.size ≤ maxLen) (h1 : -9223372036854775808 ≤ a) (h2 : a ≤ 9223372036854775807) :
  Calls Tryz.prog 70 #[.pointer (some ⟨b, 0, none⟩)] w (CPost b s (rCh s.data.toList a) w) := by
 have hl : s.data.toList.length = s.size := Array.length_toList;have hs' := hs;unfold maxLen at hs';have hb := h.lt;obtain ⟨R, hR⟩ : ∃ R, Hid (R = rCh s.data.toList a) := ⟨_, rfl⟩;rw [← hR.out];have hnone : Hid (∀ v W, R = none → KR b w W → CPost b s R w (.panicked [{ v := .iface 45 (.int .i64 v), recovered := false }]) W) := fun v W e k => by rw [e]; exact ⟨⟨v, rfl⟩, k⟩
 obtain ⟨w0, hw0⟩ : ∃ w0, w0 = w.alloc (.cells zCells 33) := ⟨_, rfl⟩;have hB0 : Below w.heap.size w w0 := by rw [hw0]; exact (Below.refl _ _).alloc (Nat.le_refl _) _
 have r0 := h.below hB0;have hk0 := Hd (KR.of hB0 (by omega) : KR b w w0);have hsz : w0.heap.size = w.heap.size + 1 := by rw [hw0]; simp
 have hbx0 := Hd (show w0.heap[w.heap.size]? = some (.cells zCells 33 (0, 0)) by rw [hw0]; exact heap_alloc_new w _);have hw0h := Hd hw0;simp only [zCells, chCells, zC, zV, zE, nilS] at hw0h;have k1 := Hd (numR b s a w0 r0 hs h1 h2);have kk0 := Hd (KR.refl b w0);clear hw0 h;cases e1 : rdI s.data.toList a with
 | none =>
  rw [e1] at k1;have hRn := Hd (show R = none by rw [hR.out]; simp [rCh, e1]);clear e1 hR;go_enter Tryz.func70, Tryz.ntmps70;go_wp2_with fail;rw [← hw0h.out];with_reducible refine k1.out.mono ?_
  rintro e wq ⟨⟨v, rfl⟩, q2⟩;have hq := Hd (hnone.out v wq hRn.out (hk0.out.trans q2));clear q2;go_wp2_with fail;exact ⟨rfl, hq.out⟩
 | some p1 =>
  have b1 := rdI_ok (n := p1.1) (m := p1.2) e1;rw [hl] at b1;obtain ⟨n1, m1⟩ := p1;rw [e1] at k1;simp only at b1;have e1h := Hd e1;clear e1;go_enter Tryz.func70, Tryz.ntmps70;go_wp2_with fail;rw [← hw0h.out];with_reducible refine k1.out.mono ?_
  rintro e w1 ⟨rfl, r1, q⟩;have e1 := e1h.out;clear e1h;have s1 := q.below.size;have hk1 := Hd ((hk0.out).trans q);have kk1 := Hd (kk0.out.trans q);have k2 := Hd (rvertex_any b s m1 w1 r1 hs (by omega) (by omega));clear q k1;cases e2 : rV s.data.toList m1 with
  | none =>
   rw [e2] at k2;have hRn := Hd (show R = none by rw [hR.out]; simp [rCh, e1, e2]);clear e1 e2 hR;go_wp2_with fail;with_reducible refine k2.out.mono ?_
   rintro e wq ⟨⟨v, rfl⟩, q2⟩;have hq := Hd (hnone.out v wq hRn.out (hk1.out.trans q2));clear q2;go_wp2_with fail;exact ⟨rfl, hq.out⟩
  | some p2 =>
   have b2 := rV_ok e2;rw [hl] at b2;obtain ⟨n2, m2⟩ := p2;rw [e2] at k2;simp only at b2;have e1h := Hd e1;have e2h := Hd e2;clear e1 e2;go_wp2_with fail;with_reducible refine k2.out.mono ?_
   rintro e w2 ⟨rfl, r2, q⟩;have e1 := e1h.out;clear e1h;have e2 := e2h.out;clear e2h;have s2 := q.below.size;have hk2 := Hd ((hk1.out).trans q);have kk2 := Hd (kk1.out.trans q);have k3 := Hd (redge_any b s m2 w2 r2 hs (by omega) (by omega));clear q k2;cases e3 : rE s.data.toList m2 with
   | none =>
    rw [e3] at k3;have hRn := Hd (show R = none by rw [hR.out]; simp [rCh, e1, e2, e3]);clear e1 e2 e3 hR;go_wp2_with fail;with_reducible refine k3.out.mono ?_
    rintro e wq ⟨⟨v, rfl⟩, q2⟩;have hq := Hd (hnone.out v wq hRn.out (hk2.out.trans q2));clear q2;go_wp2_with fail;exact ⟨rfl, hq.out⟩
   | some p3 =>
    have b3 := rE_ok e3;rw [hl] at b3;obtain ⟨n3, m3⟩ := p3;rw [e3] at k3;simp only at b3;unfold edCells at k3;have e1h := Hd e1;have e2h := Hd e2;have e3h := Hd e3;clear e1 e2 e3;go_wp2_with fail;with_reducible refine k3.out.mono ?_
    rintro e w3 ⟨rfl, r3, q⟩;have e1 := e1h.out;clear e1h;have e2 := e2h.out;clear e2h;have e3 := e3h.out;clear e3h;have s3 := q.below.size;have hk3 := Hd ((hk2.out).trans q);have kk3 := Hd (kk2.out.trans q);have k4 := Hd (numR b s m3 w3 r3 hs (by omega) (by omega));clear q k3;cases e4 : rdI s.data.toList m3 with
    | none =>
     rw [e4] at k4;have hRn := Hd (show R = none by rw [hR.out]; simp [rCh, e1, e2, e3, e4]);clear e1 e2 e3 e4 hR;go_wp2_with fail;with_reducible refine k4.out.mono ?_
     rintro e wq ⟨⟨v, rfl⟩, q2⟩;have hq := Hd (hnone.out v wq hRn.out (hk3.out.trans q2));clear q2;go_wp2_with fail;exact ⟨rfl, hq.out⟩
    | some p4 =>
     have b4 := rdI_ok (n := p4.1) (m := p4.2) e4;rw [hl] at b4;obtain ⟨n4, m4⟩ := p4;rw [e4] at k4;simp only at b4;have e1h := Hd e1;have e2h := Hd e2;have e3h := Hd e3;have e4h := Hd e4;clear e1 e2 e3 e4;go_wp2_with fail;with_reducible refine k4.out.mono ?_
     rintro e w4 ⟨rfl, r4, q⟩;have e1 := e1h.out;clear e1h;have e2 := e2h.out;clear e2h;have e3 := e3h.out;clear e3h;have e4 := e4h.out;clear e4h;have s4 := q.below.size;have hk4 := Hd ((hk3.out).trans q);have kk4 := Hd (kk3.out.trans q);have k5 := Hd (numR b s m4 w4 r4 hs (by omega) (by omega));clear q k4;cases e5 : rdI s.data.toList m4 with
     | none =>
      rw [e5] at k5;have hRn := Hd (show R = none by rw [hR.out]; simp [rCh, e1, e2, e3, e4, e5]);clear e1 e2 e3 e4 e5 hR;go_wp2_with fail;with_reducible refine k5.out.mono ?_
      rintro e wq ⟨⟨v, rfl⟩, q2⟩;have hq := Hd (hnone.out v wq hRn.out (hk4.out.trans q2));clear q2;go_wp2_with fail;exact ⟨rfl, hq.out⟩
     | some p5 =>
      have b5 := rdI_ok (n := p5.1) (m := p5.2) e5;rw [hl] at b5;obtain ⟨n5, m5⟩ := p5;rw [e5] at k5;simp only at b5;have e1h := Hd e1;have e2h := Hd e2;have e3h := Hd e3;have e4h := Hd e4;have e5h := Hd e5;clear e1 e2 e3 e4 e5;go_wp2_with fail;with_reducible refine k5.out.mono ?_
      rintro e w5 ⟨rfl, r5, q⟩;have e1 := e1h.out;clear e1h;have e2 := e2h.out;clear e2h;have e3 := e3h.out;clear e3h;have e4 := e4h.out;clear e4h;have e5 := e5h.out;clear e5h;have s5 := q.below.size;have hk5 := Hd ((hk4.out).trans q);have kk5 := Hd (kk4.out.trans q);have k6 := Hd (rlistI b s m5 80 w5 r5 hs (by omega) (by omega) (by omega));clear q k5;cases e6 : rLst (fun m => rdI s.data.toList m) s.data.toList 80 m5 with
      | none =>
       rw [e6] at k6;have hRn := Hd (show R = none by rw [hR.out]; simp [rCh, e1, e2, e3, e4, e5, e6]);clear e1 e2 e3 e4 e5 e6 hR;go_wp2_with fail;with_reducible refine k6.out.mono ?_
       rintro e wq ⟨⟨v, rfl⟩, q2⟩;have hq := Hd (hnone.out v wq hRn.out (hk5.out.trans q2));clear q2;go_wp2_with fail;exact ⟨rfl, hq.out⟩
      | some p6 =>
       have b6 := rLst_ok _ _ _ _ _ (fun a p e => (rdI_ok (n := p.1) (m := p.2) e).1) (by omega) e6;rw [hl] at b6;obtain ⟨n6, m6⟩ := p6;rw [e6] at k6;simp only at b6;have e1h := Hd e1;have e2h := Hd e2;have e3h := Hd e3;have e4h := Hd e4;have e5h := Hd e5;have e6h := Hd e6;clear e1 e2 e3 e4 e5 e6;go_wp2_with fail;with_reducible refine k6.out.mono ?_
       rintro e w6 ⟨v6, rfl, o6, r6, q⟩;have e1 := e1h.out;clear e1h;have e2 := e2h.out;clear e2h;have e3 := e3h.out;clear e3h;have e4 := e4h.out;clear e4h;have e5 := e5h.out;clear e5h;have e6 := e6h.out;clear e6h;have s6 := q.below.size;have hk6 := Hd ((hk5.out).trans q);have kk6 := Hd (kk5.out.trans q);have O6 := Hd (show OwnI w6 (w.heap.size + 1) v6 n6 from own_le o6 (by omega));obtain ⟨x6, y6, rfl⟩ := o6.DL.shape;have k7 := Hd (rlistI b s m6 3 w6 r6 hs (by omega) (by omega) (by omega));clear q k6 o6;cases e7 : rLst (fun m => rdI s.data.toList m) s.data.toList 3 m6 with
       | none =>
        rw [e7] at k7;have hRn := Hd (show R = none by rw [hR.out]; simp [rCh, e1, e2, e3, e4, e5, e6, e7]);clear e1 e2 e3 e4 e5 e6 e7 hR;go_wp2_with fail;with_reducible refine k7.out.mono ?_
        rintro e wq ⟨⟨v, rfl⟩, q2⟩;have hq := Hd (hnone.out v wq hRn.out (hk6.out.trans q2));clear q2;go_wp2_with fail;exact ⟨rfl, hq.out⟩
       | some p7 =>
        have b7 := rLst_ok _ _ _ _ _ (fun a p e => (rdI_ok (n := p.1) (m := p.2) e).1) (by omega) e7;rw [hl] at b7;obtain ⟨n7, m7⟩ := p7;rw [e7] at k7;simp only at b7;have e1h := Hd e1;have e2h := Hd e2;have e3h := Hd e3;have e4h := Hd e4;have e5h := Hd e5;have e6h := Hd e6;have e7h := Hd e7;clear e1 e2 e3 e4 e5 e6 e7;go_wp2_with fail;with_reducible refine k7.out.mono ?_
        rintro e w7 ⟨v7, rfl, o7, r7, q⟩;have e1 := e1h.out;clear e1h;have e2 := e2h.out;clear e2h;have e3 := e3h.out;clear e3h;have e4 := e4h.out;clear e4h;have e5 := e5h.out;clear e5h;have e6 := e6h.out;clear e6h;have e7 := e7h.out;clear e7h;have s7 := q.below.size;have hk7 := Hd ((hk6.out).trans q);have kk7 := Hd (kk6.out.trans q);have O6 := Hd (own_KR O6.out q (by omega));have O7 := Hd (show OwnI w7 (w.heap.size + 1) v7 n7 from own_le o7 (by omega));obtain ⟨x7, y7, rfl⟩ := o7.DL.shape;clear q k7 o7;obtain ⟨c, hc⟩ : ∃ c : Ch, Hid (c = ⟨n1, n2, n3, n4, n5, n6, n7⟩) := ⟨_, rfl⟩;have hRs : R = some (c, m7) := by rw [hR.out, hc.out]; simp [rCh, e1, e2, e3, e4, e5, e6, e7]
        have hx := (kk7.out.keep w.heap.size (by omega) (by omega)).trans hbx0.out;have o6 : OwnI w7 w.heap.size (.slice x6 n6.length y6) c.ends := by rw [hc.out]; exact own_le O6.out (by omega)
        have o7 : OwnI w7 w.heap.size (.slice x7 n7.length y7) c.deps := by rw [hc.out]; exact own_le O7.out (by omega)
        have ho6 : OwnI (w7.setRow w.heap.size (chCells c (.slice x6 n6.length y6) (.slice x7 n7.length y7))) w.heap.size (.slice x6 n6.length y6) c.ends := o6.row33 hx _;have ho7 : OwnI (w7.setRow w.heap.size (chCells c (.slice x6 n6.length y6) (.slice x7 n7.length y7))) w.heap.size (.slice x7 n7.length y7) c.deps := o7.row33 hx _;have hf : Hid (CPost b s R w (.returned (.agg (chCells c (.slice x6 n6.length y6) (.slice x7 n7.length y7)))) (w7.setRow w.heap.size (chCells c (.slice x6 n6.length y6) (.slice x7 n7.length y7)))) := by
         rw [hRs];exact ⟨_, _, rfl, ho6, ho7, (r7.row (by omega) _).1, kk7.out.row hk0.out hb (Nat.le_refl _) _⟩
        rw [hc.out] at hf;have hx' := Hd hx;clear hRs e1 e2 e3 e4 e5 e6 e7 hR r7 ho6 ho7 o6 o7 hnone hx;have hx := hx'.out;generalize n6.length = u6 at *
        generalize n7.length = u7 at *
        go_wp2_with (refine wpList_store_row rfl 33 (.tmp 2) (.tmp 17) rfl w.heap.size (chCells ⟨n1, n2, n3, n4, n5, n6, n7⟩ (.slice x6 u6 y6) (.slice x7 u7 y7)) rfl rfl 33 _ hx (info33 _ _ _) rfl (ch_all _ _ _ _ _ _ _) ?_)
        refine bodyPost_ret (results_cell_row (fn := Tryz.f70) rfl _ _ w.heap.size 33 (chCells ⟨n1, n2, n3, n4, n5, n6, n7⟩ (.slice x6 u6 y6) (.slice x7 u7 y7)) (0, 0) _ rfl (setRow_heap _ _ _ _ _ _ hx) Tryz.underlying33 rfl (info33 _ _ _)) rfl ?_;exact hf.out
def DCPost (s : ByteArray) (a : Int) (w : World) (e : Ending) (w' : World) : Prop :=
 match rCh s.data.toList a with
 | none => e = .returned (.tuple #[.agg zCells, .int .i64 0, .int .i64 30]) ∧ Below w.heap.size w w'
 | some (c, m) => ∃ x y, e = .returned (.tuple #[.agg (chCells c x y), .int .i64 (m : Nat), .int .i64 0]) ∧ OwnI w' w.heap.size x c.ends ∧ OwnI w' w.heap.size y c.deps ∧ Below w.heap.size w w'
theorem decodeC_bad (s : ByteArray) (a : Int) (w : World) (hs : s.size ≤ maxLen) (h1 : -9223372036854775808 ≤ a) (h2 : a ≤ 9223372036854775807) (hr : rCh s.data.toList a = none) :
  Calls Tryz.prog 69 #[.string s, .int .i64 a, .func (.func 70) #[] #[]] w (DCPost s a w) := by
 have hmf : ∀ (fn : Fn) (first cap : Array Value) (w : World), (Instr.makeFunc fn first cap).run Tryz.prog w = .ok (.func fn first cap) w := fun _ _ _ _ => rfl;obtain ⟨w1, hw1⟩ : ∃ w1, w1 = ((w.alloc (.cells zCells 33)).alloc (.cells #[.int .i64 0] 45)).alloc (.cells #[.string s, .int .i64 a] 140) := ⟨_, rfl⟩;have z1 : w1.heap.size = w.heap.size + 3 := by rw [hw1]; simp
 have hrd : Rd w1 (w.heap.size + 1 + 1) s a := by
  unfold Rd;rw [hw1];have := heap_alloc_new ((w.alloc (.cells zCells 33)).alloc (.cells #[.int .i64 0] 45)) (.cells #[.string s, .int .i64 a] 140);simpa using this
 have g26 : w1.heap[w.heap.size]? = some (.cells zCells 33 (0, 0)) := by rw [hw1]; exact al_keep (al_keep (heap_alloc_new w _))
 have g45 : w1.heap[w.heap.size + 1]? = some (.cells #[.int .i64 0] 45 (0, 0)) := by
  rw [hw1];refine al_keep ?_;have := heap_alloc_new (w.alloc (.cells zCells 33)) (.cells #[.int .i64 0] 45);simpa using this
 have B1 : Below w.heap.size w w1 := by rw [hw1]; exact (((Below.refl _ w).alloc (Nat.le_refl _) _).alloc (by simp) _).alloc (by simp; omega) _
 have hB1 := Hd B1;have k1 := Hd (rchange_any (w.heap.size + 1 + 1) s a w1 hrd hs h1 h2);rw [hr] at k1;have hw1h := Hd hw1;simp only [zCells, chCells, zC, zV, zE, nilS] at hw1h;have hrh := Hd hr;clear hw1 hr
 go_enter_defers Tryz.func69, Tryz.ntmps69
 go_wp2_with fail;rw [← hw1h.out];with_reducible refine k1.out.mono ?_
 rintro e w2 ⟨⟨v, rfl⟩, hk⟩;have r26 := (hk.keep w.heap.size (by omega) (by omega)).trans g26;have r45 := (hk.keep (w.heap.size + 1) (by omega) (by omega)).trans g45;have c45 : w2.cell? ⟨w.heap.size + 1, 0, none⟩ = some (.int .i64 0) := by rw [cell_of_row _ _ _ _ _ _ r45]; rfl
 have f45 : w2.frozen? ⟨w.heap.size + 1, 0, none⟩ = false := frozen_of_row _ _ _ _ _ r45;go_wp2_with fail;refine leaves_cons (f := 92) (args := #[.pointer (some ⟨w.heap.size + 1, 0, none⟩)]) (by simp) (by simp [go_sem]) ?_;refine (catch92 ⟨w.heap.size + 1, 0, none⟩ 0 45 _ [] _ c45 f45).mono ?_;rintro e u' w'' ⟨rfl, rfl, rfl⟩;have q26 : (w2.setCell ⟨w.heap.size + 1, 0, none⟩ (.int .i64 30)).heap[w.heap.size]? = some (.cells zCells 33 (0, 0)) := by rw [heap_setCell_other _ _ _ _ (by simp)]; exact r26
 have q45 : (w2.setCell ⟨w.heap.size + 1, 0, none⟩ (.int .i64 30)).cell? ⟨w.heap.size + 1, 0, none⟩ = some (.int .i64 30) := by
  rw [cell_of_row _ _ _ _ _ _ (heap_setCell_same _ _ _ _ _ _ r45)]; rfl
 show Leaves _ _ _ _ [] (settle _) _;refine ⟨_, results_ctc (fn := Tryz.f69) rfl _ _ w.heap.size 33 zCells (0, 0) _ (.int .i64 0) (.int .i64 30) ⟨w.heap.size + 1, 0, none⟩ rfl rfl rfl q26 Tryz.underlying33 rfl (info33 _ _ _) (by simp [go_sem, q45]) , ?_⟩;unfold DCPost;rw [hrh.out];exact ⟨rfl, (hB1.out.trans (hk.below.mono (by omega))).setCell (p := ⟨w.heap.size + 1, 0, none⟩) (by simp) _⟩
def CSt (w : World) (x y : Value) (c : Ch) (s : ByteArray) (m : Nat) (W : World) : Prop :=
 W.heap[w.heap.size]? = some (.cells (chCells c x y) 33 (0, 0)) ∧ W.heap[w.heap.size + 1]? = some (.cells #[.int .i64 0] 45 (0, 0)) ∧ Rd W (w.heap.size + 1 + 1) s m ∧ OwnI W (w.heap.size + 3) x c.ends ∧ OwnI W (w.heap.size + 3) y c.deps ∧ Below w.heap.size w W
theorem CSt.row {w W : World} {x y : Value} {c : Ch} {s : ByteArray} {m : Nat} (h : CSt w x y c s m W) : CSt w x y c s m (W.setRow w.heap.size (chCells c x y)) := by
 obtain ⟨h1, h2, h3, h4, h5, h7⟩ := h;have ho : ∀ j, j ≠ w.heap.size → (W.setRow w.heap.size (chCells c x y)).heap[j]? = W.heap[j]? := fun j hj => setRow_other W _ j _ hj;exact ⟨setRow_heap _ _ _ _ _ _ h1, (ho _ (by omega)).trans h2, (ho _ (by omega)).trans h3, own_other h4 (by omega) ho, own_other h5 (by omega) ho, below_setRow' h7 (Nat.le_refl _) _⟩
theorem CSt.zero {w W : World} {x y : Value} {c : Ch} {s : ByteArray} {m : Nat} (h : CSt w x y c s m W) : CSt w x y c s m (W.setCell ⟨w.heap.size + 1, 0, none⟩ (.int .i64 0)) := by
 obtain ⟨h1, h2, h3, h4, h5, h7⟩ := h;have ho : ∀ j, j ≠ w.heap.size + 1 → (W.setCell ⟨w.heap.size + 1, 0, none⟩ (.int .i64 0)).heap[j]? = W.heap[j]? := fun j hj => heap_setCell_other W ⟨w.heap.size + 1, 0, none⟩ j _ hj;exact ⟨(ho _ (by omega)).trans h1, by rw [heap_setCell_same W _ _ _ _ _ h2]; rfl, (ho _ (by omega)).trans h3, own_other h4 (by omega) ho, own_other h5 (by omega) ho, h7.setCell (p := ⟨w.heap.size + 1, 0, none⟩) (by simp) _⟩
theorem CSt.drew {w W : World} {x y : Value} {c : Ch} {s : ByteArray} {m : Nat} (h : CSt w x y c s m W) : CSt w x y c s m W.drew := by
 obtain ⟨h1, h2, h3, h4, h5, h7⟩ := h;exact ⟨h1, h2, h3, h4, h5, h7.drew⟩
theorem res69 (t : Array Value) (d : Tmp) (v : Value) (h6 : d ≠ 6) (h7 : d ≠ 7) (h8 : d ≠ 8) : results Tryz.f69 (t.setIfInBounds d v) = results Tryz.f69 t := by
 have e6 : (t.setIfInBounds d v)[6]? = t[6]? := by rw [Array.getElem?_setIfInBounds]; simp [h6]
 have e7 : (t.setIfInBounds d v)[7]? = t[7]? := by rw [Array.getElem?_setIfInBounds]; simp [h7]
 have e8 : (t.setIfInBounds d v)[8]? = t[8]? := by rw [Array.getElem?_setIfInBounds]; simp [h8]
 simp [results, Tryz.results69, e6, e7, e8]
theorem decodeC_ok (s : ByteArray) (a : Int) (w : World) (hs : s.size ≤ maxLen) (h1 : -9223372036854775808 ≤ a) (h2 : a ≤ 9223372036854775807) (c : Ch) (m : Nat) (hr : rCh s.data.toList a = some (c, m)) :
  Calls Tryz.prog 69 #[.string s, .int .i64 a, .func (.func 70) #[] #[]] w (DCPost s a w) := by
 have hmf : ∀ (fn : Fn) (first cap : Array Value) (w : World), (Instr.makeFunc fn first cap).run Tryz.prog w = .ok (.func fn first cap) w := fun _ _ _ _ => rfl;obtain ⟨w1, hw1⟩ : ∃ w1, w1 = ((w.alloc (.cells zCells 33)).alloc (.cells #[.int .i64 0] 45)).alloc (.cells #[.string s, .int .i64 a] 140) := ⟨_, rfl⟩;have z1 : w1.heap.size = w.heap.size + 3 := by rw [hw1]; simp
 have hrd : Rd w1 (w.heap.size + 1 + 1) s a := by
  unfold Rd;rw [hw1];have := heap_alloc_new ((w.alloc (.cells zCells 33)).alloc (.cells #[.int .i64 0] 45)) (.cells #[.string s, .int .i64 a] 140);simpa using this
 have g26 : w1.heap[w.heap.size]? = some (.cells zCells 33 (0, 0)) := by rw [hw1]; exact al_keep (al_keep (heap_alloc_new w _))
 have g45 : w1.heap[w.heap.size + 1]? = some (.cells #[.int .i64 0] 45 (0, 0)) := by
  rw [hw1];refine al_keep ?_;have := heap_alloc_new (w.alloc (.cells zCells 33)) (.cells #[.int .i64 0] 45);simpa using this
 have B1 : Below w.heap.size w w1 := by rw [hw1]; exact (((Below.refl _ w).alloc (Nat.le_refl _) _).alloc (by simp) _).alloc (by simp; omega) _
 have hB1 := Hd B1;have k1 := Hd (rchange_any (w.heap.size + 1 + 1) s a w1 hrd hs h1 h2);rw [hr] at k1;have hw1h := Hd hw1;simp only [zCells, chCells, zC, zV, zE, nilS] at hw1h;have hrh := Hd hr;clear hw1 hr
 go_enter_defers Tryz.func69, Tryz.ntmps69
 go_wp2_with fail;rw [← hw1h.out];with_reducible refine k1.out.mono ?_
 rintro e w2 ⟨x, y, rfl, o1, o2, hrd2, hk⟩;have r26 := (hk.keep w.heap.size (by omega) (by omega)).trans g26;have r45 := (hk.keep (w.heap.size + 1) (by omega) (by omega)).trans g45;have hS0 : CSt w x y c s m (w2.setRow w.heap.size (chCells c x y)) := by
  have ho : ∀ j, j ≠ w.heap.size → (w2.setRow w.heap.size (chCells c x y)).heap[j]? = w2.heap[j]? := fun j hj => setRow_other w2 _ j _ hj;exact ⟨setRow_heap _ _ _ _ _ _ r26, (ho _ (by omega)).trans r45, (ho _ (by omega)).trans hrd2, own_other (own_le o1 (by omega)) (by omega) ho, own_other (own_le o2 (by omega)) (by omega) ho, below_setRow' (hB1.out.trans (hk.below.mono (by omega))) (Nat.le_refl _) _⟩
 obtain ⟨xa, xb, rfl⟩ := o1.DL.shape;obtain ⟨ya, yb, rfl⟩ := o2.DL.shape;have hS0h := Hd hS0;clear o1 o2 hk k1 hS0 hrd2 r45 g26 g45 B1 hrd;have hfin : Hid (∀ W x y, CSt w x y c s m W → DCPost s a w (.returned (.tuple #[.agg (chCells c x y), .int .i64 (m : Nat), .int .i64 0])) W) := fun W x y q => by
  unfold DCPost;rw [hrh.out];exact ⟨_, _, rfl, own_le q.2.2.2.1 (by omega), own_le q.2.2.2.2.1 (by omega), q.2.2.2.2.2⟩
 go_wp2_with (refine wpList_store_row rfl 33 (.tmp 6) (.tmp 17) rfl w.heap.size (chCells c (.slice xa c.ends.length xb) (.slice ya c.deps.length yb)) rfl rfl 33 _ r26 (info33 _ _ _) rfl (ch_all _ _ _ _ _ _ _) ?_)
 clear r26;refine wp_region_F (CSt w (.slice xa c.ends.length xb) (.slice ya c.deps.length yb) c s m) 999 (by kernel_rfl) hS0h.out.drew (fun hHeld => ?_);refine wpAnyF_take (i := 0) (oi := ⟨some 18, .load 33 (.tmp 6), _, _, _, none⟩) (v := ?_) rfl (by kernel_rfl) (by kernel_rfl) (by kernel_rfl) (by kernel_rfl) (fun _ x _ h => leaves_congr (res69 x.tmps 18 _ (by decide) (by decide) (by decide)) _ _ _ h) (Or.inl ⟨by rfl, ?_⟩) (by assumption) ?_;rotate_left
 ·((intro W hSw; obtain ⟨u0, u1, u2, u3, u4, u5, u6, u7, u8, u9, u10, u11, u12⟩ := ch_cells hSw.1; clear hSw; go_simp) <;> with_reducible rfl)
 try simp only [Act.put, zT, z0, zS]
 refine wpAnyF_take (i := 1) (oi := ⟨some 19, .move (.tmp 9), _, _, _, none⟩) (v := ?_) rfl (by kernel_rfl) (by kernel_rfl) (by kernel_rfl) (by kernel_rfl) (fun _ x _ h => leaves_congr (res69 x.tmps 19 _ (by decide) (by decide) (by decide)) _ _ _ h) (Or.inl ⟨by rfl, ?_⟩) (by assumption) ?_;rotate_left
 ·((intro w hSw; clear hSw; go_simp) <;> with_reducible rfl)
 try simp only [Act.put, zT, z0, zS]
 refine wpAnyF_take (i := 2) (oi := ⟨some 20, .nilCheck (.tmp 19), _, _, _, none⟩) (v := ?_) rfl (by kernel_rfl) (by kernel_rfl) (by kernel_rfl) (by kernel_rfl) (fun _ x _ h => leaves_congr (res69 x.tmps 20 _ (by decide) (by decide) (by decide)) _ _ _ h) (Or.inl ⟨by rfl, ?_⟩) (by assumption) ?_;rotate_left
 ·((intro w hSw; clear hSw; go_simp) <;> with_reducible rfl)
 try simp only [Act.put, zT, z0, zS]
 refine wpAnyF_take (i := 3) (oi := ⟨some 21, .fieldAddr 140 (.tmp 20) 1, _, _, _, none⟩) (v := ?_) rfl (by kernel_rfl) (by kernel_rfl) (by kernel_rfl) (by kernel_rfl) (fun _ x _ h => leaves_congr (res69 x.tmps 21 _ (by decide) (by decide) (by decide)) _ _ _ h) (Or.inl ⟨by rfl, ?_⟩) (by assumption) ?_;rotate_left
 ·((intro w hSw; clear hSw; go_simp) <;> with_reducible rfl)
 try simp only [Act.put, zT, z0, zS]
 refine wpAnyF_take (i := 4) (oi := ⟨some 22, .load 3 (.tmp 21), _, _, _, none⟩) (v := ?_) rfl (by kernel_rfl) (by kernel_rfl) (by kernel_rfl) (by kernel_rfl) (fun _ x _ h => leaves_congr (res69 x.tmps 22 _ (by decide) (by decide) (by decide)) _ _ _ h) (Or.inl ⟨by rfl, ?_⟩) (by assumption) ?_;rotate_left
 ·((intro W hSw; have q1 := hSw.2.2.1.cells.2; clear hSw; go_simp) <;> with_reducible rfl)
 try simp only [Act.put, zT, z0, zS]
 refine rdy [5] ?_;refine arC rfl (fun K hK => ?_) ?_
 ·skip
  refine wp_store_row 33 (.tmp 6) (.tmp 18) rfl w.heap.size (chCells c (.slice xa c.ends.length xb) (.slice ya c.deps.length yb)) rfl rfl 33 _ hHeld.1 (info33 _ _ _) rfl (ch_all _ _ _ _ _ _ _) ?_;have hS1 := hHeld.row;refine hK.out _ _ ?_ (fun hHeld => ?_)
  ·exact hS1
  clear hK K;try simp only [Act.put, zT, z0, zS]
  refine rdy [6] ?_;refine arC rfl (fun K hK => ?_) ?_
  ·skip
   go_simp;refine hK.out _ _ ?_ (fun hHeld => ?_)
   ·exact hHeld
   clear hK K;try simp only [Act.put, zT, z0, zS]
   refine rdy [7] ?_;refine arC rfl (fun K hK => ?_) ?_
   ·skip
    go_simp;have c45 := cell_of_row _ _ 0 _ _ _ hHeld.2.1;have f45 := frozen_of_row _ _ 0 _ _ hHeld.2.1;have hS2 := hHeld.zero;go_simp;refine hK.out _ _ ?_ (fun hHeld => ?_)
    ·exact hS2
    clear hK K;try simp only [Act.put, zT, z0, zS]
    refine wpAnyF_done (by kernel_rfl) ?_ _;have hH := Hd hHeld;go_wp2_with fail;refine leaves_cons (f := 92) (args := #[.pointer (some ⟨w.heap.size + 1, 0, none⟩)]) (by simp) (by simp [go_sem]) ?_;refine (idle92 ⟨w.heap.size + 1, 0, none⟩ _).mono ?_;rintro e u' w'' ⟨rfl, rfl, rfl⟩;have q45 := cell_of_row _ _ 0 _ _ _ hH.out.2.1;show Leaves _ _ _ _ [] (settle _) _;exact ⟨_, results_ctc (fn := Tryz.f69) rfl _ _ w.heap.size 33 _ (0, 0) _ (.int .i64 (m : Nat)) (.int .i64 0) ⟨w.heap.size + 1, 0, none⟩ rfl rfl rfl hH.out.1 Tryz.underlying33 rfl (info33 _ _ _) (by simp [go_sem, q45]), hfin.out _ _ _ hH.out⟩
   exact AllReadyF.nil
  exact AllReadyF.nil
 exact AllReadyF.nil
theorem DecodeChange_any (s : ByteArray) (a : Int) (w : World) (hs : s.size ≤ maxLen) (h1 : -9223372036854775808 ≤ a) (h2 : a ≤ 9223372036854775807) :
  Calls Tryz.prog 36 #[.string s, .int .i64 a] w (DCPost s a w) := by
 obtain ⟨w0, hw0⟩ : ∃ w0, w0 = w.alloc (.cells zCells 33) := ⟨_, rfl⟩;have B0 : Below w.heap.size w w0 := by rw [hw0]; exact (Below.refl _ _).alloc (Nat.le_refl _) _
 have z0 : w0.heap.size = w.heap.size + 1 := by rw [hw0]; simp
 have g0 : w0.heap[w.heap.size]? = some (.cells zCells 33 (0, 0)) := by rw [hw0]; exact heap_alloc_new w _
 have hw0h := Hd hw0;simp only [zCells, chCells, zC, zV, zE, nilS] at hw0h;clear hw0;cases hr : rCh s.data.toList a with
 | none =>
  have k1 := Hd (decodeC_bad s a w0 hs h1 h2 hr);have hrh := Hd hr;clear hr;go_enter Tryz.func36, Tryz.ntmps36;go_wp2_with fail;rw [← hw0h.out];with_reducible refine k1.out.mono ?_
  intro e w2 q;unfold DCPost at q;rw [hrh.out] at q;obtain ⟨rfl, hb⟩ := q;have g2 := (hb.block w.heap.size (by omega)).trans g0;have hf : Hid (DCPost s a w (.returned (.tuple #[.agg zCells, .int .i64 0, .int .i64 30])) (w2.setRow w.heap.size zCells)) := by
   unfold DCPost; rw [hrh.out];exact ⟨rfl, below_setRow' (B0.trans (hb.mono (by omega))) (Nat.le_refl _) _⟩
  clear hb k1
  go_wp2_with (refine wpList_store_row rfl 33 (.tmp 4) (.tmp 10) rfl w.heap.size zCells rfl rfl 33 _ g2 (info33 _ _ _) rfl z_all ?_)
  refine bodyPost_ret (results_cell_tmp2_row (fn := Tryz.f36) rfl _ _ w.heap.size 33 zCells (0, 0) _ _ _ rfl rfl rfl (setRow_heap _ _ _ _ _ _ g2) Tryz.underlying33 rfl (info33 _ _ _)) rfl ?_;exact hf.out
 | some p =>
  obtain ⟨c, m⟩ := p;have k1 := Hd (decodeC_ok s a w0 hs h1 h2 c m hr);have hrh := Hd hr;clear hr;go_enter Tryz.func36, Tryz.ntmps36;go_wp2_with fail;rw [← hw0h.out];with_reducible refine k1.out.mono ?_
  intro e w2 q;unfold DCPost at q;rw [hrh.out] at q;obtain ⟨x, y, rfl, o1, o2, hb⟩ := q;have g2 := (hb.block w.heap.size (by omega)).trans g0;have hf : Hid (DCPost s a w (.returned (.tuple #[.agg (chCells c x y), .int .i64 (m : Nat), .int .i64 0])) (w2.setRow w.heap.size (chCells c x y))) := by
   unfold DCPost; rw [hrh.out];exact ⟨_, _, rfl, OwnI.row33 (own_le o1 (by omega)) g2 _, OwnI.row33 (own_le o2 (by omega)) g2 _, below_setRow' (B0.trans (hb.mono (by omega))) (Nat.le_refl _) _⟩
  obtain ⟨xa, xb, rfl⟩ := o1.DL.shape;obtain ⟨ya, yb, rfl⟩ := o2.DL.shape;clear hb k1 o1 o2
  go_wp2_with (refine wpList_store_row rfl 33 (.tmp 4) (.tmp 10) rfl w.heap.size (chCells c (.slice xa c.ends.length xb) (.slice ya c.deps.length yb)) rfl rfl 33 _ g2 (info33 _ _ _) rfl (ch_all _ _ _ _ _ _ _) ?_)
  refine bodyPost_ret (results_cell_tmp2_row (fn := Tryz.f36) rfl _ _ w.heap.size 33 (chCells c (.slice xa c.ends.length xb) (.slice ya c.deps.length yb)) (0, 0) _ _ _ rfl rfl rfl (setRow_heap _ _ _ _ _ _ g2) Tryz.underlying33 rfl (info33 _ _ _)) rfl ?_;exact hf.out
end Go.Proofs.YtlaldnlgapeckaaGreat
