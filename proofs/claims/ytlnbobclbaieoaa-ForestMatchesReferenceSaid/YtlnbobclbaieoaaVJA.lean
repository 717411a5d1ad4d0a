/- Contracts and facts. -/
import Derived.Deep.LoopGhost
import Derived.Handy
import Derived.WalkMore
import Derived.BigRegion
import Derived.Laws.EntriesVeiled
import Derived.Test.YtlnbobclbaieoaaVHZ
set_option linter.unusedSimpArgs false
set_option maxRecDepth 100000
set_option maxHeartbeats 4000000
namespace Go.Proofs.Ytlnbobclbaieoaa
open Go.RowKit
theorem holds_iff {g : Gr} {a b : Int} : holdsF g [a, b] = (g.ok && (decide (a ∈ keysV g.vs) && decide (b ∈ keysV g.vs))) := by
  rw [Bool.eq_iff_iff]
  simp only [Bool.and_eq_true, decide_eq_true_iff]
  constructor
  · intro h; have := holds_two h; exact ⟨this.1, this.2.1, this.2.2⟩
  · rintro ⟨h1, h2, h3⟩; exact holds_of h1 h2 h3
set_option maxRecDepth 100000 in
theorem Ends_any (v : Value) (g : Gr) (a b : Int) (w : World) (hv : GV w v g) (hn : g.small) :
    Calls Try.prog 55 #[v, .int .i64 a, .int .i64 b] w fun e w' => e = .returned (.bool (holdsF g [a, b])) ∧ Below w.heap.size w w' := by
  obtain ⟨a1, a2, b1, b2, c1v, c2, rfl, hv1, hv2, hv3⟩ := gv_shape hv
  obtain ⟨w1, hw1⟩ : ∃ w1, w1 = w.alloc (.cells #[.slice a1 g.vs.length a2, .slice b1 g.es.length b2, .slice c1v g.ds.length c2] 28) := ⟨_, rfl⟩
  have gb : w1.heap[w.heap.size]? = some (.cells #[.slice a1 g.vs.length a2, .slice b1 g.es.length b2, .slice c1v g.ds.length c2] 28 (0, 0)) := by rw [hw1]; exact heap_alloc_new w _
  have B0 : Below w.heap.size w w1 := by rw [hw1]; exact (Below.refl _ w).alloc (Nat.le_refl _) _
  have hs1 : w1.heap.size = w.heap.size + 1 := by rw [hw1]; simp
  have fb := Lib.hid (fun W (q : Below w1.heap.size w1 W) => box3g ((q.block _ (show w.heap.size < w1.heap.size by omega)).trans gb))
  have hVal := Lib.hid (ValidR_any _ g w1 (hv.below B0) hn)
  have fP := Lib.hid (fun W (q : Below w1.heap.size w1 W) x => PlaceR_any _ g x W ((hv.below B0).below q) (by have := hn; unfold Gr.small at this; omega))
  have fPa := Lib.hid (fun W q => fP.out W q a)
  have fPb := Lib.hid (fun W q => fP.out W q b)
  have ha := plI_neg (keysV g.vs) a
  have hb := plI_neg (keysV g.vs) b
  obtain ⟨R, hR⟩ : ∃ R, Hid (R = holdsF g [a, b]) := ⟨_, rfl⟩
  rw [← hR.out]
  have hR2 : Hid (R = (g.ok && (decide (a ∈ keysV g.vs) && decide (b ∈ keysV g.vs)))) := by show _ = _; rw [hR.out, holds_iff]
  obtain ⟨g0, g1, g2⟩ := fb.out w1 (Below.refl _ _)
  have hB0 := Lib.hid B0
  replace hw1 := Lib.hid hw1
  generalize plI (keysV g.vs) a = pa at *
  generalize plI (keysV g.vs) b = pb at *
  generalize g.vs.length = n1 at *
  generalize g.es.length = n2 at *
  generalize g.ds.length = n3 at *
  clear gb B0 hs1 hv hv1 hv2 hv3 fP hR
  cases hok : g.ok with
  | false =>
    have hr : Hid (R = false) := by show _ = _; rw [hR2.out, hok]; rfl
    rw [hok] at hVal
    clear hok hR2 ha hb
    go_enter Try.func55, Try.ntmps55
    go_upto_region 1 with (fail)
    rw [← hw1.out]
    go_wp2_with fail
    refine hVal.out.mono ?_
    rintro e w2 ⟨rfl, q2⟩
    have B2 := Lib.hid (hB0.out.trans (q2.mono hB0.out.size))
    clear q2 hVal g0 g1 g2
    go_wp2_with fail
    go_ret
    exact ⟨by rw [hr.out]; rfl, B2.out⟩
  | true =>
    rw [hok] at hVal
    by_cases hma : a ∈ keysV g.vs
    · have p0 : 0 ≤ pa := by
        rcases Int.lt_or_le pa 0 with h | h
        · exact absurd hma (ha.1 h)
        · exact h
      by_cases hmb : b ∈ keysV g.vs
      · have p1 : 0 ≤ pb := by
          rcases Int.lt_or_le pb 0 with h | h
          · exact absurd hmb (hb.1 h)
          · exact h
        have hr : Hid (R = true) := by show _ = _; rw [hR2.out, hok, decide_eq_true hma, decide_eq_true hmb]; rfl
        clear hok hR2 ha hb hma hmb
        go_enter Try.func55, Try.ntmps55
        go_upto_region 1 with (fail)
        rw [← hw1.out]
        go_wp2_with fail
        refine hVal.out.mono ?_
        rintro e w2 ⟨rfl, q2⟩
        have B2 := Lib.hid q2
        clear q2 hVal g0 g1 g2
        obtain ⟨g0, g1, g2⟩ := fb.out w2 B2.out
        go_wp2_with fail
        refine (fPa.out w2 B2.out).mono ?_
        rintro e w3 ⟨rfl, q3⟩
        have B3 := Lib.hid (B2.out.trans (q3.mono B2.out.size))
        clear q3 g0 g1 g2
        obtain ⟨g0, g1, g2⟩ := fb.out w3 B3.out
        go_wp2_with fail
        refine (fPb.out w3 B3.out).mono ?_
        rintro e w4 ⟨rfl, q4⟩
        have B4 := Lib.hid (hB0.out.trans ((B3.out.trans (q4.mono B3.out.size)).mono hB0.out.size))
        clear q4 g0 g1 g2
        go_wp2_with fail
        go_ret
        exact ⟨by rw [hr.out]; rfl, B4.out⟩
      · have p1 : pb < 0 := hb.2 hmb
        have hr : Hid (R = false) := by show _ = _; rw [hR2.out, hok, decide_eq_true hma, decide_eq_false hmb]; rfl
        clear hok hR2 ha hb hma hmb
        go_enter Try.func55, Try.ntmps55
        go_upto_region 1 with (fail)
        rw [← hw1.out]
        go_wp2_with fail
        refine hVal.out.mono ?_
        rintro e w2 ⟨rfl, q2⟩
        have B2 := Lib.hid q2
        clear q2 hVal g0 g1 g2
        obtain ⟨g0, g1, g2⟩ := fb.out w2 B2.out
        go_wp2_with fail
        refine (fPa.out w2 B2.out).mono ?_
        rintro e w3 ⟨rfl, q3⟩
        have B3 := Lib.hid (B2.out.trans (q3.mono B2.out.size))
        clear q3 g0 g1 g2
        obtain ⟨g0, g1, g2⟩ := fb.out w3 B3.out
        go_wp2_with fail
        refine (fPb.out w3 B3.out).mono ?_
        rintro e w4 ⟨rfl, q4⟩
        have B4 := Lib.hid (hB0.out.trans ((B3.out.trans (q4.mono B3.out.size)).mono hB0.out.size))
        clear q4 g0 g1 g2
        go_wp2_with fail
        go_ret
        exact ⟨by rw [hr.out]; exact congrArg (fun b => Ending.returned (Value.bool b)) (decide_eq_false (by omega)), B4.out⟩
    · have p0 : pa < 0 := ha.2 hma
      have hr : Hid (R = false) := by show _ = _; rw [hR2.out, hok, decide_eq_false hma]; rfl
      clear hok hR2 ha hb hma
      go_enter Try.func55, Try.ntmps55
      go_upto_region 1 with (fail)
      rw [← hw1.out]
      go_wp2_with fail
      refine hVal.out.mono ?_
      rintro e w2 ⟨rfl, q2⟩
      have B2 := Lib.hid q2
      clear q2 hVal g0 g1 g2
      obtain ⟨g0, g1, g2⟩ := fb.out w2 B2.out
      go_wp2_with fail
      refine (fPa.out w2 B2.out).mono ?_
      rintro e w3 ⟨rfl, q3⟩
      have B3 := Lib.hid (hB0.out.trans ((B2.out.trans (q3.mono B2.out.size)).mono hB0.out.size))
      clear q3 g0 g1 g2
      go_wp2_with fail
      go_ret
      exact ⟨by rw [hr.out]; rfl, B3.out⟩

end Go.Proofs.Ytlnbobclbaieoaa
/- Contracts and facts. -/
set_option linter.unusedSimpArgs false
set_option maxRecDepth 100000
set_option maxHeartbeats 4000000
namespace Go.Proofs.Ytlnbobclbaieoaa
open Go.RowKit
set_option maxRecDepth 100000 in
theorem ConnR_any (v : Value) (g : Gr) (a b : Int) (w : World) (hv : GV w v g) (hn : g.small) :
    Calls Try.prog 24 #[v, .int .i64 a, .int .i64 b] w fun e w' => e = .returned (.tuple #[.bool (connF g a b).1, .int .i64 (connF g a b).2]) ∧ Below w.heap.size w w' := by
  obtain ⟨a1, a2, b1, b2, c1v, c2, rfl, hv1, hv2, hv3⟩ := gv_shape hv
  obtain ⟨w1, hw1⟩ : ∃ w1, w1 = w.alloc (.cells #[.slice a1 g.vs.length a2, .slice b1 g.es.length b2, .slice c1v g.ds.length c2] 28) := ⟨_, rfl⟩
  have gb : w1.heap[w.heap.size]? = some (.cells #[.slice a1 g.vs.length a2, .slice b1 g.es.length b2, .slice c1v g.ds.length c2] 28 (0, 0)) := by rw [hw1]; exact heap_alloc_new w _
  have B0 : Below w.heap.size w w1 := by rw [hw1]; exact (Below.refl _ w).alloc (Nat.le_refl _) _
  have hs1 : w1.heap.size = w.heap.size + 1 := by rw [hw1]; simp
  have fb := Lib.hid (fun W (q : Below w1.heap.size w1 W) => box3g ((q.block _ (show w.heap.size < w1.heap.size by omega)).trans gb))
  have hEn := Lib.hid (Ends_any _ g a b w1 (hv.below B0) hn)
  obtain ⟨g0, g1, g2⟩ := fb.out w1 (Below.refl _ _)
  have hB0 := Lib.hid B0
  replace hw1 := Lib.hid hw1
  cases hh : holdsF g [a, b] with
  | false =>
    have hr : connF g a b = (false, 70) := by unfold connF; rw [if_neg (by rw [hh]; simp)]
    rw [hr]
    rw [hh] at hEn
    generalize g.vs.length = n1 at *
    generalize g.es.length = n2 at *
    generalize g.ds.length = n3 at *
    clear hr hh gb B0 hs1 hv hv1 hv2 hv3
    go_enter Try.func24, Try.ntmps24
    go_upto_region 1 with (fail)
    rw [← hw1.out]
    go_wp2_with fail
    refine hEn.out.mono ?_
    rintro e w2 ⟨rfl, q2⟩
    have B2 := Lib.hid (hB0.out.trans (q2.mono hB0.out.size))
    clear q2 hEn g0 g1 g2
    go_wp2_with fail
    go_ret2
    exact ⟨rfl, B2.out⟩
  | true =>
    obtain ⟨ho, ha, hb⟩ := holds_two hh
    have hr := conn_of ho ha hb
    rw [hr]
    rw [hh] at hEn
    have fPt := Lib.hid (fun W (q : Below w1.heap.size w1 W) => Part_any _ g a W ((hv.below B0).below q) ho ha)
    obtain ⟨jb, hjb, hpb, hVb⟩ := plI_idx hb (good_of ho).1.nodup
    have fP := Lib.hid (fun W (q : Below w1.heap.size w1 W) => PlaceR_any _ g b W ((hv.below B0).below q) (by have := (ok_facts ho).1; omega))
    rw [hpb] at fP
    have hbl := ball_comp ho ha hb
    have hkl : (keysV g.vs).length = g.vs.length := by simp [keysV]
    have hroots : Hid (decide ((gp (mF g) b).root = (gp (mF g) a).root) = decide ((gp (mF g) a).root = (gp (mF g) b).root)) := by
      show _ = _; rw [Bool.eq_iff_iff]; simp; exact eq_comm
    rw [hroots.out] at hbl
    generalize decide ((gp (mF g) a).root = (gp (mF g) b).root) = B at *
    generalize ballF g.es a (keysV g.vs).length = S at *
    generalize hV : keysV g.vs = V at *
    have hVl : Hid ((V.map S).length = g.vs.length) := by show _ = _; rw [List.length_map]; exact hkl
    have hat : Hid ((V.map S)[jb]? = some B) := by show _ = _; rw [List.getElem?_map, List.getElem?_eq_getElem hjb, hVb, Option.map_some, hbl]
    have j0 : (0 : Int) ≤ (jb : Int) := by omega
    have j1 : (jb : Int) < (g.vs.length : Int) := by omega
    have hpos : Hid (0 < (V.map S).length) := by show _ < _; rw [List.length_map]; omega
    generalize g.vs.length = n1 at *
    generalize g.es.length = n2 at *
    generalize g.ds.length = n3 at *
    clear hr hh gb B0 hs1 hv hv1 hv2 hv3 hbl hkl hpb hVb hjb hroots hV
    go_enter Try.func24, Try.ntmps24
    go_upto_region 1 with (fail)
    rw [← hw1.out]
    go_wp2_with fail
    refine hEn.out.mono ?_
    rintro e w2 ⟨rfl, q2⟩
    have B2 := Lib.hid q2
    clear q2 hEn g0 g1 g2
    go_upto_region 3 with (fail)
    refine Rel.c_region (fun _ => false) w2 [some (.agg #[.slice a1 n1 a2, .slice b1 n2 b2, .slice c1v n3 c2]), some (.int .i64 a), none, some (.agg #[.slice a1 n1 a2, .slice b1 n2 b2, .slice c1v n3 c2]), some (.int .i64 b), none, none, some (.bool B), none, none]
      (fun i v W => match i with
        | 2 => ∃ pg pc, v = .slice (some ⟨pg, 0, none⟩) n1 pc ∧ OwnZ W w2.heap.size (.slice (some ⟨pg, 0, none⟩) n1 pc) (V.map S)
        | 5 => v = .int .i64 jb
        | 6 => ∃ pg pc, v = .pointer (some ⟨pg, jb, none⟩) ∧ OwnZ W w2.heap.size (.slice (some ⟨pg, 0, none⟩) n1 pc) (V.map S)
        | _ => True)
      (fun i vals W => Below w2.heap.size w2 W ∧ vals 8 = .bool B ∧ (i = 9 → vals 9 = .int .i64 0)) 8 (by kernel_rfl) (by kernel_rfl) (fun i hi => by cases hi)
      (fun j hj => by simp only [List.getD_eq_getElem?_getD]; rcases Nat.lt_or_ge j 10 with h | h; (obtain rfl | rfl : j = 8 ∨ j = 9 := by omega); rfl; rfl; rw [List.getElem?_eq_none (by simp; omega)]; rfl) (by decide) (fun i v W W' h Bl => by
        split at h
        · obtain ⟨pg, pc, h1, h2⟩ := h; exact ⟨pg, pc, h1, own_below h2 Bl⟩
        · exact h
        · obtain ⟨pg, pc, h1, h2⟩ := h; exact ⟨pg, pc, h1, own_below h2 Bl⟩
        · exact trivial) ((Below.refl _ w2).drew) (fun vals hO => ?_)
    refine Rel.c_pure rfl (.agg #[.slice a1 n1 a2, .slice b1 n2 b2, .slice c1v n3 c2]) rfl (by decide) (hO 0 _ rfl) (by rfl) (fun w hC hd => ?_) ?_
    · obtain ⟨y0, y1, y2⟩ := fb.out w (B2.out.trans (hC.mono B2.out.size)); clear hd hO; go_simp
    try simp only [Act.put, zT, z0, zS]
    refine Rel.c_pure rfl (.int .i64 a) rfl (by decide) (hO 1 _ rfl) (by rfl) (fun w hC hd => ?_) ?_
    · clear hd hO; go_simp
    try simp only [Act.put, zT, z0, zS]
    refine Rel.c_rel rfl rfl (by decide) (by rfl) (fun wz hC hd => ?_) ?_
    · refine post_call Try.f53 rfl Try.func53 (by kernel_rfl) (by kernel_rfl) #[.agg #[.slice a1 n1 a2, .slice b1 n2 b2, .slice c1v n3 c2], .int .i64 a] (by simp [Act.eval]) ((fPt.out wz (B2.out.trans (hC.mono B2.out.size))).mono ?_)
      rintro e w5 ⟨r, rfl, hZ, q5⟩
      obtain ⟨pg, pc, rfl, _, _, _⟩ := hZ.form hpos.out
      rw [hVl.out] at *
      exact ⟨_, rfl, q5, pg, pc, rfl, own_low hZ hC.size⟩
    try simp only [Act.put, zT, z0, zS]
    refine Rel.c_pure rfl (.agg #[.slice a1 n1 a2, .slice b1 n2 b2, .slice c1v n3 c2]) rfl (by decide) (hO 3 _ rfl) (by rfl) (fun w hC hd => ?_) ?_
    · obtain ⟨y0, y1, y2⟩ := fb.out w (B2.out.trans (hC.mono B2.out.size)); clear hd hO; go_simp
    try simp only [Act.put, zT, z0, zS]
    refine Rel.c_pure rfl (.int .i64 b) rfl (by decide) (hO 4 _ rfl) (by rfl) (fun w hC hd => ?_) ?_
    · clear hd hO; go_simp
    try simp only [Act.put, zT, z0, zS]
    refine Rel.c_rel rfl rfl (by decide) (by rfl) (fun wz hC hd => ?_) ?_
    · refine post_call Try.f20 rfl Try.func20 (by kernel_rfl) (by kernel_rfl) #[.agg #[.slice a1 n1 a2, .slice b1 n2 b2, .slice c1v n3 c2], .int .i64 b] (by simp [Act.eval]) ((fP.out wz (B2.out.trans (hC.mono B2.out.size))).mono ?_)
      rintro e w5 ⟨rfl, q5⟩
      exact ⟨_, rfl, q5, rfl⟩
    try simp only [Act.put, zT, z0, zS]
    refine Rel.c_rel rfl rfl (by decide) (by rfl) (fun wz hC hd => ?_) ?_
    · obtain ⟨pg, pc, h2, hZ⟩ : ∃ pg pc, vals 2 = .slice (some ⟨pg, 0, none⟩) n1 pc ∧ OwnZ wz w2.heap.size (.slice (some ⟨pg, 0, none⟩) n1 pc) (V.map S) := hd 2 (by decide)
      have h5 : vals 5 = .int .i64 jb := hd 5 (by decide)
      refine post_value (.pointer (some ⟨pg, jb, none⟩)) wz ?_ ⟨Below.refl _ _, pg, pc, rfl, hZ⟩
      rw [h2, h5]
      clear hd hO h2 h5 hZ hC; go_simp
    try simp only [Act.put, zT, z0, zS]
    refine Rel.c_pure rfl (.bool B) rfl (by decide) (hO 7 _ rfl) (by rfl) (fun wz hC hd => ?_) ?_
    · obtain ⟨pg, pc, h2, hZ⟩ : ∃ pg pc, vals 6 = .pointer (some ⟨pg, jb, none⟩) ∧ OwnZ wz w2.heap.size (.slice (some ⟨pg, 0, none⟩) n1 pc) (V.map S) := hd 6 (by decide)
      obtain ⟨y0, _⟩ := hZ.at_ jb B hat.out
      rw [h2]
      clear hd hO h2 hZ hC; go_simp
    try simp only [Act.put, zT, z0, zS]
    refine Rel.c_tail0 rfl rfl (by rfl) (fun wz hC hd => ?_) ?_
    · refine post_value (.bool B) wz ?_ ⟨hC, by simp [Rel.upd], fun h => absurd h (by decide)⟩
      clear hd hO hC; go_simp
    try simp only [Act.put, zT, z0, zS]
    refine Rel.c_tail rfl 8 rfl (by decide) (by rfl) (fun wz hF => ?_) ?_
    · obtain ⟨h0, h1, _⟩ := hF
      refine post_value (.int .i64 0) wz ?_ ⟨h0, by simpa [Rel.upd] using h1, fun _ => by simp [Rel.upd]⟩
      clear hO h1; go_simp
    try simp only [Act.put, zT, z0, zS]
    refine Rel.c_end ?_
    intro w3 hF
    obtain ⟨h0, h1, h2⟩ := hF
    have h2 := h2 rfl
    have e8 : vals (0 + 1 + 1 + 1 + 1 + 1 + 1 + 1 + 1) = .bool B := h1
    have e9 : vals (0 + 1 + 1 + 1 + 1 + 1 + 1 + 1 + 1 + 1) = .int .i64 0 := h2
    rw [e8, e9]
    have hF := Lib.hid (hB0.out.trans ((B2.out.trans (h0.mono B2.out.size)).mono hB0.out.size))
    clear h0 h1 h2 e8 e9 hO
    go_wp2_with fail
    go_ret2
    exact ⟨rfl, hF.out⟩

end Go.Proofs.Ytlnbobclbaieoaa
/- Contracts and facts. -/
set_option linter.unusedSimpArgs false
set_option maxRecDepth 100000
set_option maxHeartbeats 4000000
namespace Go.Proofs.Ytlnbobclbaieoaa
open Go.RowKit
theorem readF_find (L : List Nm) (k : Int) : readF L k = match L.find? (fun x => x.1 == k) with
  | some x => if x.2.length = 3 then some ⟨x.2[0]?.getD 0, x.2[1]?.getD 0, x.2[2]?.getD 0⟩ else none
  | none => none := by
  induction L with
  | nil => rfl
  | cons x t ih =>
    rw [readF_cons]
    unfold stepR
    by_cases h : x.1 = k
    · rw [List.find?_cons_of_pos (by simpa using h)]
      by_cases h3 : x.2.length = 3
      · rw [if_pos h3]; simp [putP, h3, h]
      · rw [if_neg h3]; simp [h3, h]
    · rw [List.find?_cons_of_neg (by simpa using h), ← ih]
      by_cases h3 : x.2.length = 3
      · rw [if_pos h3]; unfold putP; rw [if_neg (fun e => h e.symm)]
      · rw [if_neg h3]; show (if k = x.1 then none else readF t k) = _; rw [if_neg (fun e => h e.symm)]
def lab3 : Option Pl → List Int
  | some p => [p.root, p.depth, p.edge]
  | none => []
theorem findF_read (L : List Nm) (k : Int) : findF L k 3 = lab3 (readF L k) := by
  rw [readF_find]; unfold findF
  cases h : L.find? (fun x => x.1 == k) with
  | none => rfl
  | some x =>
    obtain ⟨a, l⟩ := x
    show (if ((l.length : Nat) : Int) = 3 then l else []) = lab3 (if l.length = 3 then _ else none)
    by_cases h3 : l.length = 3
    · rw [if_pos h3, if_pos (by omega)]
      match l, h3 with
      | [x, y, z], _ => rfl
    · rw [if_neg h3, if_neg (by omega)]; rfl
theorem step_no {es : List Ed} {a x : Int} (h : ∀ e ∈ es, e.id ≠ x) : (stepF es a x).2 = false := by
  cases hs : (stepF es a x).2 with
  | false => rfl
  | true =>
    obtain ⟨e, h1, h2, _⟩ := step_some hs
    exact absurd h2 (h e (mem_atF.1 h1).1)
theorem step_at {es : List Ed} {V : List Int} (G : GrOk es V) {a x : Int} (i : Nat) (hi : i < es.length) (hx : es[i].id = x) :
    (otherI es[i] a < 0 → (stepF es a x).2 = false) ∧ (0 ≤ otherI es[i] a → stepF es a x = (otherI es[i] a, true)) := by
  by_cases h : es[i] ∈ atF es a
  · have h1 := G.vnn _ (other_mem G h)
    refine ⟨fun h2 => by omega, fun _ => ?_⟩
    have := step_of (V := V) G h
    rw [hx] at this; exact this
  · have h1 : otherI es[i] a = -1 := by
      have : ¬ (es[i].src = a ∨ es[i].dst = a) := fun q => h (mem_atF.2 ⟨List.getElem_mem hi, q⟩)
      unfold otherI
      rw [if_neg (fun q => this (.inl q)), if_neg (fun q => this (.inr q))]
    refine ⟨fun _ => ?_, fun h2 => by omega⟩
    cases hs : (stepF es a x).2 with
    | false => rfl
    | true =>
      obtain ⟨e, h1, h2, _⟩ := step_some hs
      have := G.uniq e (mem_atF.1 h1).1 es[i] (List.getElem_mem hi) (by rw [h2, hx])
      rw [this] at h1
      exact absurd h1 h
/-- the first pair of equal vertices on the two ways up -/
theorem meet_first {es : List Ed} {V : List Int} {m : PM} (G : GrOk es V) (M : Gd es V m) {a b : Int} (ha : a ∈ V) (hb : b ∈ V) (hr : (gp m a).root = (gp m b).root) :
    ∃ p q, p ≤ (gp m a).depth.toNat ∧ q ≤ (gp m b).depth.toNat ∧ anc es m p a = anc es m q b ∧ (∀ i j, i ≤ (gp m a).depth.toNat → j ≤ (gp m b).depth.toNat → anc es m i a = anc es m j b → p ≤ i ∧ q ≤ j) ∧
      pathF es m a b = (climb es m a).take p ++ ((climb es m b).take q).reverse := by
  obtain ⟨c, F⟩ := fork (es := es) (m := m) a b
  unfold pathF
  generalize cp (climb es m a).reverse (climb es m b).reverse = xy at *
  obtain ⟨x, y⟩ := xy
  simp only at F ⊢
  obtain ⟨f1, f2, f3⟩ := fork_meet G M ha hb hr F
  have F' : Fork es m b a y x c := ⟨F.cy, F.cx, fun p ps q qs h1 h2 h3 => F.ne q qs p ps h2 h1 h3.symm⟩
  refine ⟨x.length, y.length, f1, f2, f3, fun i j hi hj he => ?_, ?_⟩
  · have d1 := (anc_ok G M ha hi).2.2.1
    have d2 := (anc_ok G M hb hj).2.2.1
    have d3 := (anc_ok G M ha f1).2.2.1
    have d4 := (anc_ok G M hb f2).2.2.1
    rw [he] at d1
    rw [f3] at d3
    refine Classical.byContradiction fun hn => ?_
    rcases Nat.lt_or_ge i x.length with h | h
    · exact fork_apart G M hb ha F' (i := j) (j := i) (by omega) h he.symm
    · exact fork_apart G M ha hb F (i := i) (j := j) (by omega) (by omega) he
  · rw [F.cx, F.cy, List.take_left' (by simp), List.take_left' (by simp), List.reverse_reverse]
def upV (es : List Ed) (m : PM) (i : Int) (n : Nat) : List Int := (List.range (n + 1)).map fun j => anc es m j i
theorem upV_len (es : List Ed) (m : PM) (i : Int) (n : Nat) : (upV es m i n).length = n + 1 := by simp [upV]
theorem upV_at (es : List Ed) (m : PM) (i : Int) (n j : Nat) (h : j ≤ n) : (upV es m i n)[j]? = some (anc es m j i) := by
  unfold upV; rw [List.getElem?_map, List.getElem?_range (by omega)]; rfl
theorem upV_succ (es : List Ed) (m : PM) (i : Int) (n : Nat) : upV es m i (n + 1) = upV es m i n ++ [anc es m (n + 1) i] := by
  unfold upV; rw [List.range_succ, List.map_append]; rfl
theorem vaF_out (n : Int) (h : isV n = false) : ∀ (l : List Ed) (k : Int), vaF n k l = false := by
  intro l
  induction l with
  | nil => intro k; exact h
  | cons e l ih => intro k; show (okE k n e && vaF n e.id l) = false; rw [ih, Bool.and_false]
def okN (last n : Int) (e : Ed) : Prop := 0 ≤ e.id ∧ e.id < 40 ∧ last < e.id ∧ 0 ≤ e.src ∧ e.src < 24 ∧ 0 ≤ e.dst ∧ e.dst < 24 ∧ -1000 ≤ e.wt ∧ e.wt ≤ 1000 ∧ (e.src = n ∨ e.dst = n)
theorem va_bad (last n : Int) (e : Ed) (l : List Ed) (h0 : -1 ≤ last) (h : ¬ okN last n e) : vaF n last (e :: l) = false := by
  cases hV : isV n with
  | false => exact vaF_out n hV _ _
  | true =>
    show (okE last n e && vaF n e.id l) = false
    have : okE last n e = false := by
      refine Bool.eq_false_iff.2 fun hk => h ?_
      unfold okE isV at hk
      unfold isV at hV
      simp only [Bool.not_eq_true', Bool.or_eq_false_iff, decide_eq_false_iff_not, Bool.not_eq_false', Bool.and_eq_true, decide_eq_true_eq] at hk hV
      unfold otherI at hk
      unfold okN
      by_cases h1 : e.src = n
      · rw [if_pos h1] at hk; exact ⟨by omega, by omega, by omega, by omega, by omega, by omega, by omega, by omega, by omega, .inl h1⟩
      · rw [if_neg h1] at hk
        by_cases h2 : e.dst = n
        · rw [if_pos h2] at hk; exact ⟨by omega, by omega, by omega, by omega, by omega, by omega, by omega, by omega, by omega, .inr h2⟩
        · rw [if_neg h2] at hk; omega
    rw [this]; rfl
theorem va_ok (last n : Int) (e : Ed) (l : List Ed) (h : okN last n e) : vaF n last (e :: l) = vaF n e.id l := by
  cases hV : isV n with
  | false => rw [vaF_out n hV, vaF_out n hV]
  | true =>
    show (okE last n e && vaF n e.id l) = _
    have : okE last n e = true := by
      obtain ⟨h1, h2, h3, h4, h5, h6, h7, h8, h9, h10⟩ := h
      unfold okE isV
      simp only [Bool.not_eq_true', Bool.or_eq_false_iff, decide_eq_false_iff_not, Bool.not_eq_false', Bool.and_eq_true, decide_eq_true_eq]
      unfold otherI
      refine ⟨⟨⟨⟨by omega, by omega⟩, ?_⟩, by omega⟩, by omega⟩
      split
      · omega
      · split <;> omega
    rw [this]; rfl
theorem good_no1 {n : Int} {es : List Ed} {m : PM} (h : m n = none ∨ vaF n (-1) es = false ∨ (gp m n).root < 0 ∨ n < (gp m n).root ∨ (gp m n).depth < 0) : goodF n es m = false := by
  unfold goodF
  rw [if_neg]
  rintro ⟨h1, h2, h3, h4, h5⟩
  rcases h with h | h | h | h | h
  · rw [h] at h1; cases h1
  · rw [h] at h2; cases h2
  · exact h3 h
  · exact h4 h
  · exact h5 h
theorem good_no2 {n : Int} {es : List Ed} {m : PM} (h : ((gp m n).depth = 0 ∧ (gp m n).root ≠ n) ∨ ((gp m n).depth ≠ 0 ∧ (gp m n).root = n) ∨ ((gp m n).depth = 0 ∧ (gp m n).edge ≠ -1)) : goodF n es m = false := by
  unfold goodF
  split
  · rw [if_pos (by rcases h with h | h | h; exact .inr h.1; exact .inl h.2; exact .inr h.1)]
    rw [show decide ((gp m n).root = n ∧ (gp m n).depth = 0 ∧ (gp m n).edge = -1) = false from decide_eq_false (by omega), Bool.and_false]
  · rfl
theorem good_yes {n : Int} {es : List Ed} {m : PM} (h1 : (m n).isSome = true) (h2 : vaF n (-1) es = true) (h3 : ¬ (gp m n).root < 0) (h4 : ¬ n < (gp m n).root) (h5 : ¬ (gp m n).depth < 0)
    (h6 : (gp m n).depth = 0 ↔ (gp m n).root = n) (h7 : (gp m n).depth = 0 → (gp m n).edge = -1) :
    goodF n es m = (es.all (nbF m n) && (decide ((gp m n).depth = 0) || (decide (0 ≤ upF m n es) && decide ((gp m n).edge = upF m n es)))) := by
  unfold goodF
  rw [if_pos ⟨h1, h2, h3, h4, h5⟩]
  congr 1
  by_cases h : (gp m n).depth = 0
  · rw [if_pos (.inr h), decide_eq_true h, Bool.true_or]; exact decide_eq_true ⟨h6.1 h, h, h7 h⟩
  · rw [if_neg (by omega), decide_eq_false h, Bool.false_or, Bool.eq_iff_iff]
    simp only [Bool.and_eq_true, decide_eq_true_eq, beq_iff_eq]
    constructor
    · rintro ⟨a, b⟩; exact ⟨by omega, b⟩
    · rintro ⟨a, b⟩; exact ⟨by omega, b⟩
theorem upF_cons (m : PM) (n : Int) (e : Ed) (l : List Ed) : upF m n (e :: l) = if (gp m (otherI e n)).depth = (gp m n).depth - 1 then e.id else upF m n l := by
  unfold upF
  by_cases h : (gp m (otherI e n)).depth = (gp m n).depth - 1
  · rw [List.find?_cons_of_pos (by simpa using h), if_pos h]
  · rw [List.find?_cons_of_neg (by simpa using h), if_neg h]

end Go.Proofs.Ytlnbobclbaieoaa
/- Contracts and facts. -/
set_option linter.unusedSimpArgs false
set_option maxRecDepth 100000
set_option maxHeartbeats 4000000
namespace Go.Proofs.Ytlnbobclbaieoaa
open Go.RowKit
theorem holds_dup {g : Gr} {a : Int} : holdsF g [a, a] = holdsF g [a] := by
  unfold holdsF; simp
theorem side_ball {g : Gr} {a : Int} (ho : g.ok = true) (ha : a ∈ keysV g.vs) : (keysV g.vs).filter (ballF g.es a (keysV g.vs).length) = sideF (mF g) (keysV g.vs) a := by
  unfold sideF
  refine List.filter_congr fun v hv => ?_
  rw [ball_comp ho ha hv]
  try rfl
  try (rw [Bool.eq_iff_iff]; simp; exact eq_comm)
set_option maxRecDepth 100000 in
theorem SideR_any (v : Value) (g : Gr) (a : Int) (w : World) (hv : GV w v g) (hn : g.small) :
    Calls Try.prog 26 #[v, .int .i64 a] w fun e w' => ∃ r, e = .returned (.tuple #[r, .int .i64 (sideC g a).2]) ∧ OwnI w' w.heap.size r (sideC g a).1 ∧ Below w.heap.size w w' := by
  obtain ⟨a1, a2, b1, b2, c1v, c2, rfl, hv1, hv2, hv3⟩ := gv_shape hv
  obtain ⟨w1, hw1⟩ : ∃ w1, w1 = w.alloc (.cells #[.slice a1 g.vs.length a2, .slice b1 g.es.length b2, .slice c1v g.ds.length c2] 28) := ⟨_, rfl⟩
  have gb : w1.heap[w.heap.size]? = some (.cells #[.slice a1 g.vs.length a2, .slice b1 g.es.length b2, .slice c1v g.ds.length c2] 28 (0, 0)) := by rw [hw1]; exact heap_alloc_new w _
  have B0 : Below w.heap.size w w1 := by rw [hw1]; exact (Below.refl _ w).alloc (Nat.le_refl _) _
  have hs1 : w1.heap.size = w.heap.size + 1 := by rw [hw1]; simp
  have fb := Lib.hid (fun W (q : Below w1.heap.size w1 W) => box3g ((q.block _ (show w.heap.size < w1.heap.size by omega)).trans gb))
  have hEn := Ends_any _ g a a w1 (hv.below B0) hn
  rw [holds_dup] at hEn
  replace hEn := Lib.hid hEn
  obtain ⟨g0, g1, g2⟩ := fb.out w1 (Below.refl _ _)
  have hB0 := Lib.hid B0
  replace hw1 := Lib.hid hw1
  cases hh : holdsF g [a] with
  | false =>
    have hr : sideC g a = ([], 70) := by unfold sideC; rw [if_neg (by rw [hh]; simp)]
    rw [hr]
    rw [hh] at hEn
    generalize g.vs.length = n1 at *
    generalize g.es.length = n2 at *
    generalize g.ds.length = n3 at *
    clear hr hh gb B0 hs1 hv hv1 hv2 hv3
    go_enter Try.func26, Try.ntmps26
    go_upto_region 1 with (fail)
    rw [← hw1.out]
    go_wp2_with fail
    refine hEn.out.mono ?_
    rintro e w2 ⟨rfl, q2⟩
    have B2 := Lib.hid (hB0.out.trans (q2.mono hB0.out.size))
    clear q2 hEn g0 g1 g2
    go_wp2_with fail
    go_ret2
    exact ⟨_, rfl, World.ownsRow_nil _ _ _ _, B2.out⟩
  | true =>
    obtain ⟨ho, ha⟩ := holds_one hh
    have hr := side_of ho ha
    rw [hr]
    rw [hh] at hEn
    have fPt := Lib.hid (fun W (q : Below w1.heap.size w1 W) => Part_any _ g a W ((hv.below B0).below q) ho ha)
    have hsd := side_ball ho ha
    have hkl : (keysV g.vs).length = g.vs.length := by simp [keysV]
    have hn24 : g.vs.length ≤ 24 := (ok_facts ho).1.1
    have cellV := Lib.hid (fun (k : Nat) (hk : k < g.vs.length) => by
      obtain ⟨b, o, h1, h2⟩ := (hv1.below B0).cells k hk
      exact (show ∃ b o, a1 = some ⟨b, o, none⟩ ∧ ∀ W, Below w1.heap.size w1 W → W.cell? ⟨b, o + k * 2, none⟩ = some (.int .i64 g.vs[k].id) ∧ W.cell? ⟨b, o + k * 2 + 1, none⟩ = some (.int .i64 g.vs[k].side) from ⟨b, o, h1, h2⟩))
    generalize sideF (mF g) (keysV g.vs) a = R at *
    generalize ballF g.es a (keysV g.vs).length = S at *
    have hpos : 0 < g.vs.length := by rw [← hkl]; exact List.length_pos_of_mem ha
    obtain ⟨A, hA⟩ : ∃ A : Nat → List Int, ∀ k, A k = ((keysV g.vs).take k).filter S := ⟨_, fun _ => rfl⟩
    have hA0 : Hid (A 0 = []) := by show _ = _; rw [hA]; rfl
    have hAs := Lib.hid (fun (k : Nat) (hk : k < g.vs.length) => (show A (k + 1) = if S g.vs[k].id = true then A k ++ [g.vs[k].id] else A k by
      have hk' : k < (keysV g.vs).length := by simpa [keysV] using hk
      rw [hA, hA, List.take_succ_eq_append_getElem hk', List.filter_append, show (keysV g.vs)[k] = g.vs[k].id from by simp [keysV]]
      by_cases h : S g.vs[k].id = true
      · rw [if_pos h, List.filter_cons_of_pos h]; rfl
      · rw [if_neg h, List.filter_cons_of_neg h]; simp))
    have hAe : Hid (A g.vs.length = R) := by show _ = _; rw [hA, List.take_of_length_le (by simp [keysV]), hsd]
    have hAl := Lib.hid (fun k => (show (A k).length ≤ g.vs.length by
      rw [hA]
      have h1 := List.length_filter_le S ((keysV g.vs).take k)
      have h4 : ((keysV g.vs).take k).length ≤ (keysV g.vs).length := by rw [List.length_take]; omega
      omega))
    have hat := Lib.hid (fun (k : Nat) (hk : k < g.vs.length) => show ((keysV g.vs).map S)[k]? = some (S g.vs[k].id) from by
      rw [List.getElem?_map, List.getElem?_eq_getElem (by omega), Option.map_some]; simp [keysV])
    have hVl : Hid (((keysV g.vs).map S).length = g.vs.length) := by show _ = _; rw [List.length_map]; exact hkl
    generalize hZV : (keysV g.vs).map S = Z at *
    obtain ⟨N, hN⟩ : ∃ N, Hid (N = g.vs.length) := ⟨_, rfl⟩
    rw [← hN.out] at hw1 fb hAe hAl g0 hVl hpos hn24
    rw [← hN.out]
    have fPt := Lib.hid (show ∀ W, Below w1.heap.size w1 W → Calls Try.prog 53 #[.agg #[.slice a1 N a2, .slice b1 g.es.length b2, .slice c1v g.ds.length c2], .int .i64 a] W fun e w' => ∃ r, e = .returned r ∧ OwnZ w' W.heap.size r Z ∧ Below W.heap.size W w' from fun W q => by rw [hN.out]; exact fPt.out W q)
    have hEn := Lib.hid (show Calls Try.prog 55 #[.agg #[.slice a1 N a2, .slice b1 g.es.length b2, .slice c1v g.ds.length c2], .int .i64 a, .int .i64 a] w1 fun e w' => e = .returned (.bool true) ∧ Below w1.heap.size w1 w' from by rw [hN.out]; exact hEn.out)
    have hbase : Hid (w.heap.size ≤ w1.heap.size) := by show _ ≤ _; omega
    clear hr hh gb B0 hs1 hv hv1 hv2 hv3 hkl hsd hZV hA
    generalize g.es.length = n2 at *
    generalize g.ds.length = n3 at *
    go_enter Try.func26, Try.ntmps26
    go_upto_region 1 with (fail)
    rw [← hw1.out]
    go_wp2_with fail
    refine hEn.out.mono ?_
    rintro e w2 ⟨rfl, q2⟩
    have B2 := Lib.hid q2
    clear q2 hEn g0 g1 g2
    obtain ⟨g0, g1, g2⟩ := fb.out w2 B2.out
    go_wp2_with fail
    refine (fPt.out w2 B2.out).mono ?_
    rintro e w3 ⟨r, rfl, hZ, b3⟩
    have B3 := Lib.hid (B2.out.trans (b3.mono B2.out.size))
    obtain ⟨pg, pc, rfl, _, _, _⟩ := hZ.form (by rw [hVl.out]; exact hpos)
    rw [hVl.out] at *
    have hZW := Lib.hid (fun W (q : Below w3.heap.size w3 W) => (show OwnZ W w2.heap.size (.slice (some ⟨pg, 0, none⟩) N pc) Z from own_below hZ q))
    clear b3 g0 g1 g2 hZ
    go_wp2_with fail
    go_loopg [7, 8] N (fun n lv iv wr => ∃ k : Nat, k + n = N ∧ iv = .int .i64 k ∧ OwnI wr w3.heap.size lv (A k) ∧ Below w3.heap.size w3 wr)
    case atStart => exact ⟨0, by omega, rfl, by rw [hA0.out]; exact World.ownsRow_nil _ _ _ _, Below.refl _ _⟩
    case round =>
      obtain ⟨k, hk, rfl, hown, B⟩ := hrel
      obtain ⟨wo, rfl⟩ : ∃ x, x = wr := ⟨_, rfl⟩
      cases gk with
      | zero =>
        have hk2 : k = N := by omega
        have i1 : ¬ (k : Int) < (N : Int) := by omega
        rw [hk2, hAe.out] at hown
        have hB := Lib.hid (B3.out.trans (B.mono B3.out.size))
        have hfin := Lib.hid hown
        clear hk2 hk hown B
        go_wp2_with fail
        go_ret2
        have hle := B3.out.size
        have hbs := hbase.out
        exact ⟨_, rfl, ⟨hfin.out.1, hfin.out.2.imp id fun ⟨g, cap, cur, h1, h2, h3⟩ => ⟨g, cap, cur, h1, by omega, h3⟩⟩, hB0.out.trans (hB.out.mono hbs)⟩
      | succ ga =>
        have hlt : k < N := by omega
        have hkl : k < g.vs.length := by rw [← hN.out]; exact hlt
        obtain ⟨bv, ov, rfl, cv⟩ := cellV.out k hkl
        have hq3 := B3.out.trans (B.mono B3.out.size)
        obtain ⟨g0, g1, g2⟩ := fb.out wo hq3
        obtain ⟨d0, d1⟩ := cv wo hq3
        obtain ⟨z0, _⟩ := (hZW.out wo B).at_ k _ (hat.out k hkl)
        have i0 : (0 : Int) ≤ (k : Int) := by omega
        have i1 : (k : Int) < (N : Int) := by omega
        have hst := Lib.hid (hAs.out k hkl)
        have hln := hAl.out k
        have hle : Hid (k + 1 + ga = N) := by show _ = _; omega
        generalize g.vs[k].id = r at *
        generalize g.vs[k].side = sd at *
        generalize A k = L at *
        obtain ⟨v', w', hr, ho2, hb2, _⟩ := snocI wo w3.heap.size _ L r hown (by omega) B.size
        have hb3 := Lib.hid (hb2 w3 B (Nat.le_refl _) (Nat.le_refl _))
        replace ho2 := Lib.hid ho2
        have ho1 := Lib.hid hown
        have hBw := Lib.hid B
        clear hb2 hown B cv hk hkl hlt hln hq3
        cases hx : S r with
        | true =>
          rw [hx] at z0
          have hnew : Hid (A (k + 1) = L ++ [r]) := by show _ = _; rw [hst.out, if_pos hx]
          clear hx hst
          go_wp2_with (at_builtin; refine wpList_append_runB rfl (.tmp 27) (.tmp 34) 26 rfl u7 (.slice (some ⟨wo.heap.size, 0, none⟩) 1 1) rfl rfl _ _ hr ?_)
          go_roundg ga
          case measure => omega
          case rel => exact ⟨k + 1, hle.out, by go_num, by rw [hnew.out]; exact ho2.out, hb3.out⟩
        | false =>
          rw [hx] at z0
          have hnew : Hid (A (k + 1) = L) := by show _ = _; rw [hst.out, if_neg (by rw [hx]; simp)]
          clear hx hst hr
          go_wp2_with fail
          go_roundg ga
          case measure => omega
          case rel => exact ⟨k + 1, hle.out, by go_num, by rw [hnew.out]; exact ho1.out, hBw.out⟩

end Go.Proofs.Ytlnbobclbaieoaa
/- Contracts and facts. -/
set_option linter.unusedSimpArgs false
set_option maxRecDepth 100000
set_option maxHeartbeats 4000000
namespace Go.Proofs.Ytlnbobclbaieoaa
open Go.RowKit
theorem plI_ex {ks : List Int} {x : Int} (h : x ∈ ks) : ∃ (i : Nat) (hi : i < ks.length), plI ks x = (i : Int) ∧ ks[i] = x := by
  obtain ⟨i, ⟨hi, he⟩, hm⟩ := least_ex (P := fun i => ∃ h : i < ks.length, ks[i] = x) (by obtain ⟨i, hi, he⟩ := List.getElem_of_mem h; exact ⟨i, hi, he⟩)
  exact ⟨i, hi, plI_at _ _ _ hi (fun j hj hji e => by have := hm j ⟨hj, e⟩; omega) he, he⟩
set_option maxRecDepth 100000 in
theorem CheckPathR_any (v : Value) (g : Gr) (a b : Int) (vl : Value) (l : List Int) (w : World) (hv : GV w v g) (hn : g.small) (hl : DL w vl l) (hm : l.length ≤ 1000000000) (hes : g.es.length ≤ 1000000000) :
    Calls Try.prog 28 #[v, .int .i64 a, .int .i64 b, vl] w fun e w' => e = .returned (.bool (ckPathC g a b l)) ∧ Below w.heap.size w w' := by
  obtain ⟨a1, a2, b1, b2, c1v, c2, rfl, _, hv2, _⟩ := gv_shape hv
  obtain ⟨l1, l2, rfl⟩ := hl.shape
  have hR : Hid (ckPathC g a b l = (decide (l.length ≤ 40) && (holdsF g [a, b] && decide (walkF g.es a l = some b)))) := rfl
  obtain ⟨w1, hw1⟩ : ∃ w1, w1 = w.alloc (.cells #[.slice a1 g.vs.length a2, .slice b1 g.es.length b2, .slice c1v g.ds.length c2] 28) := ⟨_, rfl⟩
  have gb : w1.heap[w.heap.size]? = some (.cells #[.slice a1 g.vs.length a2, .slice b1 g.es.length b2, .slice c1v g.ds.length c2] 28 (0, 0)) := by rw [hw1]; exact heap_alloc_new w _
  have B0 : Below w.heap.size w w1 := by rw [hw1]; exact (Below.refl _ w).alloc (Nat.le_refl _) _
  have hs1 : w1.heap.size = w.heap.size + 1 := by rw [hw1]; simp
  obtain ⟨g0, g1, g2⟩ := box3g gb
  have hG1 := Lib.hid (fun W (q : Below w1.heap.size w1 W) => box3g ((q.block _ (by omega)).trans gb))
  have hHo := Lib.hid (Ends_any _ g a b w1 (hv.below B0) hn)
  have hFi := Lib.hid (fun (x : Int) W (q : Below w1.heap.size w1 W) => FindR_any _ g x W ((hv.below B0).below q) (by omega))
  have cellD := Lib.hid (hl.below B0).cells
  have cE := Lib.hid (hv2.below B0).cells
  have hG := Lib.hid (fun (h : holdsF g [a, b] = true) => (good_of (holds_two h).1).1)
  replace hw1 := Lib.hid hw1
  have hB0 := Lib.hid B0
  generalize ckPathC g a b l = R at *
  generalize holdsF g [a, b] = ho at *
  obtain ⟨N, hN⟩ : ∃ N, Hid (N = l.length) := ⟨_, rfl⟩
  rw [← hN.out] at hR hm ⊢
  have hWs := Lib.hid (fun (k : Nat) (hk : k < l.length) c (h : walkF g.es a (l.take k) = some c) => (show walkF g.es a (l.take (k + 1)) = (if (stepF g.es c l[k]).2 = true then some (stepF g.es c l[k]).1 else none) by
    rw [List.take_succ_eq_append_getElem hk, walk_snoc, h]; rfl))
  have hWn := Lib.hid (fun (k : Nat) (h : walkF g.es a (l.take k) = none) => (show walkF g.es a l = none by
    have := walk_stop (l.take k) (l.drop k) a h
    rwa [List.take_append_drop] at this))
  have hWe : Hid (walkF g.es a (l.take N) = walkF g.es a l) := by show _ = _; rw [List.take_of_length_le (by rw [hN.out]; exact Nat.le_refl _)]
  obtain ⟨n2, hn2⟩ : ∃ N, Hid (N = g.es.length) := ⟨_, rfl⟩
  rw [← hn2.out] at hw1 g1 hG1 hHo hFi hes
  rw [← hn2.out]
  generalize g.vs.length = n1 at *
  generalize g.ds.length = n3 at *
  clear hs1 B0 gb hv hl hv2
  cases ho with
  | false =>
    have hR2 : Hid (R = false) := by show _ = _; rw [hR.out]; simp
    clear hR
    go_enter Try.func28, Try.ntmps28
    go_upto_region 1 with (fail)
    rw [← hw1.out]
    go_wp2_with fail
    refine hHo.out.mono ?_
    rintro e w2 ⟨rfl, b2⟩
    have B2 := Lib.hid (hB0.out.trans (b2.mono hB0.out.size))
    clear b2 hHo g0 g1 g2
    go_wp2_with fail
    go_ret
    exact ⟨ret_bool hR2.out.symm, B2.out⟩
  | true =>
  replace hG := Lib.hid (hG.out rfl)
  by_cases hlong : (40 : Int) < (N : Int)
  · have t1 : decide ((N : Int) > 40) = true := decide_eq_true hlong
    have t2 : decide ((40 : Int) < (N : Int)) = true := decide_eq_true hlong
    have t3 : decide (40 < N) = true := by rw [decide_eq_true_iff]; omega
    have hF : Hid (R = false) := by
      show _ = _
      rw [hR.out, decide_eq_false (by omega)]; rfl
    clear hlong hR
    go_enter Try.func28, Try.ntmps28
    go_upto_region 1 with (fail)
    rw [← hw1.out]
    go_wp2_with fail
    refine hHo.out.mono ?_
    rintro e w2 ⟨rfl, b2⟩
    have B2 := Lib.hid (hB0.out.trans (b2.mono hB0.out.size))
    clear b2 hHo g0 g1 g2
    go_wp2_with fail
    go_ret
    exact ⟨ret_bool hF.out.symm, B2.out⟩
  · have t1 : decide ((N : Int) > 40) = false := decide_eq_false hlong
    have t2 : decide ((40 : Int) < (N : Int)) = false := decide_eq_false hlong
    have t3 : decide (40 < N) = false := by rw [decide_eq_false_iff_not]; omega
    have hR3 : Hid (R = decide (walkF g.es a l = some b)) := by
      show _ = _
      rw [hR.out, decide_eq_true (by omega)]; rfl
    have hN40 : N ≤ 40 := by omega
    clear hlong hR
    go_enter Try.func28, Try.ntmps28
    go_upto_region 1 with (fail)
    rw [← hw1.out]
    go_wp2_with fail
    refine hHo.out.mono ?_
    rintro e w2 ⟨rfl, b2⟩
    have B2 := Lib.hid b2
    clear b2 hHo g0 g1 g2
    go_wp2_with fail
    clear t1 t2 t3
    go_loopg [9, 10] N (fun n cv iv wr => ∃ k : Nat, ∃ c, k + n = N ∧ iv = .int .i64 k ∧ cv = .int .i64 c ∧ walkF g.es a (l.take k) = some c ∧ Below w1.heap.size w1 wr)
    case atStart => exact ⟨0, a, by omega, rfl, rfl, rfl, B2.out⟩
    case round =>
      obtain ⟨k, c, hk, rfl, rfl, hW, B⟩ := hrel
      obtain ⟨wo, rfl⟩ : ∃ x, x = wr := ⟨_, rfl⟩
      cases gk with
      | zero =>
        have hk2 : k = N := by omega
        have i1 : ¬ (k : Int) < (N : Int) := by omega
        rw [hk2, hWe.out] at hW
        have hfin : Hid (R = decide (c = b)) := by show _ = _; rw [hR3.out, hW]; simp
        have hB := Lib.hid (hB0.out.trans (B.mono hB0.out.size))
        clear hk2 hk hW B
        go_wp2_with fail
        go_ret
        refine ⟨ret_bool ?_, hB.out⟩
        rw [hfin.out, Bool.eq_iff_iff]; simp
      | succ ga =>
        have hlt : k < N := by omega
        have hkl : k < l.length := by rw [← hN.out]; exact hlt
        obtain ⟨bv, ov, rfl, cv⟩ := cellD.out k hkl
        have i0 : (0 : Int) ≤ (k : Int) := by omega
        have i1 : (k : Int) < (N : Int) := by omega
        have hle : Hid (k + 1 + ga = N) := by show _ = _; omega
        have hws := Lib.hid (hWs.out k hkl c hW)
        generalize l[k] = x at *
        have fX := Lib.hid (fun W (q : Below w1.heap.size w1 W) => (show (W.cell? ⟨w.heap.size, 0, none⟩ = _ ∧ W.cell? ⟨w.heap.size, 1, none⟩ = _ ∧ W.cell? ⟨w.heap.size, 2, none⟩ = _) ∧ W.cell? ⟨bv, ov + k, none⟩ = some (.int .i64 x) from ⟨hG1.out W q, cv W q⟩))
        have hB := Lib.hid B
        have hk40 : (k : Int) ≤ 40 := by omega
        clear cv hW hk hlt hkl
        go_upto_region 7 with (fail)
        refine q_region (fun W => Below w1.heap.size w1 W) (by kernel_rfl) (by kernel_rfl) (hB.out.drew) ?_
        repeat (first | (refine q_skip (by rfl) ?_; try simp only [Act.put, zT, z0, zS]) | (refine q_take (v := ?_) (by rfl) ?_ ?_; rotate_left; (first | ((intro w h; clear h; go_simp) <;> with_reducible rfl) | ((intro w h; obtain ⟨⟨y0, y1, y2⟩, x0⟩ := fX.out w h; clear h; go_simp) <;> with_reducible rfl)); try simp only [Act.put, zT, z0, zS]))
        refine q_call (v := _) Try.f57 (by rfl) rfl Try.func57 (by kernel_rfl) (by kernel_rfl) #[.agg #[.slice a1 n1 a2, .slice b1 n2 b2, .slice c1v n3 c2], .int .i64 x] (by simp [Act.eval]) (fun w h => (hFi.out x w h).mono fun e w' ⟨he, hb⟩ => ⟨he, h.trans (hb.mono h.size)⟩) ?_; try simp only [Act.put, zT, z0, zS]
        repeat (first | (refine q_skip (by rfl) ?_; try simp only [Act.put, zT, z0, zS]) | (refine q_take (v := ?_) (by rfl) ?_ ?_; rotate_left; (first | ((intro w h; clear h; go_simp) <;> with_reducible rfl)); try simp only [Act.put, zT, z0, zS]))
        refine q_nil ?_
        intro w3 k3
        replace k3 := Lib.hid k3
        by_cases hx : x ∈ keysE g.es
        · obtain ⟨i, hi, hpi, hei⟩ := plI_ex hx
          have hil : i < g.es.length := by simpa [keysE] using hi
          have hst := step_at hG.out (a := c) (x := x) i hil (by rw [← hei]; simp [keysE])
          rw [hpi]
          obtain ⟨eb, eo, rfl, ce⟩ := cE.out i hil
          have q0 : (0 : Int) ≤ (i : Int) := by omega
          have q1 : (i : Int) < (n2 : Int) := by have := hn2.out; omega
          have q2 : ¬ (i : Int) < 0 := by omega
          generalize g.es[i] = u at *
          have fY := Lib.hid (fun W (q : Below w1.heap.size w1 W) => (show (W.cell? ⟨w.heap.size, 0, none⟩ = _ ∧ W.cell? ⟨w.heap.size, 1, none⟩ = _ ∧ W.cell? ⟨w.heap.size, 2, none⟩ = _) ∧ EdAt W eb (eo + i * 6) u from ⟨hG1.out W q, ce W q⟩))
          unfold EdAt at fY
          have hOu := Lib.hid (OtherR_any u c)
          unfold Ed.val at hOu
          generalize otherI u c = o at *
          clear hx hi hpi hei hil ce
          by_cases h0 : o < 0
          · have hs2 := hst.1 h0
            have hfin : Hid (R = false) := by
              show _ = _
              rw [hR3.out, hWn.out (k + 1) (by rw [hws.out, hs2]; rfl)]; simp
            clear hst hs2 hws
            obtain ⟨⟨y0, y1, y2⟩, z0, z1, z2, z3, z4, z5⟩ := fY.out w3 k3.out
            go_wp2_with fail
            refine (hOu.out _).mono ?_
            rintro e w4 ⟨rfl, b4⟩
            have hB4 := Lib.hid (hB0.out.trans ((k3.out.trans (b4.mono k3.out.size)).mono hB0.out.size))
            clear b4 y0 y1 y2 z0 z1 z2 z3 z4 z5
            go_wp2_with fail
            go_ret
            exact ⟨ret_bool hfin.out.symm, hB4.out⟩
          · have h1 : 0 ≤ o := by omega
            have hs2 := hst.2 h1
            have hnx : Hid (walkF g.es a (l.take (k + 1)) = some o) := by show _ = _; rw [hws.out, hs2]; rfl
            clear hst hs2 hws h1
            obtain ⟨⟨y0, y1, y2⟩, z0, z1, z2, z3, z4, z5⟩ := fY.out w3 k3.out
            go_wp2_with fail
            refine (hOu.out _).mono ?_
            rintro e w4 ⟨rfl, b4⟩
            have hB4 := Lib.hid (k3.out.trans (b4.mono k3.out.size))
            clear b4 y0 y1 y2 z0 z1 z2 z3 z4 z5
            obtain ⟨⟨y0, y1, y2⟩, z0, z1, z2, z3, z4, z5⟩ := fY.out w4 hB4.out
            go_wp2_with fail
            refine (hOu.out _).mono ?_
            rintro e w5 ⟨rfl, b5⟩
            have hB5 := Lib.hid (hB4.out.trans (b5.mono hB4.out.size))
            clear b5 y0 y1 y2 z0 z1 z2 z3 z4 z5
            go_wp2_with fail
            go_roundg ga
            case measure => omega
            case rel => exact ⟨k + 1, o, hle.out, by go_num, rfl, hnx.out, hB5.out⟩
        · have hneg : plI (keysE g.es) x < 0 := (plI_neg (keysE g.es) x).2 hx
          have hs2 : (stepF g.es c x).2 = false := step_no (fun e he h => hx (by rw [← h]; exact List.mem_map.2 ⟨e, he, rfl⟩))
          have hfin : Hid (R = false) := by
            show _ = _
            rw [hR3.out, hWn.out (k + 1) (by rw [hws.out, hs2]; rfl)]; simp
          generalize plI (keysE g.es) x = pk at *
          have hB4 := Lib.hid (hB0.out.trans (k3.out.mono hB0.out.size))
          clear hx hs2 hws
          go_wp2_with fail
          go_ret
          exact ⟨ret_bool hfin.out.symm, hB4.out⟩

end Go.Proofs.Ytlnbobclbaieoaa
