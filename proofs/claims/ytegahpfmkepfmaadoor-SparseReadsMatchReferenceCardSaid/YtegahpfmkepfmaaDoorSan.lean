/- sane: the chapter's examples. -/
import Derived.Test.YtegahpfmkepfmaaDoorSf
import Derived.Test.YtegahpfmkepfmaaDoorEq
import Derived.Test.YtegahpfmkepfmaaDoorMad
namespace Go.Proofs.YtegahpfmkepfmaaDoor
open Go.RowKit
theorem oneI (W : World) (x : Int) : SI (W.alloc (.cells #[.int .i64 x] 3)) (.slice (some ⟨W.heap.size, 0, none⟩) 1 1) [x] := by
  refine .inr ⟨by simp, W.heap.size, 0, 1, rfl, by simp, by simp, fun j y i u e1 e2 => ?_⟩
  rw [cell_of_row _ _ _ _ _ _ (heap_alloc_new W _)]
  cases j with
  | zero =>
    simp at e1; subst e1
    cases i with
    | zero => simpa [eI] using e2
    | succ i => simp [eI] at e2
  | succ j => simp at e1
theorem oneE (W : World) (e : Ent) : SE (W.alloc (.cells #[.int .i64 e.1, .string ⟨e.2.toArray⟩] 46)) (.slice (some ⟨W.heap.size, 0, none⟩) 1 1) [e] := by
  refine .inr ⟨by simp, W.heap.size, 0, 1, rfl, by simp, by simp, fun j y i u e1 e2 => ?_⟩
  rw [cell_of_row _ _ _ _ _ _ (heap_alloc_new W _)]
  cases j with
  | zero =>
    simp at e1; subst e1
    match i, e2 with
    | 0, e2 => simpa [eE] using e2
    | 1, e2 => simpa [eE] using e2
    | i + 2, e2 => simp [eE] at e2
  | succ j => simp at e1
theorem cat9 (s t : Str) : (({ data := #[9] } : ByteArray) ++ { data := List.toArray s } ++ { data := List.toArray t }) = ⟨(9 :: (s ++ t)).toArray⟩ := by
  apply ByteArray.ext; simp
theorem OpV.form {W : World} {v : Value} {ks : List Int} {vs ps : List Str} (h : OpV W v ks vs ps) (n1 n2 n3 : Nat) (h1 : ks.length = n1) (h2 : vs.length = n2) (h3 : ps.length = n3) : ∃ a1 a2 b1 b2 c1 c2, v = .agg #[.slice a1 n1 a2, .slice b1 n2 b2, .slice c1 n3 c2] := by
  obtain ⟨a, b, c, rfl, ha, hb, hc⟩ := h
  obtain ⟨a1, a2, rfl⟩ := ha.shape
  obtain ⟨b1, b2, rfl⟩ := hb.shape
  obtain ⟨c1, c2, rfl⟩ := hc.shape
  rw [h1, h2, h3]
  exact ⟨_, _, _, _, _, _, rfl⟩
theorem upF_len (k : Nat) : (upF k).length = 32 := by cases k <;> exact sha_len _
theorem ArgE_one (W : World) : Below W.heap.size W (W.alloc (.cells #[.int .i64 5] 3)) := (Below.refl _ _).alloc (Nat.le_refl _) _

theorem bad64 (W : World) : Calls Tryd.prog 13 #[.slice (some ⟨W.heap.size, 0, none⟩) 1 1] (W.alloc (.cells #[.int .i64 64, .string ⟨#[97]⟩] 46)) (RootPost [] 40 (W.alloc (.cells #[.int .i64 64, .string ⟨#[97]⟩] 46))) := by
  have h := oneE W (64, [97])
  dsimp only at h
  generalize W.alloc (.cells #[.int .i64 64, .string ⟨#[97]⟩] 46) = W2 at h ⊢
  generalize (Value.slice (some ⟨W.heap.size, 0, none⟩) 1 1) = v at h ⊢
  exact Root_bad v [(64, [97])] W2 h (by simp) s6
theorem val1 (W : World) : Calls Tryd.prog 15 #[.slice (some ⟨W.heap.size, 0, none⟩) 1 1] (W.alloc (.cells #[.int .i64 1, .string ⟨#[]⟩] 46)) fun e w' => e = .returned (.bool false) ∧ Below (W.alloc (.cells #[.int .i64 1, .string ⟨#[]⟩] 46)).heap.size (W.alloc (.cells #[.int .i64 1, .string ⟨#[]⟩] 46)) w' := by
  have h := oneE W (1, [])
  dsimp only at h
  generalize W.alloc (.cells #[.int .i64 1, .string ⟨#[]⟩] 46) = W2 at h ⊢
  generalize (Value.slice (some ⟨W.heap.size, 0, none⟩) 1 1) = v at h ⊢
  have h2 := Valid_any v [(1, [])] W2 h (by simp)
  rw [s7] at h2
  exact h2
theorem OpV.path {W : World} {a b c : Value} {ks : List Int} {vs ps : List Str} (h : OpV W (.agg #[a, b, c]) ks vs ps) : SS W c ps := by
  obtain ⟨a', b', c', he, _, _, hc⟩ := h
  simp at he
  rw [he.2.2]; exact hc
/-- an opening with these keys, values, path comes back -/
def PP (ks : List Int) (V P : List Str) (w : World) (e : Ending) (w' : World) : Prop := ∃ vo, e = .returned (.tuple #[vo, .int .i64 0]) ∧ OpV w' vo ks V P ∧ Below w.heap.size w w'
def RdNo (w : World) (e : Ending) (w' : World) : Prop := e = .returned (.tuple #[.slice none 0 0, .slice none 0 0, .bool false]) ∧ Below w.heap.size w w'
def RdYes (E : List Ent) (A : List Int) (w : World) (e : Ending) (w' : World) : Prop := ∃ t a, e = .returned (.tuple #[t, a, .bool true]) ∧ SE w' t E ∧ SI w' a A ∧ Below w.heap.size w w'

set_option maxRecDepth 100000 in
set_option maxHeartbeats 4000000 in
theorem sane_any (w : World) (hT : Tab w) : Calls Tryd.prog 10 #[] w fun e w' => e = .returned (.bool true) ∧ Below w.heap.size w w' := by
  obtain ⟨R, hR⟩ : ∃ R, Hid (R = rootL one) := ⟨_, rfl⟩
  obtain ⟨P1, hP1⟩ : ∃ P, Hid (P = pathL [] [5]) := ⟨_, rfl⟩
  obtain ⟨V1, hV1⟩ : ∃ P, Hid (P = valsL [] [5]) := ⟨_, rfl⟩
  obtain ⟨P2, hP2⟩ : ∃ P, Hid (P = pathL one [5]) := ⟨_, rfl⟩
  obtain ⟨V2, hV2⟩ : ∃ P, Hid (P = valsL one [5]) := ⟨_, rfl⟩
  have cR := Lib.hid (show ∀ W, Below w.heap.size w W → Calls Tryd.prog 13 #[.slice none 0 0] W (RootPost zero32 0 W) from fun W B => by rw [← s1]; exact Root_ok (.slice none 0 0) [] W (SLG.nil _ _ _) s4 (hT.below B))
  have cP := Lib.hid (show ∀ W, Below w.heap.size w W → Calls Tryd.prog 18 #[.slice none 0 0, .slice (some ⟨W.heap.size, 0, none⟩) 1 1] (W.alloc (.cells #[.int .i64 5] 3)) (PP [5] V1 P1 (W.alloc (.cells #[.int .i64 5] 3))) from fun W B => by
    rw [hV1.out, hP1.out]; exact Prove_ok _ _ [] [5] _ rfl (SLG.nil _ _ _) (oneI W 5) s4 s8 (hT.below (B.alloc B.size _)))
  have cP2 := Lib.hid (show ∀ W, Below w.heap.size w W → Calls Tryd.prog 18 #[.slice none 0 0, .slice none 0 0] W (PP [] [] [zero32] W) from fun W B => by
    rw [← s11]; exact Prove_ok _ _ [] [] _ rfl (SLG.nil _ _ _) (SLG.nil _ _ _) s4 s9 (hT.below B))
  have hl1 : V1.length = 1 := by rw [hV1.out]; rfl
  have hl2 : P1.length = 6 := by rw [hP1.out]; exact s10
  have hl3 : V2.length = 1 := by rw [hV2.out]; rfl
  have hl4 : P2.length ≤ 64 := by rw [hP2.out]; unfold pathL; rw [List.length_map]; exact clF_size _ 6 1
  have cR1 := Lib.hid (show ∀ vo W, Below w.heap.size w W → OpV W vo [5] V1 P1 → Calls Tryd.prog 23 #[.string ⟨zero32.toArray⟩, vo] W (RdYes [] [5] W) from fun vo W B h =>
    (Read_any zero32 vo [5] V1 P1 W rfl h (by simp) (by omega) (by omega) (hT.below B)).mono fun e w' h => by
      have l1 := s12; have l2 := s15; have l3 := s16
      rw [← hV1.out] at l1 l2 l3
      rw [← hP1.out] at l1
      rcases h with ⟨h, _⟩ | ⟨_, t, a, h1, h2, h3, h4⟩
      · rw [l1] at h; cases h
      · rw [l2] at h2; rw [l3] at h3; exact ⟨t, a, h1, h2, h3, h4⟩)
  have cR2 := Lib.hid (show ∀ vo W, Below w.heap.size w W → OpV W vo [5] V2 P2 → Calls Tryd.prog 23 #[.string ⟨R.toArray⟩, vo] W (RdYes one [] W) from fun vo W B h =>
    (Read_any R vo [5] V2 P2 W rfl h (by simp) (by omega) (by omega) (hT.below B)).mono fun e w' h => by
      have l1 := s13; have l2 := s17; have l3 := s18
      rw [← hV2.out] at l1 l2 l3
      rw [← hP2.out, ← hR.out] at l1
      rcases h with ⟨h, _⟩ | ⟨_, t, a, h1, h2, h3, h4⟩
      · rw [l1] at h; cases h
      · rw [l2] at h2; rw [l3] at h3; exact ⟨t, a, h1, h2, h3, h4⟩)
  have cR3 := Lib.hid (show ∀ vo W, Below w.heap.size w W → OpV W vo [5] V1 P1 → Calls Tryd.prog 23 #[.string ⟨R.toArray⟩, vo] W (RdNo W) from fun vo W B h =>
    (Read_any R vo [5] V1 P1 W rfl h (by simp) (by omega) (by omega) (hT.below B)).mono fun e w' h => by
      have l1 := s14
      rw [← hV1.out, ← hP1.out, ← hR.out] at l1
      rcases h with ⟨_, h1, h2⟩ | ⟨h, _⟩
      · exact ⟨h1, h2⟩
      · rw [l1] at h; cases h)
  have cU := Lib.hid (show ∀ vo vc W, Below w.heap.size w W → OpV W vo [5] V1 P1 → SE W vc one → Calls Tryd.prog 27 #[.string ⟨zero32.toArray⟩, vo, vc] W fun e w' => e = .returned (.tuple #[.string ⟨R.toArray⟩, .bool true]) ∧ Below W.heap.size W w' from fun vo vc W B h hc => by
    have l1 := s19; have l2 := s20
    rw [← hV1.out, ← hP1.out] at l1 l2
    rw [← hR.out] at l2
    have h2 := Update_any zero32 vo vc [5] V1 P1 one W rfl h hc (by simp) (by omega) (by omega) (by simp [one]) (hT.below B)
    unfold UpdPost at h2
    rw [l1, l2] at h2
    exact h2)
  have cRo := Lib.hid (show ∀ vc W, Below w.heap.size w W → SE W vc one → Calls Tryd.prog 13 #[vc] W (RootPost R 0 W) from fun vc W B h => by rw [hR.out]; exact Root_ok vc one W h s5 (hT.below B))
  have cPo := Lib.hid (show ∀ vc W, Below w.heap.size w W → SE W vc one → Calls Tryd.prog 18 #[vc, .slice (some ⟨W.heap.size, 0, none⟩) 1 1] (W.alloc (.cells #[.int .i64 5] 3)) (PP [5] V2 P2 (W.alloc (.cells #[.int .i64 5] 3))) from fun vc W B h => by
    rw [hV2.out, hP2.out]; exact Prove_ok _ _ one [5] _ rfl (h.below (ArgE_one W)) (oneI W 5) s5 s8 (hT.below (B.alloc B.size _)))
  have cB := Lib.hid (show ∀ W : World, Calls Tryd.prog 13 #[.slice (some ⟨W.heap.size, 0, none⟩) 1 1] (W.alloc (.cells #[.int .i64 64, .string ⟨#[97]⟩] 46)) (RootPost [] 40 (W.alloc (.cells #[.int .i64 64, .string ⟨#[97]⟩] 46))) from bad64)
  have cS := Lib.hid (show ∀ (l : Str) W, Below w.heap.size w W → l.length ≤ 1000 → Calls Tryd.prog 35 #[.string ⟨l.toArray⟩] W fun e w' => e = .returned (.string ⟨(sha l).toArray⟩) ∧ Below W.heap.size W w' from fun l W B h => sum_sha l W (by omega) (hT.below B))
  have cV := Lib.hid (show ∀ vc W, SE W vc one → Calls Tryd.prog 15 #[vc] W fun e w' => e = .returned (.bool true) ∧ Below W.heap.size W w' from fun vc W h => by
    have h2 := Valid_any vc one W h (by simp [one])
    rw [s5] at h2
    exact h2)
  have cV2 := Lib.hid (show ∀ W : World, Calls Tryd.prog 15 #[.slice (some ⟨W.heap.size, 0, none⟩) 1 1] (W.alloc (.cells #[.int .i64 1, .string ⟨#[]⟩] 46)) fun e w' => e = .returned (.bool false) ∧ Below (W.alloc (.cells #[.int .i64 1, .string ⟨#[]⟩] 46)).heap.size (W.alloc (.cells #[.int .i64 1, .string ⟨#[]⟩] 46)) w' from val1)
  have cE := Lib.hid (show ∀ va vb W, SE W va one → SE W vb one → Calls Tryd.prog 25 #[va, vb] W fun e w' => e = .returned (.bool true) ∧ Below W.heap.size W w' from fun va vb W h1 h2 => by
    have h := SameEntries_any va vb one one W h1 h2 (by simp [one]) (by simp [one])
    rw [show decide (one = one) = true from by simp] at h
    exact h)
  have hup : Hid (R = upF 6) := by show _ = _; rw [hR.out]; exact s2
  obtain ⟨zz, hzz⟩ : ∃ zz, Hid (zz = zero32) := ⟨_, rfl⟩
  have cZ := Lib.hid (Zero_any w)
  rw [← hzz.out] at cR cP2 cR1 cU cZ
  have hz1 : (zz == zz) = true := beq_self_eq_true _
  have hz2 : (zz != zz) = false := by simp
  have hzl : zz.length = 32 := by rw [hzz.out]; rfl
  have hzl := Lib.hid hzl
  rename_i hzlo
  clear hzlo
  have hR1 : (R == R) = true := beq_self_eq_true _
  have hl1 := Lib.hid hl1
  have hl2 := Lib.hid hl2
  have hl3 := Lib.hid hl3
  rename_i o1 o2 o3
  clear o1 o2 o3 hT hV1 hP1 hV2 hR
  go_enter Tryd.func10, Tryd.ntmps10
  go_wp2_with fail
  with_reducible refine (cZ.out).mono ?_
  rintro e w1 ⟨rfl, B1⟩
  have kw := Lib.hid B1
  clear B1
  go_wp2_with fail
  with_reducible refine (cR.out _ kw.out).mono ?_
  rintro e w2 ⟨rfl, b⟩
  replace kw := Lib.hid (kw.out.trans (b.mono kw.out.size))
  clear b
  go_wp2_with fail
  with_reducible refine (cP.out _ kw.out).mono ?_
  rintro e w3 ⟨vo, rfl, ho, b⟩
  have b0 := (ArgE_one w2)
  replace kw := Lib.hid (kw.out.trans (b0.mono kw.out.size))
  clear b0
  replace kw := Lib.hid (kw.out.trans (b.mono kw.out.size))
  clear b
  obtain ⟨a1, a2, b1, b2, c1, c2, rfl⟩ := ho.form 1 1 6 rfl hl1.out hl2.out
  have hoh := Lib.hid ho
  clear ho
  go_upto_region 4 with (fail)
  obtain ⟨wa, hwa⟩ : ∃ W, W = w3.alloc (.cells #[.slice a1 1 a2, .slice b1 1 b2, .slice c1 6 c2] 37) := ⟨_, rfl⟩
  rw [← hwa]
  obtain ⟨bb, zz_, hcell⟩ := box_world w3 wa _ _ _ 37 hwa
  have owa := Lib.hid (fun W (B : Below wa.heap.size wa W) => (hoh.out.below bb).below B)
  have cwa := Lib.hid hcell
  clear hcell hwa zz_
  replace kw := Lib.hid (kw.out.trans (bb.mono kw.out.size))
  clear bb
  have ka := Lib.hid (Below.refl wa.heap.size wa)
  clear hoh
  go_wp2_with fail
  with_reducible refine (cP2.out _ kw.out).mono ?_
  rintro e w4 ⟨vo, rfl, ho, b⟩
  replace kw := Lib.hid (kw.out.trans (b.mono kw.out.size))
  replace ka := Lib.hid (ka.out.trans (b.mono ka.out.size))
  clear b
  obtain ⟨d1, d2, e1, e2, f1, f2, rfl⟩ := ho.form 0 0 1 rfl rfl rfl
  obtain ⟨fb, fo, fc, he, hf⟩ := SS.at ho.path 0 (by simp)
  injection he with he1 he2 he3
  subst he1
  clear he2 he3
  have hoh := Lib.hid ho
  have hfh := Lib.hid hf
  have k4 := Lib.hid (Below.refl w4.heap.size w4)
  clear ho hf
  go_upto_region 5 with (fail)
  obtain ⟨wb, hwb⟩ : ∃ W, W = w4.alloc (.cells #[.slice d1 0 d2, .slice e1 0 e2, .slice (some ⟨fb, fo, none⟩) 1 f2] 37) := ⟨_, rfl⟩
  rw [← hwb]
  obtain ⟨bb, zz_, hcell⟩ := box_world w4 wb _ _ _ 37 hwb
  have owb := Lib.hid (fun W (B : Below wb.heap.size wb W) => (hoh.out.below bb).below B)
  have cwb := Lib.hid hcell
  clear hcell hwb zz_
  replace kw := Lib.hid (kw.out.trans (bb.mono kw.out.size))
  replace ka := Lib.hid (ka.out.trans (bb.mono ka.out.size))
  replace k4 := Lib.hid (k4.out.trans (bb.mono k4.out.size))
  clear bb
  have kb := Lib.hid (Below.refl wb.heap.size wb)
  clear hoh
  obtain ⟨g0, g1, g2⟩ := cwa.out wb ka.out
  go_wp2_with fail
  with_reducible refine (cR1.out _ _ kw.out (owa.out _ ka.out)).mono ?_
  rintro e w5 ⟨t, av, rfl, ht, hav, b⟩
  clear g0 g1 g2
  replace kw := Lib.hid (kw.out.trans (b.mono kw.out.size))
  replace ka := Lib.hid (ka.out.trans (b.mono ka.out.size))
  replace k4 := Lib.hid (k4.out.trans (b.mono k4.out.size))
  replace kb := Lib.hid (kb.out.trans (b.mono kb.out.size))
  clear b
  obtain ⟨t1, t2, rfl⟩ := ht.shape
  obtain ⟨ab, ao, ac, hq, hab⟩ := SI.at hav 0 (by simp)
  subst hq
  have habh := Lib.hid hab
  have k5 := Lib.hid (Below.refl w5.heap.size w5)
  clear ht hav hab
  have e0 : ([] : List Ent).length = 0 := rfl
  have e1' : ([5] : List Int).length = 1 := rfl
  rw [e0, e1']
  clear e0 e1'
  go_upto_region 7 with (fail)
  have hone := oneE w5 (5, [97])
  have bc : Below w5.heap.size w5 (w5.alloc (.cells #[.int .i64 5, .string ⟨#[97]⟩] 46)) := (Below.refl _ _).alloc (Nat.le_refl _) _
  obtain ⟨wc, hwc⟩ : ∃ W, W = w5.alloc (.cells #[.int .i64 5, .string ⟨#[97]⟩] 46) := ⟨_, rfl⟩
  have hone : SE wc (.slice (some ⟨w5.heap.size, 0, none⟩) 1 1) one := by rw [hwc]; exact hone
  rw [← hwc] at bc ⊢
  clear hwc
  replace kw := Lib.hid (kw.out.trans (bc.mono kw.out.size))
  replace ka := Lib.hid (ka.out.trans (bc.mono ka.out.size))
  replace k4 := Lib.hid (k4.out.trans (bc.mono k4.out.size))
  replace kb := Lib.hid (kb.out.trans (bc.mono kb.out.size))
  replace k5 := Lib.hid (k5.out.trans (bc.mono k5.out.size))
  clear bc
  have kc := Lib.hid (Below.refl wc.heap.size wc)
  have oneF := Lib.hid (fun W (B : Below wc.heap.size wc W) => hone.below B)
  clear hone
  obtain ⟨g0, g1, g2⟩ := cwa.out wc ka.out
  go_wp2_with fail
  with_reducible refine (cU.out _ _ _ kw.out (owa.out _ ka.out) (oneF.out _ kc.out)).mono ?_
  rintro e w7 ⟨rfl, b⟩
  clear g0 g1 g2
  replace kw := Lib.hid (kw.out.trans (b.mono kw.out.size))
  replace ka := Lib.hid (ka.out.trans (b.mono ka.out.size))
  replace k4 := Lib.hid (k4.out.trans (b.mono k4.out.size))
  replace kb := Lib.hid (kb.out.trans (b.mono kb.out.size))
  replace k5 := Lib.hid (k5.out.trans (b.mono k5.out.size))
  replace kc := Lib.hid (kc.out.trans (b.mono kc.out.size))
  clear b
  go_wp2_with fail
  with_reducible refine (cRo.out _ _ kw.out (oneF.out _ kc.out)).mono ?_
  rintro e w8 ⟨rfl, b⟩
  replace kw := Lib.hid (kw.out.trans (b.mono kw.out.size))
  replace ka := Lib.hid (ka.out.trans (b.mono ka.out.size))
  replace k4 := Lib.hid (k4.out.trans (b.mono k4.out.size))
  replace kb := Lib.hid (kb.out.trans (b.mono kb.out.size))
  replace k5 := Lib.hid (k5.out.trans (b.mono k5.out.size))
  replace kc := Lib.hid (kc.out.trans (b.mono kc.out.size))
  clear b
  obtain ⟨g0, g1, g2⟩ := cwa.out w8 ka.out
  obtain ⟨m0, m1, m2⟩ := cwb.out w8 kb.out
  go_wp2_with fail
  with_reducible refine (cPo.out _ _ kw.out (oneF.out _ kc.out)).mono ?_
  rintro e w11 ⟨vo, rfl, ho, b⟩
  clear g0 g1 g2 m0 m1 m2
  have b0 := (ArgE_one w8)
  replace kw := Lib.hid (kw.out.trans (b0.mono kw.out.size))
  replace ka := Lib.hid (ka.out.trans (b0.mono ka.out.size))
  replace k4 := Lib.hid (k4.out.trans (b0.mono k4.out.size))
  replace kb := Lib.hid (kb.out.trans (b0.mono kb.out.size))
  replace k5 := Lib.hid (k5.out.trans (b0.mono k5.out.size))
  replace kc := Lib.hid (kc.out.trans (b0.mono kc.out.size))
  clear b0
  replace kw := Lib.hid (kw.out.trans (b.mono kw.out.size))
  replace ka := Lib.hid (ka.out.trans (b.mono ka.out.size))
  replace k4 := Lib.hid (k4.out.trans (b.mono k4.out.size))
  replace kb := Lib.hid (kb.out.trans (b.mono kb.out.size))
  replace k5 := Lib.hid (k5.out.trans (b.mono k5.out.size))
  replace kc := Lib.hid (kc.out.trans (b.mono kc.out.size))
  clear b
  obtain ⟨np, hnp⟩ : ∃ n, Hid (P2.length = n) := ⟨_, rfl⟩
  obtain ⟨p1, p2, q1, q2, r1, r2, rfl⟩ := ho.form 1 1 np rfl hl3.out hnp.out
  have hoh := Lib.hid ho
  clear ho
  go_upto_region 12 with (fail)
  obtain ⟨wd, hwd⟩ : ∃ W, W = w11.alloc (.cells #[.slice p1 1 p2, .slice q1 1 q2, .slice r1 np r2] 37) := ⟨_, rfl⟩
  rw [← hwd]
  obtain ⟨bb, zz_, hcell⟩ := box_world w11 wd _ _ _ 37 hwd
  have owd := Lib.hid (fun W (B : Below wd.heap.size wd W) => (hoh.out.below bb).below B)
  have cwd := Lib.hid hcell
  clear hcell hwd zz_
  replace kw := Lib.hid (kw.out.trans (bb.mono kw.out.size))
  replace ka := Lib.hid (ka.out.trans (bb.mono ka.out.size))
  replace k4 := Lib.hid (k4.out.trans (bb.mono k4.out.size))
  replace kb := Lib.hid (kb.out.trans (bb.mono kb.out.size))
  replace k5 := Lib.hid (k5.out.trans (bb.mono k5.out.size))
  replace kc := Lib.hid (kc.out.trans (bb.mono kc.out.size))
  clear bb
  have kd := Lib.hid (Below.refl wd.heap.size wd)
  clear hoh
  obtain ⟨g0, g1, g2⟩ := cwd.out wd kd.out
  go_wp2_with fail
  with_reducible refine (cR2.out _ _ kw.out (owd.out _ kd.out)).mono ?_
  rintro e w12 ⟨t, av, rfl, ht, hav, b⟩
  clear g0 g1 g2
  replace kw := Lib.hid (kw.out.trans (b.mono kw.out.size))
  replace ka := Lib.hid (ka.out.trans (b.mono ka.out.size))
  replace k4 := Lib.hid (k4.out.trans (b.mono k4.out.size))
  replace kb := Lib.hid (kb.out.trans (b.mono kb.out.size))
  replace k5 := Lib.hid (k5.out.trans (b.mono k5.out.size))
  replace kc := Lib.hid (kc.out.trans (b.mono kc.out.size))
  replace kd := Lib.hid (kd.out.trans (b.mono kd.out.size))
  clear b
  obtain ⟨u1, u2, rfl⟩ := ht.shape
  obtain ⟨v1, v2, rfl⟩ := hav.shape
  have oneG := Lib.hid (fun W (B : Below w12.heap.size w12 W) => ht.below B)
  have k12 := Lib.hid (Below.refl w12.heap.size w12)
  clear ht hav
  obtain ⟨g0, g1, g2⟩ := cwa.out w12 ka.out
  go_wp2_with fail
  with_reducible refine (cR3.out _ _ kw.out (owa.out _ ka.out)).mono ?_
  rintro e w13 ⟨rfl, b⟩
  clear g0 g1 g2
  replace kw := Lib.hid (kw.out.trans (b.mono kw.out.size))
  replace ka := Lib.hid (ka.out.trans (b.mono ka.out.size))
  replace k4 := Lib.hid (k4.out.trans (b.mono k4.out.size))
  replace kb := Lib.hid (kb.out.trans (b.mono kb.out.size))
  replace k5 := Lib.hid (k5.out.trans (b.mono k5.out.size))
  replace kc := Lib.hid (kc.out.trans (b.mono kc.out.size))
  replace kd := Lib.hid (kd.out.trans (b.mono kd.out.size))
  replace k12 := Lib.hid (k12.out.trans (b.mono k12.out.size))
  clear b
  go_wp2_with fail
  with_reducible refine (cB.out w13).mono ?_
  rintro e w14 ⟨rfl, b⟩
  have b0 : Below w13.heap.size w13 (w13.alloc (.cells #[.int .i64 64, .string ⟨#[97]⟩] 46)) := (Below.refl _ _).alloc (Nat.le_refl _) _
  replace kw := Lib.hid (kw.out.trans (b0.mono kw.out.size))
  replace ka := Lib.hid (ka.out.trans (b0.mono ka.out.size))
  replace k4 := Lib.hid (k4.out.trans (b0.mono k4.out.size))
  replace kb := Lib.hid (kb.out.trans (b0.mono kb.out.size))
  replace k5 := Lib.hid (k5.out.trans (b0.mono k5.out.size))
  replace kc := Lib.hid (kc.out.trans (b0.mono kc.out.size))
  replace kd := Lib.hid (kd.out.trans (b0.mono kd.out.size))
  replace k12 := Lib.hid (k12.out.trans (b0.mono k12.out.size))
  clear b0
  replace kw := Lib.hid (kw.out.trans (b.mono kw.out.size))
  replace ka := Lib.hid (ka.out.trans (b.mono ka.out.size))
  replace k4 := Lib.hid (k4.out.trans (b.mono k4.out.size))
  replace kb := Lib.hid (kb.out.trans (b.mono kb.out.size))
  replace k5 := Lib.hid (k5.out.trans (b.mono k5.out.size))
  replace kc := Lib.hid (kc.out.trans (b.mono kc.out.size))
  replace kd := Lib.hid (kd.out.trans (b.mono kd.out.size))
  replace k12 := Lib.hid (k12.out.trans (b.mono k12.out.size))
  clear b
  go_wp2_with fail
  with_reducible refine (cS.out [8, 10, 97] _ kw.out (by simp)).mono ?_
  rintro e w15 ⟨rfl, b⟩
  replace kw := Lib.hid (kw.out.trans (b.mono kw.out.size))
  replace ka := Lib.hid (ka.out.trans (b.mono ka.out.size))
  replace k4 := Lib.hid (k4.out.trans (b.mono k4.out.size))
  replace kb := Lib.hid (kb.out.trans (b.mono kb.out.size))
  replace k5 := Lib.hid (k5.out.trans (b.mono k5.out.size))
  replace kc := Lib.hid (kc.out.trans (b.mono kc.out.size))
  replace kd := Lib.hid (kd.out.trans (b.mono kd.out.size))
  replace k12 := Lib.hid (k12.out.trans (b.mono k12.out.size))
  clear b
  have hu0 : sha [8, 10, 97] = upF 0 := rfl
  rw [hu0]
  clear hu0
  go_wp2_with fail
  go_loopw [26, 27] (fun lv kv wr => ∃ k : Nat, k ≤ 6 ∧ kv = .int .i64 k ∧ lv = .string ⟨(upF k).toArray⟩ ∧ Below w15.heap.size w15 wr) (fun _ kv _ => 6 - (intOf kv).toNat)
  case atStart => exact ⟨0, by omega, rfl, rfl, Below.refl _ _⟩
  case round =>
    obtain ⟨k, hk, rfl, rfl, B⟩ := hrel
    have kr := Lib.hid (kw.out.trans (B.mono kw.out.size))
    by_cases hlt : k < 6
    · have e : (5 : Int) / 2 ^ k = ((5 / 2 ^ k : Nat) : Int) := by rw [Int.natCast_ediv, Int.natCast_pow]; rfl
      have hul := upF_len k
      have hun : Hid (upF (k + 1) = sha (9 :: (if 5 / 2 ^ k % 2 = 1 then zz ++ upF k else upF k ++ zz))) := by show _ = _; rw [hzz.out]; rfl
      have hq5 : 5 / 2 ^ k ≤ 5 := Nat.div_le_self _ _
      generalize 5 / 2 ^ k = q at *
      generalize upF k = l at *
      have i0 : (0 : Int) ≤ (k : Int) := by omega
      have i1 : (k : Int) < 6 := by omega
      have i2 : (0 : Int) ≤ (q : Int) := by omega
      have i3 : (q : Int) ≤ 5 := by omega
      have hcat1 := Lib.hid (cat9 l zz)
      have hl1' : l.length ≤ 1000 := by omega
      have hz1' : zz.length ≤ 1000 := by rw [hzl.out]; omega
      have hcat2 := Lib.hid (cat9 zz l)
      by_cases hb : q % 2 = 1
      · have t1 : ((q : Int) % 2 == 1) = true := by rw [beq_iff_eq]; omega
        have hc := Lib.hid (cS.out (9 :: (zz ++ l)) wr kr.out (by have := hzl.out; simp; omega))
        have hun2 : Hid (upF (k + 1) = sha (9 :: (zz ++ l))) := by show _ = _; rw [hun.out, if_pos hb]
        have Bh := Lib.hid B
        clear hun hb hul hq5 B
        go_wp2_with fail
        rw [hcat2.out]
        with_reducible refine hc.out.mono ?_
        rintro e W ⟨rfl, b⟩
        have hb2 := Lib.hid b
        clear b
        go_wp2_with fail
        go_roundw
        case rel => exact ⟨k + 1, by omega, by go_num, by rw [hun2.out], Bh.out.trans (hb2.out.mono Bh.out.size)⟩
        case measure => simp [intOf]; omega
      · have t1 : ((q : Int) % 2 == 1) = false := by rw [beq_eq_false_iff_ne]; omega
        have hc := Lib.hid (cS.out (9 :: (l ++ zz)) wr kr.out (by have := hzl.out; simp; omega))
        have hun2 : Hid (upF (k + 1) = sha (9 :: (l ++ zz))) := by show _ = _; rw [hun.out, if_neg hb]
        have Bh := Lib.hid B
        clear hun hb hul hq5 B
        go_wp2_with fail
        rw [hcat1.out]
        with_reducible refine hc.out.mono ?_
        rintro e W ⟨rfl, b⟩
        have hb2 := Lib.hid b
        clear b
        go_wp2_with fail
        go_roundw
        case rel => exact ⟨k + 1, by omega, by go_num, by rw [hun2.out], Bh.out.trans (hb2.out.mono Bh.out.size)⟩
        case measure => simp [intOf]; omega
    · have hk6 : k = 6 := by omega
      subst hk6
      rw [← hup.out]
      have i1 : ¬ ((6 : Nat) : Int) < 6 := by omega
      replace ka := Lib.hid (ka.out.trans (B.mono ka.out.size))
      replace k4 := Lib.hid (k4.out.trans (B.mono k4.out.size))
      replace kb := Lib.hid (kb.out.trans (B.mono kb.out.size))
      replace k5 := Lib.hid (k5.out.trans (B.mono k5.out.size))
      replace kc := Lib.hid (kc.out.trans (B.mono kc.out.size))
      replace k12 := Lib.hid (k12.out.trans (B.mono k12.out.size))
      clear B kw
      obtain ⟨m0, m1, m2⟩ := cwb.out wr kb.out
      have hf0 := hfh.out wr k4.out
      have ha0 := habh.out wr k5.out
      simp only [List.getElem_cons_zero, Nat.add_zero] at hf0 ha0
      go_wp2_with fail
      with_reducible refine (cE.out _ _ _ (oneG.out _ k12.out) (oneF.out _ kc.out)).mono ?_
      rintro e w16 ⟨rfl, b⟩
      replace kr := Lib.hid (kr.out.trans (b.mono kr.out.size))
      replace k4 := Lib.hid (k4.out.trans (b.mono k4.out.size))
      replace kb := Lib.hid (kb.out.trans (b.mono kb.out.size))
      replace k5 := Lib.hid (k5.out.trans (b.mono k5.out.size))
      replace kc := Lib.hid (kc.out.trans (b.mono kc.out.size))
      clear b m0 m1 m2 hf0 ha0
      obtain ⟨m0, m1, m2⟩ := cwb.out w16 kb.out
      have hf0 := hfh.out w16 k4.out
      have ha0 := habh.out w16 k5.out
      simp only [List.getElem_cons_zero, Nat.add_zero] at hf0 ha0
      go_wp2_with fail
      with_reducible refine (cV.out _ _ (oneF.out _ kc.out)).mono ?_
      rintro e w17 ⟨rfl, b⟩
      replace kr := Lib.hid (kr.out.trans (b.mono kr.out.size))
      clear b m0 m1 m2 hf0 ha0
      go_wp2_with fail
      with_reducible refine (cV2.out w17).mono ?_
      rintro e w18 ⟨rfl, b⟩
      have b0 : Below w17.heap.size w17 (w17.alloc (.cells #[.int .i64 1, .string ⟨#[]⟩] 46)) := (Below.refl _ _).alloc (Nat.le_refl _) _
      replace kr := Lib.hid (kr.out.trans (b0.mono kr.out.size))
      replace kr := Lib.hid (kr.out.trans (b.mono kr.out.size))
      clear b b0
      go_wp2_with fail
      go_ret
      exact ⟨rfl, kr.out⟩
end Go.Proofs.YtegahpfmkepfmaaDoor
