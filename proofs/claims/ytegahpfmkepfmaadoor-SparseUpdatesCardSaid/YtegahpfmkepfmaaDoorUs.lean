/- SparseUpdates: an update of a proved opening, one that changes nothing, and one that is taken back. -/
import Derived.Test.YtegahpfmkepfmaaDoorCp
import Derived.Test.YtegahpfmkepfmaaDoorSom
import Derived.Test.YtegahpfmkepfmaaDoorHel
namespace Go.Proofs.YtegahpfmkepfmaaDoor
open Go.RowKit
/-- append(v, x): the run, and that every other row stays -/
theorem OwnG.snocF {α : Type} {enc : α → List Value} {sz : Nat} {t : TypeId} (henc : ∀ x, (enc x).length = sz) (hone : ∀ x, ∀ u ∈ enc x, u.oneCell' = true) (hsz : 0 < sz) (T ty : TypeId) {i0 : TypeInfo} {z : Value} {bytes : Nat}
    (hT : Tryd.prog.underlying T = some (.slice t)) (hi : Tryd.prog.info? t = some i0) (hz0 : i0.zero = some z) (hz1 : i0.size = sz) (hz2 : i0.bytes = bytes) (hz3 : z.cells.size = sz)
    (W : World) (base : Nat) (v : Value) (l : List α) (x : α) (h : OwnG enc sz t W base v l) (hl : l.length ≤ 1000000000) (hby : bytes ≤ 1000) (hb : base ≤ W.heap.size) :
    ∃ v' w', (∃ a k c, v' = .slice a k c) ∧ (Builtin.append_ #[T, T] ty #[v, .slice (some ⟨W.heap.size, 0, none⟩) 1 1]).run Tryd.prog (W.alloc (.cells (enc x).toArray t)) = .ok v' w' ∧ OwnG enc sz t w' base v' (l ++ [x]) ∧ Below base W w' ∧
      (∀ {β : Type} {enc2 : β → List Value} {sz2 : Nat} {t2 : TypeId} (base2 : Nat) (u : Value) (m : List β), OwnG enc2 sz2 t2 W base2 u m → Dj v u → OwnG enc2 sz2 t2 w' base2 u m ∧ Dj v' u) := by
  have hbb : (l.length + 1) * bytes ≤ 140737488355328 := by
    have : (l.length + 1) * bytes ≤ (l.length + 1) * 1000 := Nat.mul_le_mul_left _ hby
    omega
  obtain ⟨g, cap, w', hr, ho, hg, hat, _⟩ := run_append_lies (P := Tryd.prog) (W.alloc (.cells (enc x).toArray t)) T ty base t i0 z sz bytes hT hi hz0 hz1 hz2 hz3 hsz v l.length (l.flatMap enc) ((show W.ownsRow base t sz v l.length (l.flatMap enc) from h).alloc _) ⟨W.heap.size, 0, none⟩ 1 1 (enc x) (by rw [henc]; omega)
    (World.news_of_block (cs := (enc x).toArray) (t := t) (fr := (0, 0)) (heap_alloc_new W _)) (hone x) (by omega) (by unfold maxLen; omega) hbb (by simp; omega) (W.heap.size + 1) (by simp)
  refine ⟨_, w', ⟨_, _, _, rfl⟩, hr, ?_, ?_, fun {β enc2 sz2 t2} base2 u m hu hd => ⟨?_, ?_⟩⟩
  · unfold OwnG
    rw [List.length_append, List.flatMap_append]
    simpa using ho
  · exact ((Below.refl base W).alloc (by omega) _).grown hg (by simp; omega) (fun k hk => by have := h.base k hk; omega)
  · have hu2 := hu.alloc (.cells (enc x).toArray t)
    unfold OwnG at hu2 ⊢
    refine hu2.kept hg ?_
    cases e : u.ownBlock with
    | none => exact .inl rfl
    | some k => exact .inr (fun e2 => hd k e2.symm e)
  · intro k hk e
    have hk2 : g = k := by simpa [Value.ownBlock] using hk
    subst hk2
    rcases hat with h1 | h1
    · exact hd _ h1 e
    · have := hu.lt _ e; omega
def usL (vals : List Int) : List Str := vals.map fun y => sq (Wr.pk y 3).toNat
theorem usL_len (vals : List Int) : ∀ s ∈ usL vals, List.length s ≤ 65536 := fun s h => by
  obtain ⟨y, _, rfl⟩ := List.mem_map.1 h
  have := sq_len (Wr.pk y 3).toNat; omega
theorem chg_snoc (ks vals : List Int) (n : Nat) (h1 : n < ks.length) (h2 : n < vals.length) : (chgL ks (usL vals)).take (n + 1) = (chgL ks (usL vals)).take n ++ [(ks[n], sq (Wr.pk vals[n] 3).toNat)] := by
  have hl : n < (chgL ks (usL vals)).length := by simp [chgL, usL]; omega
  rw [List.take_succ_eq_append_getElem hl]
  congr 2
  simp [chgL, usL]
theorem back_snoc (L : List Ent) (ks vals : List Int) (n : Nat) (h1 : n < ks.length) (h2 : n < vals.length) : (backL L (chgL ks (usL vals))).take (n + 1) = (backL L (chgL ks (usL vals))).take n ++ [(ks[n], lookE L ks[n])] := by
  unfold backL
  rw [← List.map_take, chg_snoc ks vals n h1 h2, List.map_append, List.map_take]; rfl
theorem put_snoc2 (L : List Ent) (ks vals : List Int) (n : Nat) (h1 : n < ks.length) (h2 : n < vals.length) : putL L ((chgL ks (usL vals)).take (n + 1)) = putE (putL L ((chgL ks (usL vals)).take n)) ks[n] (sq (Wr.pk vals[n] 3).toNat) := by
  rw [chg_snoc ks vals n h1 h2]
  unfold putL
  rw [List.foldl_append]; rfl
theorem chg_full (ks vals : List Int) (n : Nat) (h : ks.length ≤ n ∨ vals.length ≤ n) : (chgL ks (usL vals)).take n = chgL ks (usL vals) :=
  List.take_of_length_le (by simp [chgL, usL]; omega)
theorem back_full (L : List Ent) (ks vals : List Int) (n : Nat) (h : ks.length ≤ n ∨ vals.length ≤ n) : (backL L (chgL ks (usL vals))).take n = backL L (chgL ks (usL vals)) :=
  List.take_of_length_le (by simp [backL, chgL, usL]; omega)
theorem chg_take_len (ks vals : List Int) (n : Nat) : ((chgL ks (usL vals)).take n).length ≤ n := List.length_take_le _ _
theorem chg_take_mp (L : List Ent) (ks vals : List Int) (n : Nat) (hl : Mp L) (hk : ascB (-1) ks = true) : Mp (putL L ((chgL ks (usL vals)).take n)) :=
  putL_len _ L hl (fun e he => by
    have h := zip_in ks (usL vals) e (List.mem_of_mem_take he)
    have hb := ascB_bd ks (-1) (by omega) hk e.1 h.1
    exact ⟨by omega, hb.2, usL_len vals _ h.2⟩)

set_option linter.unusedSimpArgs false in
set_option maxRecDepth 100000 in
set_option maxHeartbeats 8000000 in
theorem Updates_any (v vs vv : Value) (x : List (Int × Int)) (sm vals : List Int) (w : World) (hv : ArgP w v x) (hs : ArgI w vs sm) (hvv : ArgI w vv vals) (hT0 : Tab w) :
    Calls Tryd.prog 8 #[v, vs, vv] w fun e w' => e = .returned (.bool true) ∧ Below w.heap.size w w' := by
  have hT := Lib.hid hT0
  have cSane := Lib.hid (show ∀ W, Below w.heap.size w W → _ from fun W B => sane_any W (hT0.below B))
  have cMade := Lib.hid (show ∀ W, Below w.heap.size w W → _ from fun W B => Made_any v x W ⟨hv.1.below B, hv.2⟩ rfl)
  have cSome := Lib.hid (show ∀ vl L W, Below w.heap.size w W → SE W vl L → Mp L → _ from fun vl L W B h1 h2 => Some_any vl vs L sm W h1 h2 ⟨hs.1.below B, hs.2⟩ rfl)
  have kw := Lib.hid (Below.refl w.heap.size w)
  have fV0 := Lib.hid (fun (k : Nat) (hk : k < vals.length) => SI.at hvv.1 k hk)
  have hvb := Lib.hid hvv.2.2
  have hvn := hvv.2.1
  obtain ⟨v1, NV, v2, rfl, hNV⟩ := hvv.1.shape'
  rw [← hNV.out] at hvn
  clear hv hs hT0 hvv
  go_enter Tryd.func8, Tryd.ntmps8
  go_wp2_with fail
  with_reducible refine (cSane.out _ kw.out).mono ?_
  rintro e w1 ⟨rfl, b⟩
  replace kw := Lib.hid (kw.out.trans (b.mono kw.out.size))
  clear b
  go_wp2_with fail
  with_reducible refine (cMade.out _ kw.out).mono ?_
  rintro e w2 ⟨vl, L, rfl, ol, hmp, hll, b⟩
  replace kw := Lib.hid (kw.out.trans (b.mono kw.out.size))
  clear b
  obtain ⟨l1, l2, hlsh⟩ := (OwnG.SL eE_len ol).shape
  have fL := Lib.hid (fun W (B : Below w2.heap.size w2 W) => (OwnG.SL eE_len ol).below B)
  obtain ⟨nL, hnL⟩ : ∃ n, L.length = n := ⟨_, rfl⟩
  rw [hnL] at hlsh
  subst hlsh
  have hmp := Lib.hid hmp
  rename_i hmpo
  have hlh := Lib.hid hll
  have olh := Lib.hid (fun W (B : Below w2.heap.size w2 W) => ol.below B)
  clear hmpo ol hnL hll
  have kL := Lib.hid (Below.refl w2.heap.size w2)
  obtain ⟨RL, hRL⟩ : ∃ R, Hid (R = rootL L) := ⟨_, rfl⟩
  have cRt := Lib.hid (show ∀ W, Below w.heap.size w W → SE W (.slice l1 nL l2) L → Calls Tryd.prog 13 #[.slice l1 nL l2] W (RootPost RL 0 W) from fun W B' h => by rw [hRL.out]; exact RootC L _ W hmp.out h (hT.out.below B'))
  go_wp2_with fail
  with_reducible refine (cRt.out _ kw.out (fL.out _ kL.out)).mono ?_
  rintro e w3 ⟨rfl, b⟩
  replace kw := Lib.hid (kw.out.trans (b.mono kw.out.size))
  replace kL := Lib.hid (kL.out.trans (b.mono kL.out.size))
  clear b
  go_wp2_with fail
  with_reducible refine (cSome.out _ L _ kw.out (fL.out _ kL.out) hmp.out).mono ?_
  rintro e w4 ⟨vk, ks, rfl, ok, hasc, b⟩
  replace kw := Lib.hid (kw.out.trans (b.mono kw.out.size))
  replace kL := Lib.hid (kL.out.trans (b.mono kL.out.size))
  clear b
  obtain ⟨k1, k2, hksh⟩ := (OwnG.SL eI_len ok).shape
  have fK := Lib.hid (fun W (B : Below w4.heap.size w4 W) => (OwnG.SL eI_len ok).below B)
  obtain ⟨K, hK⟩ : ∃ K, Hid (K = ks.length) := ⟨_, rfl⟩
  rw [← hK.out] at hksh
  subst hksh
  have hasch := Lib.hid hasc
  clear ok hasc
  have kK := Lib.hid (Below.refl w4.heap.size w4)
  obtain ⟨V, hV⟩ : ∃ R, Hid (R = valsL L ks) := ⟨_, rfl⟩
  obtain ⟨P, hP⟩ : ∃ R, Hid (R = pathL L ks) := ⟨_, rfl⟩
  obtain ⟨C, hC⟩ : ∃ R, Hid (R = chgL ks (usL vals)) := ⟨_, rfl⟩
  obtain ⟨D, hD⟩ : ∃ R, Hid (R = backL L (chgL ks (usL vals))) := ⟨_, rfl⟩
  obtain ⟨M, hM⟩ : ∃ R, Hid (R = putL L (chgL ks (usL vals))) := ⟨_, rfl⟩
  obtain ⟨RM, hRM⟩ : ∃ R, Hid (R = rootL M) := ⟨_, rfl⟩
  obtain ⟨V2, hV2⟩ : ∃ R, Hid (R = valsL M ks) := ⟨_, rfl⟩
  obtain ⟨P2, hP2⟩ : ∃ R, Hid (R = pathL M ks) := ⟨_, rfl⟩
  obtain ⟨hmM, u1, u2, u3, u4, u5⟩ := upd_facts L ks (usL vals) hmp.out hasch.out (usL_len vals)
  have uc := chgL_ok ks (usL vals) hasch.out (usL_len vals)
  have ud := backL_ok L ks (usL vals) hmp.out hasch.out
  rw [← hM.out] at hmM u3 u5
  rw [← hD.out] at u2 u4 u5 ud
  rw [← hC.out] at u1 u3 uc
  have cPr := Lib.hid (show ∀ W, Below w.heap.size w W → SE W (.slice l1 nL l2) L → SI W (.slice k1 K k2) ks → Calls Tryd.prog 18 #[.slice l1 nL l2, .slice k1 K k2] W (PP ks V P W) from fun W B' h1 h2 => by rw [hV.out, hP.out]; exact ProveC L _ _ _ W hmp.out hasch.out h1 h2 (hT.out.below B'))
  have cPr2 := Lib.hid (show ∀ vm vk W, Below w.heap.size w W → SE W vm M → SI W vk ks → Calls Tryd.prog 18 #[vm, vk] W (PP ks V2 P2 W) from fun vm vk W B' h1 h2 => by rw [hV2.out, hP2.out]; exact ProveC M _ _ _ W hmM hasch.out h1 h2 (hT.out.below B'))
  have cU1 := Lib.hid (show ∀ vo vc W, Below w.heap.size w W → OpV W vo ks V P → SE W vc C → Calls Tryd.prog 27 #[.string ⟨RL.toArray⟩, vo, vc] W fun e w' => e = .returned (.tuple #[.string ⟨RM.toArray⟩, .bool true]) ∧ Below W.heap.size W w' from fun vo vc W B' h1 h2 => by
    rw [hV.out, hP.out] at h1; rw [hRL.out, hRM.out]; exact UpdC L M ks C vo vc W hmp.out hmM hasch.out uc u1 u3 h1 h2 (hT.out.below B'))
  have cU2 := Lib.hid (show ∀ vo vc W, Below w.heap.size w W → OpV W vo ks V P → SE W vc D → Calls Tryd.prog 27 #[.string ⟨RL.toArray⟩, vo, vc] W fun e w' => e = .returned (.tuple #[.string ⟨RL.toArray⟩, .bool true]) ∧ Below W.heap.size W w' from fun vo vc W B' h1 h2 => by
    rw [hV.out, hP.out] at h1; rw [hRL.out]; exact UpdC L L ks D vo vc W hmp.out hmp.out hasch.out ud u2 u4 h1 h2 (hT.out.below B'))
  have cU3 := Lib.hid (show ∀ vo vc W, Below w.heap.size w W → OpV W vo ks V2 P2 → SE W vc D → Calls Tryd.prog 27 #[.string ⟨RM.toArray⟩, vo, vc] W fun e w' => e = .returned (.tuple #[.string ⟨RL.toArray⟩, .bool true]) ∧ Below W.heap.size W w' from fun vo vc W B' h1 h2 => by
    rw [hV2.out, hP2.out] at h1; rw [hRL.out, hRM.out]; exact UpdC M L ks D vo vc W hmM hmp.out hasch.out ud u2 u5 h1 h2 (hT.out.below B'))
  have cRt2 := Lib.hid (show ∀ vm W, Below w.heap.size w W → SE W vm M → Calls Tryd.prog 13 #[vm] W (RootPost RM 0 W) from fun vm W B' h => by rw [hRM.out]; exact RootC M _ W hmM h (hT.out.below B'))
  have cAt := Lib.hid (show ∀ W key, SE W (.slice l1 nL l2) L → Calls Tryd.prog 29 #[.slice l1 nL l2, .int .i64 key] W fun e w' => e = .returned (.string ⟨(lookE L key).toArray⟩) ∧ W = w' from fun W key h => At_any _ L key W h rfl (by have := hlh.out; omega))
  have hVl : Hid (V.length = K) := by show _ = _; rw [hV.out, hK.out]; simp [valsL, tN]
  have hVl2 : Hid (V2.length = K) := by show _ = _; rw [hV2.out, hK.out]; simp [valsL, tN]
  have hkl := ascB_len ks (-1) (by omega) (by omega) hasch.out
  rw [← hK.out] at hkl
  have b3 : K ≤ 64 := by omega
  have fCs := Lib.hid (fun n h1 h2 => chg_snoc ks vals n h1 h2)
  have fDs := Lib.hid (fun n h1 h2 => back_snoc L ks vals n h1 h2)
  have fMs := Lib.hid (fun n h1 h2 => put_snoc2 L ks vals n h1 h2)
  have fCf := Lib.hid (fun n h => chg_full ks vals n h)
  have fDf := Lib.hid (fun n h => back_full L ks vals n h)
  have fMp := Lib.hid (fun n => chg_take_mp L ks vals n hmp.out hasch.out)
  have hM2 : Hid (M = putL L C) := by show _ = _; rw [hM.out, hC.out]
  rw [← hC.out] at fCs fMs fCf fMp
  rw [← hD.out] at fDs fDf
  have fCl := Lib.hid (show ∀ n, (C.take n).length ≤ n from fun n => List.length_take_le _ _)
  have fDl := Lib.hid (show ∀ n, (D.take n).length ≤ n from fun n => List.length_take_le _ _)
  clear uc ud u1 u2 u3 u4 u5 hmM hkl hRM hV2 hP2 hC hD hM
  go_wp2_with fail
  with_reducible refine (cPr.out _ kw.out (fL.out _ kL.out) (fK.out _ kK.out)).mono ?_
  rintro e w5 ⟨vo, rfl, ho, b⟩
  replace kw := Lib.hid (kw.out.trans (b.mono kw.out.size))
  replace kL := Lib.hid (kL.out.trans (b.mono kL.out.size))
  replace kK := Lib.hid (kK.out.trans (b.mono kK.out.size))
  clear b
  obtain ⟨nP, hnP⟩ : ∃ n, Hid (P.length = n) := ⟨_, rfl⟩
  obtain ⟨p1, p2, p3, p4, p5, p6, rfl⟩ := ho.form K K nP hK.out.symm hVl.out hnP.out
  have hoh := Lib.hid ho
  clear ho
  go_upto_region 6 with (fail)
  obtain ⟨wo, hwo⟩ : ∃ W, W = w5.alloc (.cells #[.slice p1 K p2, .slice p3 K p4, .slice p5 nP p6] 37) := ⟨_, rfl⟩
  rw [← hwo]
  obtain ⟨bb, zz_, hcell⟩ := box_world w5 wo _ _ _ 37 hwo
  have owo := Lib.hid (fun W (B : Below wo.heap.size wo W) => (hoh.out.below bb).below B)
  have cwo := Lib.hid hcell
  have oKs : SI wo (.slice p1 K p2) ks := by
    obtain ⟨a, b, c, e1, e2, _, _⟩ := hoh.out.below bb
    injection e1 with e1
    simp at e1
    obtain ⟨e1, _, _⟩ := e1
    rw [e1]; exact e2
  have fKk := Lib.hid (fun (k : Nat) (hk : k < ks.length) => SI.at oKs k hk)
  have fKo := Lib.hid (fun W (B : Below wo.heap.size wo W) => oKs.below B)
  obtain ⟨bo, hbo⟩ : ∃ bo, w5.heap.size = bo := ⟨_, rfl⟩
  rw [hbo] at cwo ⊢
  clear hcell hwo zz_ hoh hbo oKs
  replace kw := Lib.hid (kw.out.trans (bb.mono kw.out.size))
  replace kL := Lib.hid (kL.out.trans (bb.mono kL.out.size))
  replace kK := Lib.hid (kK.out.trans (bb.mono kK.out.size))
  clear bb
  have ko := Lib.hid (Below.refl wo.heap.size wo)
  have toW := Lib.hid (show ∀ W, Below wo.heap.size wo W → Below w.heap.size w W from fun W B => kw.out.trans (B.mono kw.out.size))
  have fLo := Lib.hid (show ∀ W, Below wo.heap.size wo W → SE W (.slice l1 nL l2) L from fun W B => fL.out W (kL.out.trans (B.mono kL.out.size)))
  have oLo := Lib.hid (olh.out wo kL.out)
  have fVk := Lib.hid (show ∀ (k : Nat) (hk : k < vals.length), ∃ b o c, (Value.slice v1 NV v2) = .slice (some ⟨b, o, none⟩) vals.length c ∧ ∀ W', Below wo.heap.size wo W' → W'.cell? ⟨b, o + k, none⟩ = some (.int .i64 vals[k]) from fun k hk => by
    obtain ⟨b, o, c, e1, e2⟩ := fV0.out k hk
    exact ⟨b, o, c, e1, fun W' B => e2 W' (toW.out W' B)⟩)
  go_wp2_with fail
  go_loopw [12, 13, 14, 15] (fun cv bv mv iv wr => ∃ n : Nat, n ≤ K ∧ iv = .int .i64 n ∧ (∃ x1 x2 x3, cv = .slice x1 x2 x3) ∧ (∃ x1 x2 x3, bv = .slice x1 x2 x3) ∧ (∃ x1 x2 x3, mv = .slice x1 x2 x3) ∧ OE wr wo.heap.size cv (C.take n) ∧ OE wr wo.heap.size bv (D.take n) ∧ Dj cv bv ∧ Dj cv mv ∧ Dj bv mv ∧ (∃ mb, OE wr mb mv (putL L (C.take n))) ∧ Below wo.heap.size wo wr) (fun _ _ _ iv _ => K - (intOf iv).toNat)
  case atStart => exact ⟨0, by omega, rfl, ⟨_, _, _, rfl⟩, ⟨_, _, _, rfl⟩, ⟨_, _, _, rfl⟩, OwnG.nil _ _, OwnG.nil _ _, (fun g h => by cases h), (fun g h => by cases h), (fun g h => by cases h), ⟨_, oLo.out⟩, Below.refl _ _⟩
  case round =>
    obtain ⟨n, hn, rfl, ⟨x1, x2, x3, rfl⟩, ⟨y1, y2, y3, rfl⟩, ⟨z1, z2, z3, rfl⟩, oc, od, hdj, hdm, hem, ⟨mb, om⟩, B⟩ := hrel
    obtain ⟨g0, g1, g2⟩ := cwo.out wr B
    by_cases hlt : n < K
    · by_cases hlv : n < NV
      · have hnk : n < ks.length := by rw [← hK.out]; exact hlt
        have hnv : n < vals.length := by rw [← hNV.out]; exact hlv
        obtain ⟨bk, ok, ck, he, hcell⟩ := fKk.out n hnk
        injection he with he1 he2 he3
        subst he1
        have hck := Lib.hid hcell
        clear hcell he2 he3
        obtain ⟨bv, ov, cv, he, hcell⟩ := fVk.out n hnv
        injection he with he1 he2 he3
        subst he1
        have hcv := hcell wr B
        have hcva := Lib.hid hcell
        clear hcell he2 he3
        have hI := hvb.out vals[n] (List.getElem_mem hnv)
        have q5 := Wr.pk_lo vals[n] 3 (by omega)
        have q6 := Wr.pk_lt vals[n] 3 (by omega)
        have p3 := Lib.hid (fun W => Wr.pick_any vals[n] 3 W hI.1 hI.2 (by omega) (by omega))
        have eC := Lib.hid (fCs.out n hnk hnv)
        have eD := Lib.hid (fDs.out n hnk hnv)
        have eM := Lib.hid (fMs.out n hnk hnv)
        obtain ⟨m, hm⟩ : ∃ m : Nat, Wr.pk vals[n] 3 = (m : Int) := ⟨(Wr.pk vals[n] 3).toNat, by omega⟩
        rw [hm] at p3 q5 q6
        have hmt : (Wr.pk vals[n] 3).toNat = m := by rw [hm]; rfl
        rw [hmt] at eC eM
        have hkb := Lib.hid (ascB_bd ks (-1) (by omega) hasch.out ks[n] (List.getElem_mem hnk))
        clear hm hmt hI
        generalize vals[n] = yv at *
        generalize ks[n] = y at *
        have s1h := sq_at m (by omega)
        have hsl := sq_len m
        generalize sq m = s at *
        have hat := Lib.hid (show ∀ W, Below wo.heap.size wo W → Calls Tryd.prog 29 #[.slice l1 nL l2, .int .i64 y] W fun e w' => e = .returned (.string ⟨(lookE L y).toArray⟩) ∧ W = w' from fun W BW => cAt.out W y (fLo.out W BW))
        generalize lookE L y = u at *
        have i0 : (0 : Int) ≤ (n : Int) := by omega
        have i1 : (n : Int) < (K : Int) := by omega
        have i2 : (n : Int) < (NV : Int) := by omega
        obtain ⟨g3, g4, g5⟩ := cwo.out (wr.alloc (.cells #[.string ⟨#[]⟩, .string ⟨#[113]⟩, .string ⟨#[114, 115]⟩] 9)) (B.alloc B.size _)
        have hcv2 := hcva.out (wr.alloc (.cells #[.string ⟨#[]⟩, .string ⟨#[113]⟩, .string ⟨#[114, 115]⟩] 9)) (B.alloc B.size _)
        have Bs := B.size
        go_wp2_with fail
        with_reducible refine (p3.out _).mono ?_
        rintro e w' ⟨rfl, rfl⟩
        go_upto_region 13 with (fail)
        obtain ⟨wp, hwp⟩ : ∃ W, W = wr.alloc (.cells #[.string ⟨#[]⟩, .string ⟨#[113]⟩, .string ⟨#[114, 115]⟩] 9) := ⟨_, rfl⟩
        rw [← hwp] at g3 g4 g5 hcv2 ⊢
        have Bp : Below wr.heap.size wr wp := by rw [hwp]; exact (Below.refl _ _).alloc (Nat.le_refl _) _
        clear hwp g0 g1 g2 hcv
        have hcl := fCl.out n
        have hdl := fDl.out n
        obtain ⟨j0, hj, hj0, hj1, hj2⟩ := info_parts infoEnt
        have B2 : Below wo.heap.size wo wp := B.trans (Bp.mono Bs)
        have hkc := hck.out wp B2
        obtain ⟨v', wz, ⟨a1, a2, a3, rfl⟩, hr, h1, h4, hfr⟩ := OwnG.snocF eE_len eE_one (by omega) 23 23 Tryd.underlying23 hj hj0 hj1 hj2 rfl wp wo.heap.size _ _ ((y, s) : Ent) (oc.below Bp) (by omega) (by omega) B2.size
        have hr : (Builtin.append_ #[23, 23] 23 #[.slice x1 x2 x3, .slice (some ⟨wp.heap.size, 0, none⟩) 1 1]).run Tryd.prog (wp.alloc (.cells #[.int .i64 y, .string ⟨s.toArray⟩] 46)) = .ok (.slice a1 a2 a3) wz := hr
        have B3 : Below wo.heap.size wo wz := B2.trans h4
        obtain ⟨od3, hdj3⟩ := hfr _ _ _ (od.below Bp) hdj
        obtain ⟨om3, hdm3⟩ := hfr _ _ _ (om.below Bp) hdm
        have Bz : Below wz.heap.size wz wz.drew := (Below.refl _ wz).drew
        obtain ⟨v9, w9, ⟨c1, c2, c3, rfl⟩, hr2, f1, f4, ffr⟩ := OwnG.snocF eE_len eE_one (by omega) 23 23 Tryd.underlying23 hj hj0 hj1 hj2 rfl wz.drew wo.heap.size _ _ ((y, u) : Ent) (od3.below Bz) (by omega) (by omega) B3.size
        have hr2 : (Builtin.append_ #[23, 23] 23 #[.slice y1 y2 y3, .slice (some ⟨wz.heap.size, 0, none⟩) 1 1]).run Tryd.prog (wz.drew.alloc (.cells #[.int .i64 y, .string ⟨u.toArray⟩] 46)) = .ok (.slice c1 c2 c3) w9 := hr2
        obtain ⟨oc9, hdj9⟩ := ffr _ _ _ (h1.below Bz) (fun g a b => hdj3 g b a)
        obtain ⟨om9, hem9⟩ := ffr _ _ _ (om3.below Bz) hem
        have B9 : Below wo.heap.size wo w9 := (B3.drew).trans f4
        have hdm9 : Dj (.slice a1 a2 a3) (.slice z1 z2 z3) := hdm3
        have sK := Lib.hid (show ∀ W, Below wz.heap.size wz W → W.cell? ⟨bo, 0, none⟩ = some (.slice (some ⟨bk, ok, none⟩) K p2) ∧ W.cell? ⟨bk, ok + n, none⟩ = some (.int .i64 y) from fun W BW => ⟨(cwo.out W (B3.trans (BW.mono B3.size))).1, hck.out W (B3.trans (BW.mono B3.size))⟩)
        have sK2 := Lib.hid (show w9.cell? ⟨bo, 0, none⟩ = some (.slice (some ⟨bk, ok, none⟩) K p2) ∧ w9.cell? ⟨bk, ok + n, none⟩ = some (.int .i64 y) from ⟨(cwo.out w9 B9).1, hck.out w9 B9⟩)
        have hpt := Lib.hid (Put_any (.slice z1 z2 z3) (putL L (C.take n)) y s w9 (OwnG.SL eE_len om9) rfl (by have := Mp_len _ (fMp.out n); omega))
        have hend := Lib.hid (show ∀ vm w10, OE w10 w9.heap.size vm (putE (putL L (C.take n)) y s) → Below w9.heap.size w9 w10 → OE w10 wo.heap.size (.slice a1 a2 a3) (C.take (n + 1)) ∧ OE w10 wo.heap.size (.slice c1 c2 c3) (D.take (n + 1)) ∧ Dj (.slice a1 a2 a3) (.slice c1 c2 c3) ∧ Dj (.slice a1 a2 a3) vm ∧ Dj (.slice c1 c2 c3) vm ∧ (∃ mb, OE w10 mb vm (putL L (C.take (n + 1)))) ∧ Below wo.heap.size wo w10 from fun vm w10 o10 b10 =>
          ⟨by rw [eC.out]; exact oc9.below b10, by rw [eD.out]; exact f1.below b10, fun g e1 e2 => hdj9 g e2 e1, fun g e1 e2 => by have := oc9.lt g e1; have := o10.base g e2; omega, fun g e1 e2 => by have := f1.lt g e1; have := o10.base g e2; omega, ⟨_, by rw [eM.out]; exact o10⟩, B9.trans (b10.mono B9.size)⟩)
        have hat2 := Lib.hid (show ∀ W, Below wz.heap.size wz W → Calls Tryd.prog 29 #[.slice l1 nL l2, .int .i64 y] W fun e w' => e = .returned (.string ⟨u.toArray⟩) ∧ W = w' from fun W BW => hat.out W (B3.trans (BW.mono B3.size)))
        have hS0 := Lib.hid (sK.out wz.drew (Below.refl _ wz).drew)
        have B9h := Lib.hid B9
        clear oc od om hdj hdm hem hfr od3 hdj3 om3 hdm3 h1 f1 ffr oc9 om9 hem9 hdj9 hdm9 f4 h4 B9 hat B B2 B3
        go_wp2_with (at_builtin; refine wpList_append_runB rfl (.tmp 66) (.tmp 74) 23 rfl (.slice x1 x2 x3) (.slice (some ⟨wp.heap.size, 0, none⟩) 1 1) rfl rfl _ _ hr ?_)
        refine wp_region_F (fun w' : World => w'.cell? ⟨bo, 0, none⟩ = some (.slice (some ⟨bk, ok, none⟩) K p2) ∧ w'.cell? ⟨bk, ok + n, none⟩ = some (.int .i64 y)) 16 (by kernel_rfl) hS0.out (fun hHeld => ?_)
        refine wpAnyF_take (i := 0) (oi := { dst := some 76, op := Op.move (Operand.tmp 13), type := _, pos := _, after := _, guard := none }) (v := ?_) rfl (by kernel_rfl) (by kernel_rfl) (by kernel_rfl) (by kernel_rfl) (fun _ _ _ h => h) (Or.inl ⟨by rfl, ?_⟩) (by assumption) ?_
        rotate_left
        · ((intro w hSw; (try dsimp only at hSw); go_simp) <;> with_reducible rfl)
        try simp only [Act.put, List.setIfInBounds_toArray, List.set_cons_zero, List.set_cons_succ]
        refine wpAnyF_take (i := 1) (oi := { dst := some 77, op := Op.fieldAddr 37 (Operand.tmp 10) 0, type := _, pos := _, after := _, guard := none }) (v := ?_) rfl (by kernel_rfl) (by kernel_rfl) (by kernel_rfl) (by kernel_rfl) (fun _ _ _ h => h) (Or.inl ⟨by rfl, ?_⟩) (by assumption) ?_
        rotate_left
        · ((intro w hSw; (try dsimp only at hSw); go_simp) <;> with_reducible rfl)
        try simp only [Act.put, List.setIfInBounds_toArray, List.set_cons_zero, List.set_cons_succ]
        refine wpAnyF_take (i := 2) (oi := { dst := some 78, op := Op.load 24 (Operand.tmp 77), type := _, pos := _, after := _, guard := none }) (v := ?_) rfl (by kernel_rfl) (by kernel_rfl) (by kernel_rfl) (by kernel_rfl) (fun _ _ _ h => h) (Or.inl ⟨by rfl, ?_⟩) (by assumption) ?_
        rotate_left
        · ((intro w hSw; (try dsimp only at hSw); go_simp) <;> with_reducible rfl)
        try simp only [Act.put, List.setIfInBounds_toArray, List.set_cons_zero, List.set_cons_succ]
        refine wpAnyF_take (i := 3) (oi := { dst := some 79, op := Op.move (Operand.tmp 15), type := _, pos := _, after := _, guard := none }) (v := ?_) rfl (by kernel_rfl) (by kernel_rfl) (by kernel_rfl) (by kernel_rfl) (fun _ _ _ h => h) (Or.inl ⟨by rfl, ?_⟩) (by assumption) ?_
        rotate_left
        · ((intro w hSw; (try dsimp only at hSw); go_simp) <;> with_reducible rfl)
        try simp only [Act.put, List.setIfInBounds_toArray, List.set_cons_zero, List.set_cons_succ]
        refine wpAnyF_take (i := 4) (oi := { dst := some 80, op := Op.indexAddr 24 (Operand.tmp 78) (Operand.tmp 79), type := _, pos := _, after := _, guard := none }) (v := ?_) rfl (by kernel_rfl) (by kernel_rfl) (by kernel_rfl) (by kernel_rfl) (fun _ _ _ h => h) (Or.inl ⟨by rfl, ?_⟩) (by assumption) ?_
        rotate_left
        · ((intro w hSw; (try dsimp only at hSw); go_simp) <;> with_reducible rfl)
        try simp only [Act.put, List.setIfInBounds_toArray, List.set_cons_zero, List.set_cons_succ]
        refine wpAnyF_take (i := 5) (oi := { dst := some 81, op := Op.load 3 (Operand.tmp 80), type := _, pos := _, after := _, guard := none }) (v := ?_) rfl (by kernel_rfl) (by kernel_rfl) (by kernel_rfl) (by kernel_rfl) (fun _ _ _ h => h) (Or.inl ⟨by rfl, ?_⟩) (by assumption) ?_
        rotate_left
        · ((intro w hSw; (try dsimp only at hSw); go_simp) <;> with_reducible rfl)
        try simp only [Act.put, List.setIfInBounds_toArray, List.set_cons_zero, List.set_cons_succ]
        refine wpAnyF_take (i := 6) (oi := { dst := some 82, op := Op.move (Operand.tmp 7), type := _, pos := _, after := _, guard := none }) (v := ?_) rfl (by kernel_rfl) (by kernel_rfl) (by kernel_rfl) (by kernel_rfl) (fun _ _ _ h => h) (Or.inl ⟨by rfl, ?_⟩) (by assumption) ?_
        rotate_left
        · ((intro w hSw; (try dsimp only at hSw); go_simp) <;> with_reducible rfl)
        try simp only [Act.put, List.setIfInBounds_toArray, List.set_cons_zero, List.set_cons_succ]
        refine wpAnyF_take (i := 7) (oi := { dst := some 83, op := Op.fieldAddr 37 (Operand.tmp 10) 0, type := _, pos := _, after := _, guard := none }) (v := ?_) rfl (by kernel_rfl) (by kernel_rfl) (by kernel_rfl) (by kernel_rfl) (fun _ _ _ h => h) (Or.inl ⟨by rfl, ?_⟩) (by assumption) ?_
        rotate_left
        · ((intro w hSw; (try dsimp only at hSw); go_simp) <;> with_reducible rfl)
        try simp only [Act.put, List.setIfInBounds_toArray, List.set_cons_zero, List.set_cons_succ]
        refine wpAnyF_take (i := 8) (oi := { dst := some 84, op := Op.load 24 (Operand.tmp 83), type := _, pos := _, after := _, guard := none }) (v := ?_) rfl (by kernel_rfl) (by kernel_rfl) (by kernel_rfl) (by kernel_rfl) (fun _ _ _ h => h) (Or.inl ⟨by rfl, ?_⟩) (by assumption) ?_
        rotate_left
        · ((intro w hSw; (try dsimp only at hSw); go_simp) <;> with_reducible rfl)
        try simp only [Act.put, List.setIfInBounds_toArray, List.set_cons_zero, List.set_cons_succ]
        refine wpAnyF_take (i := 9) (oi := { dst := some 85, op := Op.move (Operand.tmp 15), type := _, pos := _, after := _, guard := none }) (v := ?_) rfl (by kernel_rfl) (by kernel_rfl) (by kernel_rfl) (by kernel_rfl) (fun _ _ _ h => h) (Or.inl ⟨by rfl, ?_⟩) (by assumption) ?_
        rotate_left
        · ((intro w hSw; (try dsimp only at hSw); go_simp) <;> with_reducible rfl)
        try simp only [Act.put, List.setIfInBounds_toArray, List.set_cons_zero, List.set_cons_succ]
        refine wpAnyF_take (i := 10) (oi := { dst := some 86, op := Op.indexAddr 24 (Operand.tmp 84) (Operand.tmp 85), type := _, pos := _, after := _, guard := none }) (v := ?_) rfl (by kernel_rfl) (by kernel_rfl) (by kernel_rfl) (by kernel_rfl) (fun _ _ _ h => h) (Or.inl ⟨by rfl, ?_⟩) (by assumption) ?_
        rotate_left
        · ((intro w hSw; (try dsimp only at hSw); go_simp) <;> with_reducible rfl)
        try simp only [Act.put, List.setIfInBounds_toArray, List.set_cons_zero, List.set_cons_succ]
        refine wpAnyF_take (i := 11) (oi := { dst := some 87, op := Op.load 3 (Operand.tmp 86), type := _, pos := _, after := _, guard := none }) (v := ?_) rfl (by kernel_rfl) (by kernel_rfl) (by kernel_rfl) (by kernel_rfl) (fun _ _ _ h => h) (Or.inl ⟨by rfl, ?_⟩) (by assumption) ?_
        rotate_left
        · ((intro w hSw; (try dsimp only at hSw); go_simp) <;> with_reducible rfl)
        try simp only [Act.put, List.setIfInBounds_toArray, List.set_cons_zero, List.set_cons_succ]
        refine wpAnyF_ready (rs := [12]) (by kernel_rfl) (by simp) ?_
        refine AllReadyF.cons (o := { dst := some 88, op := Op.call { callee := Callee.value (Operand.func 29), args := #[(Operand.tmp 82), (Operand.tmp 87)], argTypes := #[23, 3] }, type := _, pos := _, after := _, guard := none }) rfl (fun K hK => ?_) ?_
        · skip
          go_simp
          with_reducible refine (hat2.out wz.drew (Below.refl _ wz).drew).mono ?_
          rintro e W2 ⟨rfl, rfl⟩
          go_wp2_with fail
          refine hK.out _ _ ?_ (fun hHeld => ?_)
          · exact hHeld
          clear hK K
          try simp only [Act.put, List.setIfInBounds_toArray, List.set_cons_zero, List.set_cons_succ]
          refine wpAnyF_take (i := 13) (oi := { dst := some 89, op := Op.build 46 #[(0, (Operand.tmp 81)), (1, (Operand.tmp 88))], type := _, pos := _, after := _, guard := none }) (v := ?_) rfl (by kernel_rfl) (by kernel_rfl) (by kernel_rfl) (by kernel_rfl) (fun _ _ _ h => h) (Or.inl ⟨by rfl, ?_⟩) (by assumption) ?_
          rotate_left
          · ((intro w hSw; (try dsimp only at hSw); go_simp) <;> with_reducible rfl)
          try simp only [Act.put, List.setIfInBounds_toArray, List.set_cons_zero, List.set_cons_succ]
          refine wpAnyF_ready (rs := [14]) (by kernel_rfl) (by simp) ?_
          refine AllReadyF.cons (o := { dst := some 90, op := Op.buildSlice 23 1 #[(0, (Operand.tmp 89))], type := _, pos := _, after := _, guard := none }) rfl (fun K hK => ?_) ?_
          · skip
            go_simp
            go_wp2_with fail
            refine hK.out _ _ ?_ (fun hHeld => ?_)
            · exact sK.out _ ((Below.refl _ wz).drew.alloc (Nat.le_refl _) _)
            clear hK K
            try simp only [Act.put, List.setIfInBounds_toArray, List.set_cons_zero, List.set_cons_succ]
            refine wpAnyF_ready (rs := [15]) (by kernel_rfl) (by simp) ?_
            refine AllReadyF.cons (o := { dst := some 91, op := Op.call { callee := Callee.builtin Builtin.append, args := #[(Operand.tmp 76), (Operand.tmp 90)], argTypes := #[23, 23] }, type := _, pos := _, after := _, guard := none }) rfl (fun K hK => ?_) ?_
            · skip
              refine wp_append_run (.tmp 76) (.tmp 90) 23 rfl (.slice y1 y2 y3) (.slice (some ⟨wz.heap.size, 0, none⟩) 1 1) rfl rfl _ _ hr2 ?_
              refine hK.out _ _ ?_ (fun hHeld => ?_)
              · exact sK2.out
              clear hK K
              try simp only [Act.put, List.setIfInBounds_toArray, List.set_cons_zero, List.set_cons_succ]
              refine wpAnyF_ready (rs := [16]) (by kernel_rfl) (by simp) ?_
              refine AllReadyF.last (o := { dst := some 13, op := Op.assign (Operand.tmp 91), type := _, pos := _, after := _, guard := none }) rfl (fun K hK => ?_) ?_
              · skip
                go_simp
                go_wp2_with fail
                refine hK.out _ _ ?_
                clear hK K
                try simp only [Act.put, List.setIfInBounds_toArray, List.set_cons_zero, List.set_cons_succ]
                refine wpAnyF_done (by kernel_rfl) ?_ _
                obtain ⟨g0, g1, g2⟩ := cwo.out w9 B9h.out
                have hkc := hck.out w9 B9h.out
                go_wp2_with fail
                with_reducible refine (hpt.out).mono ?_
                rintro e w10 ⟨vm, rfl, o10, b10⟩
                obtain ⟨q1, q2, hsh⟩ := (OwnG.SL eE_len o10).shape
                have hend2 := Lib.hid (hend.out _ _ o10 b10)
                obtain ⟨q3, hq3⟩ : ∃ q, (putE (putL L (C.take n)) y s).length = q := ⟨_, rfl⟩
                rw [hq3] at hsh
                subst hsh
                clear hend o10 b10 hq3
                go_wp2_with fail
                go_roundw
                case rel => exact ⟨n + 1, by omega, by go_num, ⟨_, _, _, rfl⟩, ⟨_, _, _, rfl⟩, ⟨_, _, _, rfl⟩, hend2.out⟩
                case measure => simp [intOf]; omega
              exact AllReadyF.nil
            exact AllReadyF.nil
          exact AllReadyF.nil
        exact AllReadyF.nil
      · skip
        have i0 : (0 : Int) ≤ (n : Int) := by omega
        have i1 : (n : Int) < (K : Int) := by omega
        have i2 : ¬ (n : Int) < (NV : Int) := by omega
        rw [fCf.out n (.inr (by rw [← hNV.out]; omega))] at oc om
        rw [fDf.out n (.inr (by rw [← hNV.out]; omega))] at od
        rw [← hM2.out] at om
        have fC := Lib.hid (fun W (B : Below wr.heap.size wr W) => (OwnG.SL eE_len oc).below B)
        have fD := Lib.hid (fun W (B : Below wr.heap.size wr W) => (OwnG.SL eE_len od).below B)
        have fM := Lib.hid (fun W (B : Below wr.heap.size wr W) => (OwnG.SL eE_len om).below B)
        replace kw := Lib.hid (toW.out wr B)
        replace ko := Lib.hid B
        clear oc od om hdj hdm hem B
        have kR := Lib.hid (Below.refl wr.heap.size wr)
        go_wp2_with fail
        with_reducible refine (cU1.out _ _ _ kw.out (owo.out _ ko.out) (fC.out _ kR.out)).mono ?_
        rintro e w20 ⟨rfl, b⟩
        clear g0 g1 g2
        replace kw := Lib.hid (kw.out.trans (b.mono kw.out.size))
        replace kR := Lib.hid (kR.out.trans (b.mono kR.out.size))
        replace ko := Lib.hid (ko.out.trans (b.mono ko.out.size))
        clear b
        go_wp2_with fail
        with_reducible refine (cRt2.out _ _ kw.out (fM.out _ kR.out)).mono ?_
        rintro e w21 ⟨rfl, b⟩
        replace kw := Lib.hid (kw.out.trans (b.mono kw.out.size))
        replace kR := Lib.hid (kR.out.trans (b.mono kR.out.size))
        replace ko := Lib.hid (ko.out.trans (b.mono ko.out.size))
        clear b
        obtain ⟨g0, g1, g2⟩ := cwo.out w21 ko.out
        go_wp2_with fail
        with_reducible refine (cU2.out _ _ _ kw.out (owo.out _ ko.out) (fD.out _ kR.out)).mono ?_
        rintro e w22 ⟨rfl, b⟩
        clear g0 g1 g2
        replace kw := Lib.hid (kw.out.trans (b.mono kw.out.size))
        replace kR := Lib.hid (kR.out.trans (b.mono kR.out.size))
        replace ko := Lib.hid (ko.out.trans (b.mono ko.out.size))
        clear b
        obtain ⟨g0, g1, g2⟩ := cwo.out w22 ko.out
        go_wp2_with fail
        with_reducible refine (cPr2.out _ _ _ kw.out (fM.out _ kR.out) (fKo.out _ ko.out)).mono ?_
        rintro e w23 ⟨vo2, rfl, ho2, b⟩
        clear g0 g1 g2
        replace kw := Lib.hid (kw.out.trans (b.mono kw.out.size))
        replace kR := Lib.hid (kR.out.trans (b.mono kR.out.size))
        replace ko := Lib.hid (ko.out.trans (b.mono ko.out.size))
        clear b
        obtain ⟨nQ, hnQ⟩ : ∃ n, Hid (P2.length = n) := ⟨_, rfl⟩
        obtain ⟨r1, r2, r3, r4, r5, r6, rfl⟩ := ho2.form K K nQ hK.out.symm hVl2.out hnQ.out
        have hoh2 := Lib.hid ho2
        clear ho2
        go_upto_region 20 with (fail)
        obtain ⟨wq, hwq⟩ : ∃ W, W = w23.alloc (.cells #[.slice r1 K r2, .slice r3 K r4, .slice r5 nQ r6] 37) := ⟨_, rfl⟩
        rw [← hwq]
        obtain ⟨bb, zz_, hcell⟩ := box_world w23 wq _ _ _ 37 hwq
        have owq := hoh2.out.below bb
        obtain ⟨g0, g1, g2⟩ := hcell wq (Below.refl _ _)
        clear hcell hwq zz_ hoh2
        replace kw := Lib.hid (kw.out.trans (bb.mono kw.out.size))
        replace kR := Lib.hid (kR.out.trans (bb.mono kR.out.size))
        replace ko := Lib.hid (ko.out.trans (bb.mono ko.out.size))
        clear bb
        go_wp2_with fail
        with_reducible refine (cU3.out _ _ _ kw.out owq (fD.out _ kR.out)).mono ?_
        rintro e w24 ⟨rfl, b⟩
        clear g0 g1 g2 owq
        replace kw := Lib.hid (kw.out.trans (b.mono kw.out.size))
        replace kR := Lib.hid (kR.out.trans (b.mono kR.out.size))
        replace ko := Lib.hid (ko.out.trans (b.mono ko.out.size))
        clear b
        have t1 : (RM == RM) = true := beq_self_eq_true _
        have t2 : (RL == RL) = true := beq_self_eq_true _
        go_wp2_with fail
        go_ret
        exact ⟨rfl, kw.out⟩
    · skip
      have i1 : ¬ (n : Int) < (K : Int) := by omega
      rw [fCf.out n (.inl (by rw [← hK.out]; omega))] at oc om
      rw [fDf.out n (.inl (by rw [← hK.out]; omega))] at od
      rw [← hM2.out] at om
      have fC := Lib.hid (fun W (B : Below wr.heap.size wr W) => (OwnG.SL eE_len oc).below B)
      have fD := Lib.hid (fun W (B : Below wr.heap.size wr W) => (OwnG.SL eE_len od).below B)
      have fM := Lib.hid (fun W (B : Below wr.heap.size wr W) => (OwnG.SL eE_len om).below B)
      replace kw := Lib.hid (toW.out wr B)
      replace ko := Lib.hid B
      clear oc od om hdj hdm hem B
      have kR := Lib.hid (Below.refl wr.heap.size wr)
      go_wp2_with fail
      with_reducible refine (cU1.out _ _ _ kw.out (owo.out _ ko.out) (fC.out _ kR.out)).mono ?_
      rintro e w20 ⟨rfl, b⟩
      clear g0 g1 g2
      replace kw := Lib.hid (kw.out.trans (b.mono kw.out.size))
      replace kR := Lib.hid (kR.out.trans (b.mono kR.out.size))
      replace ko := Lib.hid (ko.out.trans (b.mono ko.out.size))
      clear b
      go_wp2_with fail
      with_reducible refine (cRt2.out _ _ kw.out (fM.out _ kR.out)).mono ?_
      rintro e w21 ⟨rfl, b⟩
      replace kw := Lib.hid (kw.out.trans (b.mono kw.out.size))
      replace kR := Lib.hid (kR.out.trans (b.mono kR.out.size))
      replace ko := Lib.hid (ko.out.trans (b.mono ko.out.size))
      clear b
      obtain ⟨g0, g1, g2⟩ := cwo.out w21 ko.out
      go_wp2_with fail
      with_reducible refine (cU2.out _ _ _ kw.out (owo.out _ ko.out) (fD.out _ kR.out)).mono ?_
      rintro e w22 ⟨rfl, b⟩
      clear g0 g1 g2
      replace kw := Lib.hid (kw.out.trans (b.mono kw.out.size))
      replace kR := Lib.hid (kR.out.trans (b.mono kR.out.size))
      replace ko := Lib.hid (ko.out.trans (b.mono ko.out.size))
      clear b
      obtain ⟨g0, g1, g2⟩ := cwo.out w22 ko.out
      go_wp2_with fail
      with_reducible refine (cPr2.out _ _ _ kw.out (fM.out _ kR.out) (fKo.out _ ko.out)).mono ?_
      rintro e w23 ⟨vo2, rfl, ho2, b⟩
      clear g0 g1 g2
      replace kw := Lib.hid (kw.out.trans (b.mono kw.out.size))
      replace kR := Lib.hid (kR.out.trans (b.mono kR.out.size))
      replace ko := Lib.hid (ko.out.trans (b.mono ko.out.size))
      clear b
      obtain ⟨nQ, hnQ⟩ : ∃ n, Hid (P2.length = n) := ⟨_, rfl⟩
      obtain ⟨r1, r2, r3, r4, r5, r6, rfl⟩ := ho2.form K K nQ hK.out.symm hVl2.out hnQ.out
      have hoh2 := Lib.hid ho2
      clear ho2
      go_upto_region 20 with (fail)
      obtain ⟨wq, hwq⟩ : ∃ W, W = w23.alloc (.cells #[.slice r1 K r2, .slice r3 K r4, .slice r5 nQ r6] 37) := ⟨_, rfl⟩
      rw [← hwq]
      obtain ⟨bb, zz_, hcell⟩ := box_world w23 wq _ _ _ 37 hwq
      have owq := hoh2.out.below bb
      obtain ⟨g0, g1, g2⟩ := hcell wq (Below.refl _ _)
      clear hcell hwq zz_ hoh2
      replace kw := Lib.hid (kw.out.trans (bb.mono kw.out.size))
      replace kR := Lib.hid (kR.out.trans (bb.mono kR.out.size))
      replace ko := Lib.hid (ko.out.trans (bb.mono ko.out.size))
      clear bb
      go_wp2_with fail
      with_reducible refine (cU3.out _ _ _ kw.out owq (fD.out _ kR.out)).mono ?_
      rintro e w24 ⟨rfl, b⟩
      clear g0 g1 g2 owq
      replace kw := Lib.hid (kw.out.trans (b.mono kw.out.size))
      replace kR := Lib.hid (kR.out.trans (b.mono kR.out.size))
      replace ko := Lib.hid (ko.out.trans (b.mono ko.out.size))
      clear b
      have t1 : (RM == RM) = true := beq_self_eq_true _
      have t2 : (RL == RL) = true := beq_self_eq_true _
      go_wp2_with fail
      go_ret
      exact ⟨rfl, kw.out⟩
end Go.Proofs.YtegahpfmkepfmaaDoor
