/- What Root and Prove return, of the program and the reference; openings that are the same; a row cut to its first elements. SparseMatchesReference: Valid, Root and Prove agree with the reference. -/
import Derived.Test.YtegahpfmkepfmaaDoorRK
import Derived.Test.YtegahpfmkepfmaaDoorPX
import Derived.Test.YtegahpfmkepfmaaDoorCp
import Derived.BigQuiet
namespace Go.Proofs.YtegahpfmkepfmaaDoor
open Go.RowKit
theorem SLG.take {α : Type} {enc : α → List Value} {sz : Nat} {W : World} {a : Option Addr} {N c m : Nat} {l : List α} (h : SLG enc sz W (.slice a N c) l) (hm : m ≤ l.length) : SLG enc sz W (.slice a m c) (l.take m) := by
  by_cases h0 : m = 0
  · subst h0; exact .inl ⟨rfl, _, _, rfl⟩
  · rcases h with ⟨rfl, _⟩ | ⟨h1, b, o, c', e, hle, hb, hL⟩
    · simp at hm; omega
    · injection e with e1 e2 e3
      subst e1 e3
      have hl : (l.take m).length = m := by rw [List.length_take]; omega
      refine .inr ⟨fun e => by rw [e] at hl; simp at hl; omega, b, o, c, by rw [hl], by rw [hl]; omega, hb, fun j x i u e1 e2 => ?_⟩
      have hj : j < m := by have := (List.getElem?_eq_some_iff.1 e1).1; omega
      rw [List.getElem?_take_of_lt hj] at e1
      exact hL j x i u e1 e2
def rtS (l : List Ent) : Str := if mapB l = true then rootL l else []
def rtC (l : List Ent) : Int := if mapB l = true then 0 else 40
theorem RootA (v : Value) (l : List Ent) (w : World) (hv : SE w v l) (hn : l.length ≤ 100000) (hT : Tab w) : Calls Tryd.prog 13 #[v] w (RootPost (rtS l) (rtC l) w) := by
  unfold rtS rtC
  by_cases h : mapB l = true
  · rw [if_pos h, if_pos h]; exact Root_ok v l w hv h hT
  · rw [if_neg h, if_neg h]; exact Root_bad v l w hv (by omega) (by simpa using h)
theorem RootRA (v : Value) (l : List Ent) (w : World) (hv : SE w v l) (hn : l.length ≤ 100000) (hI : ∀ e ∈ l, I64 e.1) : Calls Tryd.prog 14 #[v] w (RootPost (rtS l) (rtC l) w) := by
  unfold rtS rtC
  have := RootR_any v l w hv hn hI
  by_cases h : mapB l = true
  · rw [if_pos h, if_pos h]; rwa [if_pos h] at this
  · rw [if_neg h, if_neg h]; rwa [if_neg h] at this
def pvB (l : List Ent) (ks : List Int) : Bool := mapB l && ascB (-1) ks
def pvC (l : List Ent) (ks : List Int) : Int := if pvB l ks = true then 0 else 40
def pvK (l : List Ent) (ks : List Int) : List Int := if pvB l ks = true then ks else []
def pvV (l : List Ent) (ks : List Int) : List Str := if pvB l ks = true then valsL l ks else []
def pvP (l : List Ent) (ks : List Int) : List Str := if pvB l ks = true then pathL l ks else []
def PvA (l : List Ent) (ks : List Int) (w : World) (e : Ending) (w' : World) : Prop := ∃ vo, e = .returned (.tuple #[vo, .int .i64 (pvC l ks)]) ∧ OpV w' vo (pvK l ks) (pvV l ks) (pvP l ks) ∧ Below w.heap.size w w'
theorem PvA.ok {l : List Ent} {ks : List Int} {w : World} (h : pvB l ks = true) {e : Ending} {w' : World} (p : ProvePost l ks w e w') : PvA l ks w e w' := by
  obtain ⟨vo, h1, h2, h3⟩ := p
  refine ⟨vo, ?_, ?_, h3⟩
  · unfold pvC; rw [if_pos h]; exact h1
  · unfold pvK pvV pvP; rw [if_pos h, if_pos h, if_pos h]; exact h2
theorem PvA.no {l : List Ent} {ks : List Int} {w : World} (h : pvB l ks = false) {e : Ending} {w' : World} (p : ProveNo w e w') : PvA l ks w e w' := by
  obtain ⟨h1, h3⟩ := p
  refine ⟨.agg #[.slice none 0 0, .slice none 0 0, .slice none 0 0], ?_, ?_, h3⟩
  · unfold pvC; rw [h]; exact h1
  · unfold pvK pvV pvP; rw [h]; exact ⟨_, _, _, rfl, SLG.nil _ _ _, SLG.nil _ _ _, SLG.nil _ _ _⟩
theorem ProveA (v vk : Value) (l : List Ent) (ks : List Int) (w : World) (hv : SE w v l) (hvk : SI w vk ks) (hn : l.length ≤ 100000) (hk : ks.length ≤ 100000) (hT : Tab w) : Calls Tryd.prog 18 #[v, vk] w (PvA l ks w) := by
  cases h : pvB l ks with
  | true =>
    have h' := h
    unfold pvB at h'
    rw [Bool.and_eq_true] at h'
    exact (Prove_ok v vk l ks w rfl hv hvk h'.1 h'.2 hT).mono fun _ _ p => PvA.ok h p
  | false => exact (Prove_bad v vk l ks w rfl hv hvk (by omega) (by omega) h).mono fun _ _ p => PvA.no h p
theorem ProveRA (v vk : Value) (l : List Ent) (ks : List Int) (w : World) (hv : SE w v l) (hvk : SI w vk ks) (hn : l.length ≤ 100000) (hk : ks.length ≤ 100000) (hI : ∀ e ∈ l, I64 e.1) (hKI : ∀ x ∈ ks, I64 x) : Calls Tryd.prog 19 #[v, vk] w (PvA l ks w) := by
  cases h : pvB l ks with
  | true =>
    have h' := h
    unfold pvB at h'
    rw [Bool.and_eq_true] at h'
    exact (ProveR_ok v vk l ks w rfl hv hvk h'.1 h'.2).mono fun _ _ p => PvA.ok h p
  | false => exact (ProveR_bad v vk l ks w rfl hv hvk hn hk hI hKI h).mono fun _ _ p => PvA.no h p
theorem pv_len (l : List Ent) (ks : List Int) (hk : ks.length ≤ 100000) : (pvK l ks).length ≤ 100000 ∧ (pvV l ks).length ≤ 100000 ∧ (pvP l ks).length ≤ 100000 := by
  unfold pvK pvV pvP
  split
  · refine ⟨hk, by simp [valsL, tN]; exact hk, ?_⟩
    unfold pathL
    rw [List.length_map]
    have := clF_size (tN ks) 6 1
    unfold closedL; omega
  · simp

set_option maxRecDepth 100000 in
set_option maxHeartbeats 4000000 in
theorem SameOp_any (va vb : Value) (ks : List Int) (vs ps : List Str) (w : World) (ha : OpV w va ks vs ps) (hb : OpV w vb ks vs ps) (h1 : ks.length ≤ 100000) (h2 : vs.length ≤ 100000) (h3 : ps.length ≤ 100000) :
    Calls Tryd.prog 20 #[va, vb] w fun e w' => e = .returned (.bool true) ∧ Below w.heap.size w w' := by
  obtain ⟨a, b, c, rfl, xa, xb, xc⟩ := ha
  obtain ⟨p, q, r, rfl, yp, yq, yr⟩ := hb
  have c1 := Lib.hid (show ∀ W, Below w.heap.size w W → Calls Tryd.prog 26 #[a, p] W fun e w' => e = .returned (.bool true) ∧ Below W.heap.size W w' from fun W B => by
    have := Ints_any a p ks ks W (xa.below B) (yp.below B) (by omega) (by omega)
    rwa [decide_eq_true rfl] at this)
  have c2 := Lib.hid (show ∀ W, Below w.heap.size w W → Calls Tryd.prog 50 #[b, q] W fun e w' => e = .returned (.bool true) ∧ Below W.heap.size W w' from fun W B => by
    have := Same_any b q vs vs W (xb.below B) (yq.below B) (by omega) (by omega)
    rwa [decide_eq_true rfl] at this)
  have c3 := Lib.hid (show ∀ W, Below w.heap.size w W → Calls Tryd.prog 50 #[c, r] W fun e w' => e = .returned (.bool true) ∧ Below W.heap.size W w' from fun W B => by
    have := Same_any c r ps ps W (xc.below B) (yr.below B) (by omega) (by omega)
    rwa [decide_eq_true rfl] at this)
  obtain ⟨a1, a2, rfl⟩ := xa.shape
  obtain ⟨b1, b2, rfl⟩ := xb.shape
  obtain ⟨d1, d2, rfl⟩ := xc.shape
  obtain ⟨p1, p2, rfl⟩ := yp.shape
  obtain ⟨q1, q2, rfl⟩ := yq.shape
  obtain ⟨r1, r2, rfl⟩ := yr.shape
  generalize ks.length = n1 at *
  generalize vs.length = n2 at *
  generalize ps.length = n3 at *
  clear xa xb xc yp yq yr
  go_enter Tryd.func20, Tryd.ntmps20
  go_upto_region 1 with (fail)
  obtain ⟨wa, hwa⟩ : ∃ W, W = w.alloc (.cells #[.slice a1 n1 a2, .slice b1 n2 b2, .slice d1 n3 d2] 37) := ⟨_, rfl⟩
  rw [← hwa]
  obtain ⟨ba, za, ca⟩ := box_world w wa _ _ _ 37 hwa
  obtain ⟨wo, hwo⟩ : ∃ W, W = wa.alloc (.cells #[.slice p1 n1 p2, .slice q1 n2 q2, .slice r1 n3 r2] 37) := ⟨_, rfl⟩
  rw [← hwo]
  obtain ⟨bo, zo, co⟩ := box_world wa wo _ _ _ 37 hwo
  rw [za] at co
  have ca := Lib.hid (show ∀ W, Below wo.heap.size wo W → _ from fun W B => ca W (bo.trans (B.mono bo.size)))
  have co := Lib.hid co
  have toW := Lib.hid (show ∀ W, Below wo.heap.size wo W → Below w.heap.size w W from fun W B => (ba.trans (bo.mono ba.size)).trans (B.mono (Nat.le_trans ba.size bo.size)))
  rename_i x1 x2; clear x1 x2
  clear hwa hwo ba bo za zo
  have k := Lib.hid (Below.refl wo.heap.size wo)
  obtain ⟨g0, g1, g2⟩ := ca.out wo k.out
  obtain ⟨f0, f1, f2⟩ := co.out wo k.out
  go_wp2_with fail
  with_reducible refine (c1.out _ (toW.out _ k.out)).mono ?_
  rintro e w1 ⟨rfl, bb⟩
  clear g0 g1 g2 f0 f1 f2
  replace k := Lib.hid (k.out.trans (bb.mono k.out.size))
  clear bb
  obtain ⟨g0, g1, g2⟩ := ca.out w1 k.out
  obtain ⟨f0, f1, f2⟩ := co.out w1 k.out
  go_wp2_with fail
  with_reducible refine (c2.out _ (toW.out _ k.out)).mono ?_
  rintro e w2 ⟨rfl, bb⟩
  clear g0 g1 g2 f0 f1 f2
  replace k := Lib.hid (k.out.trans (bb.mono k.out.size))
  clear bb
  obtain ⟨g0, g1, g2⟩ := ca.out w2 k.out
  obtain ⟨f0, f1, f2⟩ := co.out w2 k.out
  go_wp2_with fail
  with_reducible refine (c3.out _ (toW.out _ k.out)).mono ?_
  rintro e w3 ⟨rfl, bb⟩
  clear g0 g1 g2 f0 f1 f2
  replace k := Lib.hid (k.out.trans (bb.mono k.out.size))
  clear bb
  have hend := Lib.hid (toW.out _ k.out)
  go_wp2_with fail
  go_ret
  exact ⟨rfl, hend.out⟩
end Go.Proofs.YtegahpfmkepfmaaDoor
namespace Go.Proofs.YtegahpfmkepfmaaDoor
open Go.RowKit
theorem ascK (K : List Int) (h : ascB (-1) K = true) : Hid (K.length ≤ 64) ∧ Hid (∀ x ∈ K, I64 x) := by
  have h1 := ascB_len K (-1) (by omega) (by omega) h
  have h2 := ascB_bd K (-1) (by omega) h
  refine ⟨?_, ?_⟩
  · show _ ≤ _; omega
  · show ∀ x ∈ K, I64 x
    intro x hx; have := h2 x hx; unfold I64; omega
set_option linter.unusedSimpArgs false in
set_option maxRecDepth 100000 in
set_option maxHeartbeats 8000000 in
theorem Match_any (v u vk vs : Value) (x : List (Int × Int)) (raw : List Ent) (keys sm : List Int) (w : World) (hv : ArgP w v x) (hu : ArgE w u raw) (hk : ArgI w vk keys) (hs : ArgI w vs sm) (hT0 : Tab w) :
    Calls Tryd.prog 3 #[v, u, vk, vs] w fun e w' => e = .returned (.bool true) ∧ Below w.heap.size w w' := by
  have hT := Lib.hid hT0
  have cSane := Lib.hid (show ∀ W, Below w.heap.size w W → _ from fun W B => sane_any W (hT0.below B))
  have cMade := Lib.hid (show ∀ W, Below w.heap.size w W → _ from fun W B => Made_any v x W ⟨hv.1.below B, hv.2⟩ rfl)
  have cFew := Lib.hid (show ∀ W, Below w.heap.size w W → _ from fun W B => few_any u raw W ⟨hu.1.below B, hu.2⟩ rfl)
  have cSome := Lib.hid (show ∀ vl L W, Below w.heap.size w W → SE W vl L → Mp L → _ from fun vl L W B h1 h2 => Some_any vl vs L sm W h1 h2 ⟨hs.1.below B, hs.2⟩ rfl)
  have fK := Lib.hid (fun W (B : Below w.heap.size w W) => hk.1.below B)
  have hkI := Lib.hid hk.2.2
  have hF2 : Hid (∀ e ∈ fewE raw 8, I64 e.1) := fewE_i64 raw 8 (fun e he => (hu.2.2 e he).1)
  have hF1 : Hid ((fewE raw 8).length ≤ 64) := by show _ ≤ _; rw [fewE_len]; omega
  obtain ⟨ka, NK, kc, rfl, hNK⟩ := hk.1.shape'
  have hNKb : NK ≤ 9223372036854775807 := by rw [hNK.out]; exact hk.2.1
  have hcap : NK ≤ kc := by
    rcases hk.1 with ⟨h, a', c', e⟩ | ⟨h1, b, o, c', e, hle, _, _⟩
    · rw [hNK.out, h]; exact Nat.zero_le _
    · injection e with e1 e2 e3
      rw [e3, hNK.out]; exact hle
  obtain ⟨m, hm, m1, m2⟩ : ∃ m, Hid (m = min NK 8) ∧ m ≤ NK ∧ m ≤ 8 := ⟨_, rfl, by omega, by omega⟩
  have m3 : m ≤ kc := by omega
  have m4 : (0 : Int) ≤ (m : Int) := by omega
  have m5 : (m : Int) ≤ (kc : Int) := by omega
  have rmin : ∀ ts ty w, (Builtin.min_ ts ty #[.int .i64 (NK : Int), .int .i64 8]).run Tryd.prog w = .ok (.int .i64 (m : Int)) w := fun ts ty w => by rw [hm.out]; exact min_runB _ 8 _ _ _ _ rfl
  have kw := Lib.hid (Below.refl w.heap.size w)
  obtain ⟨M2, hM2⟩ : ∃ M, Hid (M = fewE raw 8) := ⟨_, rfl⟩
  rw [← hM2.out] at hF1 hF2 cFew
  clear hv hs hT0 hu hk hM2 hcap
  go_enter Tryd.func3, Tryd.ntmps3
  go_wp2_with fail
  with_reducible refine (cSane.out _ kw.out).mono ?_
  rintro e w1 ⟨rfl, b⟩
  replace kw := Lib.hid (kw.out.trans (b.mono kw.out.size))
  clear b
  go_wp2_with fail
  with_reducible refine (cMade.out _ kw.out).mono ?_
  rintro e w2 ⟨vl, L, rfl, ol, hmp, hll, b⟩
  replace kw := Lib.hid (kw.out.trans (b.mono kw.out.size))
  clear b
  obtain ⟨l1, l2, hlsh⟩ := (OwnG.SL eE_len ol).shape
  have fL := Lib.hid (fun W (B : Below w2.heap.size w2 W) => (OwnG.SL eE_len ol).below B)
  obtain ⟨nL, hnL⟩ : ∃ n, L.length = n := ⟨_, rfl⟩
  rw [hnL] at hlsh
  subst hlsh
  have hmp := Lib.hid hmp
  rename_i hmpo
  have hlh := Lib.hid hll
  clear hmpo ol hnL hll
  have kL := Lib.hid (Below.refl w2.heap.size w2)
  go_wp2_with fail
  with_reducible refine (cFew.out _ kw.out).mono ?_
  rintro e w3 ⟨v2, rfl, o2, b⟩
  replace kw := Lib.hid (kw.out.trans (b.mono kw.out.size))
  replace kL := Lib.hid (kL.out.trans (b.mono kL.out.size))
  clear b
  obtain ⟨c1, c2, hsh2⟩ := (OwnG.SL eE_len o2).shape
  have f2 := Lib.hid (fun W (B : Below w3.heap.size w3 W) => (OwnG.SL eE_len o2).below B)
  obtain ⟨n2, hn2⟩ : ∃ n, Hid (M2.length = n) := ⟨_, rfl⟩
  rw [hn2.out] at hsh2
  subst hsh2
  clear o2
  go_upto_region 5 with (fail)
  obtain ⟨wz, hwz⟩ : ∃ W, W = w3.alloc (.cells #[.slice l1 nL l2, .slice c1 n2 c2] 23) := ⟨_, rfl⟩
  rw [← hwz]
  have bq : Below w3.heap.size w3 wz := by rw [hwz]; exact (Below.refl _ _).alloc (Nat.le_refl _) _
  have hz : wz.heap[w3.heap.size]? = some (.cells #[.slice l1 nL l2, .slice c1 n2 c2] 23 (0, 0)) := by rw [hwz]; exact heap_alloc_new _ _
  have hzs : w3.heap.size < wz.heap.size := by rw [hwz]; simp
  have key := Lib.hid (show ∀ k : Nat, k < 2 → ∃ a n c M, Hid (∀ W, Below wz.heap.size wz W → W.cell? ⟨w3.heap.size, k, none⟩ = some (.slice a n c)) ∧ Hid (∀ W, Below wz.heap.size wz W → SE W (.slice a n c) M) ∧ Hid (M.length ≤ 64) ∧ Hid (∀ e ∈ M, I64 e.1) from fun k hk => by
    have hB : ∀ W, Below wz.heap.size wz W → W.heap[w3.heap.size]? = some (.cells #[.slice l1 nL l2, .slice c1 n2 c2] 23 (0, 0)) := fun W B => (B.block _ hzs).trans hz
    have hcell : ∀ W, Below wz.heap.size wz W → ∀ i, W.cell? ⟨w3.heap.size, i, none⟩ = (#[.slice l1 nL l2, .slice c1 n2 c2] : Array Value)[i]? := fun W B i => cell_of_row _ _ _ _ _ _ (hB W B)
    match k, hk with
    | 0, _ => exact ⟨l1, nL, l2, L, fun W B => (hcell W B 0), fun W B => fL.out W ((kL.out.trans (bq.mono kL.out.size)).trans (B.mono (Nat.le_trans kL.out.size bq.size))), hlh.out, mp_i64 L hmp.out⟩
    | 1, _ => exact ⟨c1, n2, c2, M2, fun W B => (hcell W B 1), fun W B => f2.out W (bq.trans (B.mono bq.size)), hF1, hF2⟩)
  have toW := Lib.hid (show ∀ W, Below wz.heap.size wz W → Below w.heap.size w W from fun W B => (kw.out.trans (bq.mono kw.out.size)).trans (B.mono (Nat.le_trans kw.out.size bq.size)))
  have fLz := Lib.hid (show ∀ W, Below wz.heap.size wz W → SE W (.slice l1 nL l2) L from fun W B => fL.out W ((kL.out.trans (bq.mono kL.out.size)).trans (B.mono (Nat.le_trans kL.out.size bq.size))))
  have fKz := Lib.hid (show ∀ W, Below wz.heap.size wz W → SI W (.slice ka NK kc) keys from fun W B => fK.out W (toW.out W B))
  have cSm := Lib.hid (show ∀ W, Below wz.heap.size wz W → _ from fun W B => cSome.out (.slice l1 nL l2) L W (toW.out W B) (fLz.out W B) hmp.out)
  clear hwz hz hzs f2 cMade cFew cSane cSome kL kw bq fK fL
  obtain ⟨bz, hbz⟩ : ∃ g, w3.heap.size = g := ⟨_, rfl⟩
  rw [hbz] at key ⊢
  clear hbz
  go_loopw [31] (fun iv wr => ∃ k : Nat, k ≤ 2 ∧ iv = .int .i64 k ∧ Below wz.heap.size wz wr) (fun iv _ => 2 - (intOf iv).toNat)
  case atStart => exact ⟨0, by omega, rfl, Below.refl _ _⟩
  case round =>
    obtain ⟨k, hk, rfl, B⟩ := hrel
    by_cases hlt : k < 2
    · have i0 : (0 : Int) ≤ (k : Int) := by omega
      have i1 : (k : Int) < 2 := by omega
      obtain ⟨a, n, c, M, hc, hM, hml, hmI⟩ := key.out k hlt
      have hcc := hc.out wr B
      have cR := Lib.hid (show ∀ W, Below wz.heap.size wz W → Calls Tryd.prog 13 #[.slice a n c] W (RootPost (rtS M) (rtC M) W) from fun W B' => RootA _ M W (hM.out W B') (by have := hml.out; omega) (hT.out.below (toW.out W B')))
      have cR2 := Lib.hid (show ∀ W, Below wz.heap.size wz W → Calls Tryd.prog 14 #[.slice a n c] W (RootPost (rtS M) (rtC M) W) from fun W B' => RootRA _ M W (hM.out W B') (by have := hml.out; omega) hmI.out)
      have cV := Lib.hid (show ∀ W, Below wz.heap.size wz W → _ from fun W B' => Valid_any (.slice a n c) M W (hM.out W B') (by have := hml.out; omega))
      have cV2 := Lib.hid (show ∀ W, Below wz.heap.size wz W → _ from fun W B' => ValidR_any (.slice a n c) M W (hM.out W B') rfl (by have := hml.out; omega) hmI.out)
      have t1 : (rtS M == rtS M) = true := by rw [beq_iff_eq]
      have t2 : (rtC M == rtC M) = true := by rw [beq_iff_eq]
      have t4 : (mapB M == mapB M) = true := by rw [beq_iff_eq]
      obtain ⟨RS, hRS⟩ : ∃ x, Hid (x = rtS M) := ⟨_, rfl⟩
      obtain ⟨RC, hRC⟩ : ∃ x, Hid (x = rtC M) := ⟨_, rfl⟩
      obtain ⟨MB, hMB⟩ : ∃ x, Hid (x = mapB M) := ⟨_, rfl⟩
      rw [← hRS.out, ← hRC.out] at cR cR2
      rw [← hMB.out] at cV cV2 t4
      rw [← hRS.out] at t1
      rw [← hRC.out] at t2
      clear hRS hRC hMB hc
      go_wp2_with fail
      with_reducible refine (cR.out _ B).mono ?_
      rintro e w4 ⟨rfl, b⟩
      have B4 := B.trans (b.mono B.size)
      clear b
      go_wp2_with fail
      with_reducible refine (cR2.out _ B4).mono ?_
      rintro e w5 ⟨rfl, b⟩
      have B5 := B4.trans (b.mono B4.size)
      clear b
      go_wp2_with fail
      with_reducible refine (cV.out _ B5).mono ?_
      rintro e w5 ⟨rfl, b⟩
      have B5' := B5.trans (b.mono B5.size)
      clear b
      go_wp2_with fail
      with_reducible refine (cV2.out _ B5').mono ?_
      rintro e wr ⟨rfl, b⟩
      have B6 := B5'.trans (b.mono B5'.size)
      clear b cR cR2 cV cV2 t1 t2
      go_wp2_with fail
      refine wp_region_held_drew (S := (fun _ => True)) (by kernel_rfl) trivial (fun hHeld => ?_)
      refine wpAnyH_take (i := 0) (oi := { dst := some 60, op := Op.move (Operand.tmp 2), type := _, pos := _, after := _, guard := none }) (v := ?_) rfl (by kernel_rfl) (by kernel_rfl) (by kernel_rfl) (fun _ _ _ h => h) (Or.inl ⟨by rfl, ?_⟩) (by assumption) ?_
      rotate_left
      · ((intro w hSw; (try dsimp only at hSw); go_simp) <;> with_reducible rfl)
      try simp only [Act.put, List.setIfInBounds_toArray, List.set_cons_zero, List.set_cons_succ]
      refine wpAnyH_take (i := 1) (oi := { dst := some 61, op := Op.move (Operand.tmp 2), type := _, pos := _, after := _, guard := none }) (v := ?_) rfl (by kernel_rfl) (by kernel_rfl) (by kernel_rfl) (fun _ _ _ h => h) (Or.inl ⟨by rfl, ?_⟩) (by assumption) ?_
      rotate_left
      · ((intro w hSw; (try dsimp only at hSw); go_simp) <;> with_reducible rfl)
      try simp only [Act.put, List.setIfInBounds_toArray, List.set_cons_zero, List.set_cons_succ]
      refine wpAnyH_take (i := 2) (oi := { dst := some 62, op := Op.call { callee := Callee.builtin Builtin.len, args := #[(Operand.tmp 61)], argTypes := #[24] }, type := _, pos := _, after := _, guard := none }) (v := ?_) rfl (by kernel_rfl) (by kernel_rfl) (by kernel_rfl) (fun _ _ _ h => h) (Or.inl ⟨by rfl, ?_⟩) (by assumption) ?_
      rotate_left
      · ((intro w hSw; (try dsimp only at hSw); go_simp) <;> with_reducible rfl)
      try simp only [Act.put, List.setIfInBounds_toArray, List.set_cons_zero, List.set_cons_succ]
      refine wpAnyH_take (i := 3) (oi := { dst := some 63, op := Op.call { callee := Callee.builtin Builtin.min, args := #[(Operand.tmp 62), (Operand.const (Value.int IntKind.i64 8))], argTypes := #[3, 3] }, type := _, pos := _, after := _, guard := none }) (v := ?_) rfl (by kernel_rfl) (by kernel_rfl) (by kernel_rfl) (fun _ _ _ h => h) (Or.inl ⟨by rfl, ?_⟩) (by assumption) ?_
      rotate_left
      · ((intro w hSw; (try dsimp only at hSw); go_simp) <;> with_reducible rfl)
      try simp only [Act.put, List.setIfInBounds_toArray, List.set_cons_zero, List.set_cons_succ]
      refine wpAnyH_take (i := 4) (oi := { dst := some 64, op := Op.slice 24 (Operand.tmp 60) none (some (Operand.tmp 63)) none, type := _, pos := _, after := _, guard := none }) (v := ?_) rfl (by kernel_rfl) (by kernel_rfl) (by kernel_rfl) (fun _ _ _ h => h) (Or.inl ⟨by rfl, ?_⟩) (by assumption) ?_
      rotate_left
      · ((intro w hSw; (try dsimp only at hSw); go_simp) <;> with_reducible rfl)
      try simp only [Act.put, List.setIfInBounds_toArray, List.set_cons_zero, List.set_cons_succ]
      refine wpAnyH_take (i := 5) (oi := { dst := some 65, op := Op.move (Operand.tmp 9), type := _, pos := _, after := _, guard := none }) (v := ?_) rfl (by kernel_rfl) (by kernel_rfl) (by kernel_rfl) (fun _ _ _ h => h) (Or.inl ⟨by rfl, ?_⟩) (by assumption) ?_
      rotate_left
      · ((intro w hSw; (try dsimp only at hSw); go_simp) <;> with_reducible rfl)
      try simp only [Act.put, List.setIfInBounds_toArray, List.set_cons_zero, List.set_cons_succ]
      refine wpAnyH_take (i := 6) (oi := { dst := some 66, op := Op.move (Operand.tmp 3), type := _, pos := _, after := _, guard := none }) (v := ?_) rfl (by kernel_rfl) (by kernel_rfl) (by kernel_rfl) (fun _ _ _ h => h) (Or.inl ⟨by rfl, ?_⟩) (by assumption) ?_
      rotate_left
      · ((intro w hSw; (try dsimp only at hSw); go_simp) <;> with_reducible rfl)
      try simp only [Act.put, List.setIfInBounds_toArray, List.set_cons_zero, List.set_cons_succ]
      refine wpAnyH_take (i := 10) (oi := { dst := some 70, op := Op.move ((Operand.const (Value.int IntKind.i64 0))), type := _, pos := _, after := _, guard := none }) (v := ?_) rfl (by kernel_rfl) (by kernel_rfl) (by kernel_rfl) (fun _ _ _ h => h) (Or.inl ⟨by rfl, ?_⟩) (by assumption) ?_
      rotate_left
      · ((intro w hSw; (try dsimp only at hSw); go_simp) <;> with_reducible rfl)
      try simp only [Act.put, List.setIfInBounds_toArray, List.set_cons_zero, List.set_cons_succ]
      refine wpAnyH_ready (rs := [7]) (by kernel_rfl) (by simp) ?_
      refine AllReadyH.cons (o := { dst := some 67, op := Op.call { callee := Callee.value (Operand.func 17), args := #[(Operand.tmp 65), (Operand.tmp 66)], argTypes := #[23, 24] }, type := _, pos := _, after := _, guard := none }) rfl (fun K hK => ?_) ?_
      · skip
        go_simp
        with_reducible refine (cSm.out wr.drew B6.drew).mono ?_
        rintro e w7 ⟨v2, K2, rfl, ok2, hasc2, b7⟩
        obtain ⟨s1, s2, hs2⟩ := (OwnG.SL eI_len ok2).shape
        obtain ⟨n2, hn2⟩ : ∃ n, Hid (n = K2.length) := ⟨_, rfl⟩
        rw [← hn2.out] at hs2
        subst hs2
        have B7 := (B6.drew).trans (b7.mono B6.size)
        have f2 := Lib.hid (fun W (B : Below w7.heap.size w7 W) => (OwnG.SL eI_len ok2).below B)
        clear ok2 b7
        go_wp2_with fail
        refine hK.out _ _ ?_ (fun hHeld => ?_)
        · trivial
        clear hK K
        try simp only [Act.put, List.setIfInBounds_toArray, List.set_cons_zero, List.set_cons_succ]
        refine wpAnyH_ready (rs := [8]) (by kernel_rfl) (by simp) ?_
        refine AllReadyH.cons (o := { dst := some 68, op := Op.buildSlice 34 2 #[(0, (Operand.tmp 64)), (1, (Operand.tmp 67))], type := _, pos := _, after := _, guard := none }) rfl (fun K hK => ?_) ?_
        · skip
          go_simp
          go_wp2_with fail
          refine hK.out _ _ ?_ (fun hHeld => ?_)
          · trivial
          clear hK K
          try simp only [Act.put, List.setIfInBounds_toArray, List.set_cons_zero, List.set_cons_succ]
          refine wpAnyH_take (i := 9) (oi := { dst := some 69, op := Op.call { callee := Callee.builtin Builtin.len, args := #[(Operand.tmp 68)], argTypes := #[34] }, type := _, pos := _, after := _, guard := none }) (v := ?_) rfl (by kernel_rfl) (by kernel_rfl) (by kernel_rfl) (fun _ _ _ h => h) (Or.inl ⟨by rfl, ?_⟩) (by assumption) ?_
          rotate_left
          · ((intro w hSw; (try dsimp only at hSw); go_simp) <;> with_reducible rfl)
          try simp only [Act.put, List.setIfInBounds_toArray, List.set_cons_zero, List.set_cons_succ]
          refine wpAnyH_done (by kernel_rfl) ?_ _
          obtain ⟨wq, hwq⟩ : ∃ W, W = w7.alloc (.cells #[.slice ka m kc, .slice s1 n2 s2] 24) := ⟨_, rfl⟩
          rw [← hwq]
          have bq : Below w7.heap.size w7 wq := by rw [hwq]; exact (Below.refl _ _).alloc (Nat.le_refl _) _
          have hq : wq.heap[w7.heap.size]? = some (.cells #[.slice ka m kc, .slice s1 n2 s2] 24 (0, 0)) := by rw [hwq]; exact heap_alloc_new _ _
          have hqs : w7.heap.size < wq.heap.size := by rw [hwq]; simp
          have Bq := B7.trans (bq.mono B7.size)
          have keyq := Lib.hid (show ∀ j : Nat, j < 2 → ∃ a n c K, Hid (∀ W, Below wq.heap.size wq W → W.cell? ⟨w7.heap.size, j, none⟩ = some (.slice a n c)) ∧ Hid (∀ W, Below wq.heap.size wq W → SI W (.slice a n c) K) ∧ Hid (K.length ≤ 64) ∧ Hid (∀ x ∈ K, I64 x) from fun j hj => by
            have hB : ∀ W, Below wq.heap.size wq W → W.heap[w7.heap.size]? = some (.cells #[.slice ka m kc, .slice s1 n2 s2] 24 (0, 0)) := fun W B => (B.block _ hqs).trans hq
            have hcell : ∀ W, Below wq.heap.size wq W → ∀ i, W.cell? ⟨w7.heap.size, i, none⟩ = (#[.slice ka m kc, .slice s1 n2 s2] : Array Value)[i]? := fun W B i => cell_of_row _ _ _ _ _ _ (hB W B)
            match j, hj with
            | 0, _ => exact ⟨ka, _, kc, keys.take m, fun W B => hcell W B 0, fun W B => SLG.take (fKz.out W (Bq.trans (B.mono Bq.size))) (by rw [← hNK.out]; omega), by show _ ≤ _; rw [List.length_take]; omega, fun x hx => hkI.out x (List.mem_of_mem_take hx)⟩
            | 1, _ => exact ⟨s1, _, s2, K2, fun W B => hcell W B 1, fun W B => f2.out W (bq.trans (B.mono bq.size)), (ascK K2 hasc2).1, (ascK K2 hasc2).2⟩)
          have toZ := Lib.hid (show ∀ W, Below wq.heap.size wq W → Below wz.heap.size wz W from fun W B => Bq.trans (B.mono Bq.size))
          clear hwq hq hqs f2 bq Bq B7 hasc2 hn2
          obtain ⟨bq, hbq⟩ : ∃ g, w7.heap.size = g := ⟨_, rfl⟩
          rw [hbq] at keyq ⊢
          clear hbq
          go_wp2_with fail
          go_loopw [70] (fun iv wr => ∃ j : Nat, j ≤ 2 ∧ iv = .int .i64 j ∧ Below wq.heap.size wq wr) (fun iv _ => 2 - (intOf iv).toNat)
          case atStart => exact ⟨0, by omega, rfl, Below.refl _ _⟩
          case round =>
            obtain ⟨j, hj, rfl, Bj⟩ := hrel
            by_cases hltj : j < 2
            · have j0 : (0 : Int) ≤ (j : Int) := by omega
              have j1 : (j : Int) < 2 := by omega
              obtain ⟨qa, qn, qc, K, hqc, hqs, hql, hqI⟩ := keyq.out j hltj
              have hcc2 := hqc.out _ Bj
              have cP := Lib.hid (show ∀ W, Below wq.heap.size wq W → Calls Tryd.prog 18 #[.slice a n c, .slice qa qn qc] W (PvA M K W) from fun W B' => ProveA _ _ M K W (hM.out W (toZ.out W B')) (hqs.out W B') (by have := hml.out; omega) (by have := hql.out; omega) (hT.out.below (toW.out W (toZ.out W B'))))
              have cQ := Lib.hid (show ∀ W, Below wq.heap.size wq W → Calls Tryd.prog 19 #[.slice a n c, .slice qa qn qc] W (PvA M K W) from fun W B' => ProveRA _ _ M K W (hM.out W (toZ.out W B')) (hqs.out W B') (by have := hml.out; omega) (by have := hql.out; omega) hmI.out hqI.out)
              obtain ⟨ln1, ln2, ln3⟩ := pv_len M K (by have := hql.out; omega)
              unfold PvA at cP cQ
              have cS := Lib.hid (fun va vb W ha hb => SameOp_any va vb (pvK M K) (pvV M K) (pvP M K) W ha hb ln1 ln2 ln3)
              have t3 : (pvC M K == pvC M K) = true := by rw [beq_iff_eq]
              obtain ⟨PC, hPC⟩ : ∃ x, Hid (x = pvC M K) := ⟨_, rfl⟩
              obtain ⟨PK, hPK⟩ : ∃ x, Hid (x = pvK M K) := ⟨_, rfl⟩
              obtain ⟨PV, hPV⟩ : ∃ x, Hid (x = pvV M K) := ⟨_, rfl⟩
              obtain ⟨PP, hPP⟩ : ∃ x, Hid (x = pvP M K) := ⟨_, rfl⟩
              rw [← hPC.out, ← hPK.out, ← hPV.out, ← hPP.out] at cP cQ
              rw [← hPK.out, ← hPV.out, ← hPP.out] at cS
              rw [← hPC.out] at t3
              obtain ⟨c1, hc1⟩ : ∃ x, Hid (PK.length = x) := ⟨_, rfl⟩
              obtain ⟨c2, hc2⟩ : ∃ x, Hid (PV.length = x) := ⟨_, rfl⟩
              obtain ⟨c3, hc3⟩ : ∃ x, Hid (PP.length = x) := ⟨_, rfl⟩
              clear ln1 ln2 ln3 hPC hPK hPV hPP hqc hqs hql hqI
              go_wp2_with fail
              with_reducible refine (cP.out _ Bj).mono ?_
              rintro e w8 ⟨vo, rfl, ho, b⟩
              have B8 := Bj.trans (b.mono Bj.size)
              obtain ⟨d1, d2, d3, d4, d5, d6, rfl⟩ := ho.form c1 c2 c3 hc1.out hc2.out hc3.out
              have hoh := Lib.hid ho
              clear ho b
              go_upto_region 15 with (fail)
              obtain ⟨wo, hwo⟩ : ∃ W, W = w8.alloc (.cells #[.slice d1 c1 d2, .slice d3 c2 d4, .slice d5 c3 d6] 37) := ⟨_, rfl⟩
              rw [← hwo]
              obtain ⟨bo, _, co⟩ := box_world w8 wo _ _ _ 37 hwo
              have Bo := B8.trans (bo.mono B8.size)
              have ko := Lib.hid (Below.refl wo.heap.size wo)
              have fo := Lib.hid (fun W (B : Below wo.heap.size wo W) => hoh.out.below (bo.trans (B.mono bo.size)))
              have co := Lib.hid co
              rename_i zz; clear zz hwo bo hoh
              obtain ⟨pb, hpb⟩ : ∃ g, w8.heap.size = g := ⟨_, rfl⟩
              rw [hpb] at co ⊢
              clear hpb
              go_wp2_with fail
              with_reducible refine (cQ.out _ Bo).mono ?_
              rintro e w9 ⟨vo2, rfl, ho2, b⟩
              have B9 := Bo.trans (b.mono Bo.size)
              replace ko := Lib.hid (ko.out.trans (b.mono ko.out.size))
              obtain ⟨g1, g2, g3, g4, g5, g6, rfl⟩ := ho2.form c1 c2 c3 hc1.out hc2.out hc3.out
              have hoh2 := Lib.hid ho2
              clear ho2 b
              go_upto_region 16 with (fail)
              obtain ⟨wp, hwp⟩ : ∃ W, W = w9.alloc (.cells #[.slice g1 c1 g2, .slice g3 c2 g4, .slice g5 c3 g6] 37) := ⟨_, rfl⟩
              rw [← hwp]
              obtain ⟨bp, _, cp⟩ := box_world w9 wp _ _ _ 37 hwp
              have Bp := B9.trans (bp.mono B9.size)
              replace ko := Lib.hid (ko.out.trans (bp.mono ko.out.size))
              have fp := Lib.hid (hoh2.out.below bp)
              obtain ⟨f1, f2, f3⟩ := cp wp (Below.refl _ _)
              obtain ⟨f4, f5, f6⟩ := co.out wp ko.out
              rename_i zz; clear zz hwp cp bp
              go_wp2_with fail
              with_reducible refine (cS.out _ _ _ (fo.out _ ko.out) fp.out).mono ?_
              rintro e w10 ⟨rfl, b⟩
              have B10 := Bp.trans (b.mono Bp.size)
              go_wp2_with fail
              go_roundw
              case rel => exact ⟨j + 1, by omega, by go_num, B10⟩
              case measure => simp [intOf]; omega
            · have j1 : ¬ (j : Int) < 2 := by omega
              have hz2 := Lib.hid (toZ.out _ Bj)
              go_wp2_with fail
              go_roundw
              case rel => exact ⟨k + 1, by omega, by go_num, hz2.out⟩
              case measure => simp [intOf]; omega
        exact AllReadyH.nil
      exact AllReadyH.nil
    · have i1 : ¬ (k : Int) < 2 := by omega
      have hend := Lib.hid (toW.out _ B)
      go_wp2_with fail
      go_ret
      exact ⟨rfl, hend.out⟩
end Go.Proofs.YtegahpfmkepfmaaDoor
