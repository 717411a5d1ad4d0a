/- The reference's Read and Update. -/
import Derived.Test.YtegahpfmkepfmaaDoorSB
import Derived.BigQuiet
namespace Go.Proofs.YtegahpfmkepfmaaDoor
open Go.RowKit
/-- the values after one change -/
def upV (ks : List Int) (vs : List Str) (e : Ent) : List Str := (ks.zip vs).map fun p => if p.1 = e.1 then e.2 else p.2
theorem upV_len (ks : List Int) (vs : List Str) (e : Ent) (h : vs.length = ks.length) : (upV ks vs e).length = ks.length := by
 unfold upV; rw [List.length_map, List.length_zip]; omega
theorem upV_at (ks : List Int) (vs : List Str) (e : Ent) (h : vs.length = ks.length) (n : Nat) (hn : n < ks.length) : (upV ks vs e)[n]'(by rw [upV_len _ _ _ h]; exact hn) = if ks[n] = e.1 then e.2 else vs[n]'(by omega) := by
 unfold upV
 rw [List.getElem_map, List.getElem_zip]
/-- the values when n keys have been looked at -/
def upN (ks : List Int) (vs : List Str) (e : Ent) (n : Nat) : List Str := (upV ks vs e).take n ++ vs.drop n
theorem upN_zero (ks : List Int) (vs : List Str) (e : Ent) : upN ks vs e 0 = vs := rfl
theorem upN_full (ks : List Int) (vs : List Str) (e : Ent) (h : vs.length = ks.length) : upN ks vs e ks.length = upV ks vs e := by
 unfold upN
 rw [List.take_of_length_le (by rw [upV_len _ _ _ h]; exact Nat.le_refl _), List.drop_eq_nil_iff.2 (by omega), List.append_nil]
theorem upN_len (ks : List Int) (vs : List Str) (e : Ent) (n : Nat) (h : vs.length = ks.length) (hn : n ≤ ks.length) : (upN ks vs e n).length = ks.length := by
 unfold upN; rw [List.length_append, List.length_take, List.length_drop, upV_len _ _ _ h]; omega
theorem upN_step (ks : List Int) (vs : List Str) (e : Ent) (n : Nat) (h : vs.length = ks.length) (hn : n < ks.length) : upN ks vs e (n + 1) = if ks[n] = e.1 then (upN ks vs e n).set n e.2 else upN ks vs e n := by
 have hl := upV_len ks vs e h
 have h1 : upN ks vs e (n + 1) = (upV ks vs e).take n ++ (upV ks vs e)[n]'(by omega) :: vs.drop (n + 1) := by
  unfold upN; rw [List.take_succ_eq_append_getElem (by omega), List.append_assoc]; rfl
 have h2 : upN ks vs e n = (upV ks vs e).take n ++ vs[n]'(by omega) :: vs.drop (n + 1) := by
  unfold upN; rw [List.drop_eq_getElem_cons (by omega)]
 rw [h1, upV_at ks vs e h n hn]
 by_cases g : ks[n] = e.1
 ·rw [if_pos g, if_pos g, h2]
  have ht : ((upV ks vs e).take n).length = n := by rw [List.length_take]; omega
  rw [List.set_append_right _ _ (by omega), ht, Nat.sub_self]; rfl
 ·rw [if_neg g, if_neg g, h2]
theorem upV_small (ks : List Int) (vs : List Str) (e : Ent) (m : Nat) (h : ∀ s ∈ vs, List.length s ≤ m) (he : e.2.length ≤ m) : ∀ s ∈ upV ks vs e, List.length s ≤ m := by
 intro s hs
 unfold upV at hs
 obtain ⟨p, hp, rfl⟩ := List.mem_map.1 hs
 split
 ·exact he
 ·exact h _ (List.of_mem_zip hp).2
def upsV (ks : List Int) (vs : List Str) (ch : List Ent) : List Str := ch.foldl (upV ks) vs
theorem upsV_len (ks : List Int) (ch : List Ent) : ∀ vs : List Str, vs.length = ks.length → (upsV ks vs ch).length = ks.length := by
 induction ch with
 | nil => intro vs h; exact h
 | cons e t ih => intro vs h; exact ih _ (upV_len _ _ _ h)
theorem upsV_small (ks : List Int) (m : Nat) (ch : List Ent) : ∀ vs : List Str, (∀ s ∈ vs, List.length s ≤ m) → (∀ e ∈ ch, e.2.length ≤ m) → ∀ s ∈ upsV ks vs ch, List.length s ≤ m := by
 induction ch with
 | nil => intro vs h _; exact h
 | cons e t ih => intro vs h he; exact ih _ (upV_small ks vs e m h (he e List.mem_cons_self)) (fun x hx => he x (List.mem_cons_of_mem _ hx))
theorem upsV_snoc (ks : List Int) (vs : List Str) (ch : List Ent) (i : Nat) (h : i < ch.length) : upsV ks vs (ch.take (i + 1)) = upV ks (upsV ks vs (ch.take i)) ch[i] := by
 unfold upsV
 rw [List.take_succ_eq_append_getElem h, List.foldl_append]; rfl
theorem upV_shown (ks : List Int) (vs : List Str) (e : Ent) (hk : ascB (-1) ks = true) (h : vs.length = ks.length) (he : e.1 ∈ ks) (k : Nat) : vF (shownV ks (upV ks vs e)) k = if e.1 = (k : Int) then e.2 else vF (shownV ks vs) k := by
 by_cases hm : (k : Int) ∈ ks
 ·obtain ⟨n, hn, e1⟩ := List.getElem_of_mem hm
  have h1 := shown_at ks (upV ks vs e) hk (upV_len _ _ _ h) n hn
  have h2 := shown_at ks vs hk h n hn
  rw [e1] at h1 h2
  simp only [Int.toNat_natCast] at h1 h2
  rw [h1, h2, upV_at _ _ _ h n hn, e1]
  by_cases g : (k : Int) = e.1
  ·rw [if_pos g, if_pos g.symm]
  ·rw [if_neg g, if_neg (fun x => g x.symm)]
 ·rw [shown_not ks _ hk (upV_len _ _ _ h) k hm, shown_not ks vs hk h k hm, if_neg]
  intro e1; rw [e1] at he; exact hm he
theorem upsV_shown (ks : List Int) (hk : ascB (-1) ks = true) (ch : List Ent) : ∀ (vs V : List Str), vs.length = ks.length → V.length = 64 → (∀ e ∈ ch, e.1 ∈ ks) → (∀ k, vF (shownV ks vs) k = vF V k) → ∀ k, vF (shownV ks (upsV ks vs ch)) k = vF (putV V ch) k := by
 induction ch with
 | nil => intro vs V _ _ _ h k; exact h k
 | cons e t ih =>
  intro vs V h1 h2 h3 h4 k
  have he := h3 e List.mem_cons_self
  have hb := ascB_bd ks (-1) (by omega) hk e.1 he
  refine ih (upV ks vs e) (V.set e.1.toNat e.2) (upV_len _ _ _ h1) (by rw [List.length_set]; exact h2) (fun x hx => h3 x (List.mem_cons_of_mem _ hx)) (fun k => ?_) k
  rw [upV_shown ks vs e hk h1 he, vF_set _ _ _ _ (by omega), h4]
  by_cases g : e.1 = (k : Int)
  ·rw [if_pos g, if_pos (by omega)]
  ·rw [if_neg g, if_neg (by omega)]
theorem stand_changed (ks : List Int) (vs ps : List Str) (ch : List Ent) (hk : ascB (-1) ks = true) (h : vs.length = ks.length) (hin : ∀ e ∈ ch, e.1 ∈ ks) : standS ks ps (shownV ks (upsV ks vs ch)) = standS ks ps (putV (shownV ks vs) ch) := by
 unfold standS
 have hV : (shownV ks vs).length = 64 := putS_len ks vs _
 rw [show vF (shownV ks (upsV ks vs ch)) = vF (putV (shownV ks vs) ch) from funext (upsV_shown ks hk ch vs (shownV ks vs) h hV hin (fun _ => rfl))]
/-- the opening with its values changed is formed -/
theorem formB_up (ks : List Int) (vs ps : List Str) (ch : List Ent) (h : formB ks vs ps = true) (he : ∀ e ∈ ch, e.2.length ≤ 65536) : formB ks (upsV ks vs ch) ps = true := by
 obtain ⟨f1, f2, f3, f4, f5⟩ := formB_facts ks vs ps h
 have hs := upsV_small ks 65536 ch vs f3 he
 have h3 : (upsV ks vs ch).any tl = false := by
  rw [List.any_eq_false]
  intro s hm
  have := hs s hm
  unfold tl
  simp; omega
 have h5 : ps.any noD = false := by
  rw [List.any_eq_false]
  intro s hm
  have := f5 s hm
  unfold noD
  simp [this]
 unfold formB
 rw [f1, h3, h5, upsV_len ks ch vs f2, f4]
 simp
end Go.Proofs.YtegahpfmkepfmaaDoor
namespace Go.Proofs.YtegahpfmkepfmaaDoor
open Go.RowKit
set_option linter.unusedSimpArgs false in
set_option maxRecDepth 100000 in
set_option maxHeartbeats 8000000 in
theorem ReadR_any (root : Str) (vo : Value) (ks : List Int) (vs ps : List Str) (w : World) {W0 : World} (hv : OpV W0 vo ks vs ps) (hW : W0 = w) (hk : ks.length ≤ 100000) (hKI : ∀ x ∈ ks, I64 x) (hvl : vs.length ≤ 9223372036854775807) (hpl : ps.length ≤ 9223372036854775807) :
  Calls Tryd.prog 24 #[.string ⟨root.toArray⟩, vo] w (ReadPost root ks vs ps w) := by
 subst hW
 have cF := Lib.hid (show ∀ W, Below W0.heap.size W0 W → _ from fun W B => FormedR_any vo ks vs ps W (hv.below B) rfl hk hKI hvl hpl)
 have cS := Lib.hid (show formB ks vs ps = true → ∀ W, Below W0.heap.size W0 W → _ from fun hf W B => Stands_any vo ks vs ps W (hv.below B) rfl hf)
 obtain ⟨a, b, c, rfl, ha, hb, hc⟩ := hv
 have hka := Lib.hid (show ∀ (k : Nat) (hk : k < ks.length), _ from fun k hk => SI.at ha k hk)
 have hva := Lib.hid (show ∀ (k : Nat) (hk : k < vs.length), _ from fun k hk => SS.at hb k hk)
 obtain ⟨a1, n1, a2, rfl, hN1⟩ := ha.shape'
 obtain ⟨b1, n2, b2, rfl, hN2⟩ := hb.shape'
 obtain ⟨c1, n3, c2, rfl, hN3⟩ := hc.shape'
 have hkh := Lib.hid hk
 clear ha hb hc hk hKI hvl hpl
 have hbad := Lib.hid (show shownB root ks vs ps = false → ∀ W, Below W0.heap.size W0 W → ReadPost root ks vs ps W0 (.returned (.tuple #[.slice none 0 0, .slice none 0 0, .bool false])) W from fun h W B => .inl ⟨h, rfl, B⟩)
 have hgood := Lib.hid (show shownB root ks vs ps = true → ∀ t a W, SE W t (rdE (shownV ks vs) ks) → SI W a (rdA (shownV ks vs) ks) → Below W0.heap.size W0 W → ReadPost root ks vs ps W0 (.returned (.tuple #[t, a, .bool true])) W from fun h t a W h1 h2 B => .inr ⟨h, t, a, rfl, h1, h2, B⟩)
 have hsB : Hid (shownB root ks vs ps = (formB ks vs ps && (standS ks ps (shownV ks vs) == root))) := rfl
 have hff := Lib.hid (formB_facts ks vs ps)
 obtain ⟨Q, hQ⟩ : ∃ Q, Hid (Q = ReadPost root ks vs ps W0) := ⟨_, Lib.hid (Eq.refl _)⟩
 rw [← hQ.out] at hbad hgood ⊢
 clear hQ
 go_enter Tryd.func24, Tryd.ntmps24
 go_upto_region 1 with (fail)
 obtain ⟨wo, hwo⟩ : ∃ w, w = W0.alloc (.cells #[.slice a1 n1 a2, .slice b1 n2 b2, .slice c1 n3 c2] 37) := ⟨_, rfl⟩
 rw [← hwo]
 obtain ⟨bo, zo, co⟩ := box_world W0 wo _ _ _ 37 hwo
 have co := Lib.hid co
 clear hwo zo
 have toW := Lib.hid (show ∀ W, Below wo.heap.size wo W → Below W0.heap.size W0 W from fun W B => bo.trans (B.mono bo.size))
 obtain ⟨gb, hgb⟩ : ∃ g, W0.heap.size = g := ⟨_, rfl⟩
 have co : Hid (∀ W, Below wo.heap.size wo W → W.cell? ⟨gb, 0, none⟩ = some (.slice a1 n1 a2) ∧ W.cell? ⟨gb, 1, none⟩ = some (.slice b1 n2 b2) ∧ W.cell? ⟨gb, 2, none⟩ = some (.slice c1 n3 c2)) := by rw [← hgb]; exact co
 have hgbh := Lib.hid hgb
 clear hgb
 rw [hgbh.out]
 clear bo
 obtain ⟨g0, g1, g2⟩ := co.out wo (Below.refl _ _)
 cases hf : formB ks vs ps with
 | false =>
  rw [hf] at cF hsB
  have hr := Lib.hid (hbad.out (by rw [hsB.out]; rfl))
  clear hf cS hff hsB hbad hgood
  go_wp2_with fail
  refine (cF.out _ (toW.out _ (Below.refl _ _))).mono ?_
  rintro e w1 ⟨rfl, b1⟩
  have B1 := Lib.hid (hr.out _ ((toW.out _ (Below.refl _ _)).trans (b1.mono (toW.out _ (Below.refl _ _)).size)))
  clear g0 g1 g2 b1
  go_wp2_with fail
  go_ret3
  exact B1.out
 | true =>
  obtain ⟨f1, f2, f3, f4, f5⟩ := hff.out hf
  have cS := Lib.hid (cS.out hf)
  rw [hf] at cF hsB
  have hsh := Lib.hid (fun n (hn : n < ks.length) => shown_at ks vs f1 f2 n hn)
  have hkl := ascB_len ks (-1) (by omega) (by omega) f1
  have hsm := Lib.hid f3
  have hn12 : n2 = n1 := by rw [hN2.out, hN1.out]; exact f2
  subst hn12
  have hn64 : n2 ≤ 64 := by rw [hN1.out]; omega
  have hyes := Lib.hid (rd_yes (shownV ks vs) ks)
  have hno := Lib.hid (rd_no (shownV ks vs) ks)
  have hlE := Lib.hid (rdE_len (shownV ks vs))
  have hlA := Lib.hid (rdA_len (shownV ks vs))
  have hb0 := Lib.hid (toW.out _ (Below.refl _ _))
  by_cases hst : standS ks ps (shownV ks vs) = root
  rotate_left
  ·have hr := Lib.hid (hbad.out (by rw [hsB.out, Bool.true_and]; exact beq_eq_false_iff_ne.2 hst))
   have t1 : (standS ks ps (shownV ks vs) == root) = false := beq_eq_false_iff_ne.2 hst
   have t2 : (standS ks ps (shownV ks vs) != root) = true := bne_iff_ne.2 hst
   generalize standS ks ps (shownV ks vs) = D at *
   clear hf hff hsB hbad hgood hst f1 f2 f3 f4 f5 hsh hyes hno hlE hlA hsm
   go_wp2_with fail
   refine (cF.out _ hb0.out).mono ?_
   rintro e w1 ⟨rfl, b1⟩
   have B1 := hb0.out.trans (b1.mono hb0.out.size)
   clear g0 g1 g2
   obtain ⟨g0, g1, g2⟩ := co.out w1 b1
   go_wp2_with fail
   refine (cS.out _ B1).mono ?_
   rintro e w2 ⟨rfl, b2⟩
   have B2 := Lib.hid (hr.out _ (B1.trans (b2.mono B1.size)))
   clear g0 g1 g2 b2
   go_wp2_with fail
   go_ret3
   exact B2.out
  ·have hr := Lib.hid (hgood.out (by rw [hsB.out, Bool.true_and]; exact beq_iff_eq.2 hst))
   have t1 : (root == root) = true := by rw [beq_iff_eq]
   rw [hst] at cS
   obtain ⟨E, hE⟩ : ∃ E : List Int → List Ent, Hid (E = rdE (shownV ks vs)) := ⟨_, Lib.hid (Eq.refl _)⟩
   obtain ⟨AA, hAA⟩ : ∃ E : List Int → List Int, Hid (E = rdA (shownV ks vs)) := ⟨_, Lib.hid (Eq.refl _)⟩
   rw [← hE.out, ← hAA.out] at hyes hno hr
   rw [← hE.out] at hlE
   rw [← hAA.out] at hlA
   clear hf hff hsB hbad hgood hst f1 f3 f4 f5 hE hAA
   go_wp2_with fail
   refine (cF.out _ hb0.out).mono ?_
   rintro e w1 ⟨rfl, b1⟩
   have B1 := hb0.out.trans (b1.mono hb0.out.size)
   clear g0 g1 g2
   obtain ⟨g0, g1, g2⟩ := co.out w1 b1
   go_wp2_with fail
   refine (cS.out _ B1).mono ?_
   rintro e w2 ⟨rfl, b2⟩
   have b2w := b1.trans (b2.mono b1.size)
   have cE := Lib.hid (show ∀ W, Below w2.heap.size w2 W → _ from fun W B => co.out W (b2w.trans (B.mono b2w.size)))
   have toV := Lib.hid (show ∀ W, Below w2.heap.size w2 W → Below W0.heap.size W0 W from fun W B => toW.out W (b2w.trans (B.mono b2w.size)))
   clear g0 g1 g2 b1 b2 B1 b2w cF cS
   obtain ⟨g0, g1, g2⟩ := cE.out w2 (Below.refl _ _)
   go_wp2_with fail
   go_loopw [7, 8, 9] (fun tv av i wr => ∃ n : Nat, n ≤ n2 ∧ i = .int .i64 n ∧ (∃ x1 x2 x3, tv = .slice x1 x2 x3) ∧ (∃ x1 x2 x3, av = .slice x1 x2 x3) ∧ OE wr w2.heap.size tv (E (ks.take n)) ∧ OI wr w2.heap.size av (AA (ks.take n)) ∧ Dj tv av ∧ Below w2.heap.size w2 wr) (fun _ _ i _ => n2 - (intOf i).toNat)
   case atStart => exact ⟨0, by omega, rfl, ⟨_, _, _, rfl⟩, ⟨_, _, _, rfl⟩, (by rw [show E (ks.take 0) = [] from by have := hlE.out (ks.take 0); exact List.length_eq_zero_iff.1 (by simpa using this)]; exact OwnG.nil _ _), (by rw [show AA (ks.take 0) = [] from by have := hlA.out (ks.take 0); exact List.length_eq_zero_iff.1 (by simpa using this)]; exact OwnG.nil _ _), (fun g h => by cases h), Below.refl _ _⟩
   case round =>
    clear g0 g1 g2
    obtain ⟨n, hn, rfl, ⟨x1, x2, x3, rfl⟩, ⟨y1, y2, y3, rfl⟩, ot, oa, hd, B⟩ := hrel
    obtain ⟨g0, g1, g2⟩ := cE.out wr B
    by_cases hlt : n < n2
    ·have hnk : n < ks.length := by rw [← hN1.out]; exact hlt
     have hnv : n < vs.length := by rw [← hN2.out]; exact hlt
     obtain ⟨bk, ok, ck, he, hcell⟩ := hka.out n hnk
     injection he with he1 he2 he3
     subst he1
     obtain ⟨bv, ov, cv, he, hcell2⟩ := hva.out n hnv
     injection he with he4 he5 he6
     subst he4
     have hcc := hcell wr (toV.out _ B)
     have hcd := hcell2 wr (toV.out _ B)
     have sK := Lib.hid (show ∀ W, Below w2.heap.size w2 W → (W.cell? ⟨gb, 0, none⟩ = some (.slice (some ⟨bk, ok, none⟩) n2 a2) ∧ W.cell? ⟨gb, 1, none⟩ = some (.slice (some ⟨bv, ov, none⟩) n2 b2)) ∧ W.cell? ⟨bk, ok + n, none⟩ = some (.int .i64 ks[n]) ∧ W.cell? ⟨bv, ov + n, none⟩ = some (.string ⟨vs[n].toArray⟩) from fun W BW => ⟨⟨(cE.out W BW).1, (cE.out W BW).2.1⟩, hcell W (toV.out _ BW), hcell2 W (toV.out _ BW)⟩)
     have hat := hsh.out n hnk
     have hy := hyes.out n hnk
     have hn' := hno.out n hnk
     rw [hat] at hy hn'
     have lt1 : (E (ks.take n)).length ≤ 1000 := by have := hlE.out (ks.take n); have := List.length_take_le n ks; omega
     have la1 : (AA (ks.take n)).length ≤ 1000 := by have := hlA.out (ks.take n); have := List.length_take_le n ks; omega
     clear hcell hcell2 he2 he3 he5 he6 hat
     have i0 : (0 : Int) ≤ (n : Int) := by omega
     have i1 : (n : Int) < (n2 : Int) := by omega
     have Bs := B.size
     generalize ks[n] = y at *
     generalize vs[n] = s at *
     by_cases hz : s = []
     ·obtain ⟨e1, e2⟩ := hn' hz
      subst hz
      obtain ⟨j0, hj, hj0, hj1, hj2⟩ := info_parts infoInt
      obtain ⟨v', w', ⟨z1, z2, z3, rfl⟩, hr2, h1, h2, h3, h4⟩ := OwnG.snoc2 eI_len eI_one (by omega) 24 24 Tryd.underlying24 hj hj0 hj1 hj2 rfl wr w2.heap.size _ _ _ _ y oa ot hd.symm (by omega) (by omega) Bs
      have hr2 : (Builtin.append_ #[24, 24] 24 #[.slice y1 y2 y3, .slice (some ⟨wr.heap.size, 0, none⟩) 1 1]).run Tryd.prog (wr.alloc (.cells #[.int .i64 y] 3)) = .ok (.slice z1 z2 z3) w' := hr2
      have hend := Lib.hid (show OE w' w2.heap.size (.slice x1 x2 x3) (E (ks.take (n + 1))) ∧ OI w' w2.heap.size (.slice z1 z2 z3) (AA (ks.take (n + 1))) ∧ Dj (.slice x1 x2 x3) (.slice z1 z2 z3) ∧ Below w2.heap.size w2 w' from ⟨by rw [e1]; exact h2, by rw [e2]; exact h1, h3.symm, B.trans h4⟩)
      clear hy hn' e1 e2 h1 h2 h3 h4 ot oa hd hj hj0 hj1 hj2 B sK
      go_wp2_with (at_builtin; refine wpList_append_runB rfl (.tmp 32) (.tmp 38) 24 rfl (.slice y1 y2 y3) (.slice (some ⟨wr.heap.size, 0, none⟩) 1 1) rfl rfl _ _ hr2 ?_)
      go_roundw
      case rel => exact ⟨n + 1, by omega, by go_num, ⟨_, _, _, rfl⟩, ⟨_, _, _, rfl⟩, hend.out⟩
      case measure => simp [intOf]; omega
     ·obtain ⟨e1, e2⟩ := hy hz
      have hz2 := not_empty hz
      obtain ⟨j0, hj, hj0, hj1, hj2⟩ := info_parts infoEnt
      obtain ⟨v', w9, ⟨z1, z2, z3, rfl⟩, hr2, h1, h2, h3, h4⟩ := OwnG.snoc2 eE_len eE_one (by omega) 23 23 Tryd.underlying23 hj hj0 hj1 hj2 rfl wr.drew w2.heap.size _ _ _ _ ((y, s) : Ent) (ot.below (Below.refl _ wr).drew) (oa.below (Below.refl _ wr).drew) hd (by omega) (by omega) Bs
      have hr2 : (Builtin.append_ #[23, 23] 23 #[.slice x1 x2 x3, .slice (some ⟨wr.heap.size, 0, none⟩) 1 1]).run Tryd.prog (wr.drew.alloc (.cells #[.int .i64 y, .string ⟨s.toArray⟩] 46)) = .ok (.slice z1 z2 z3) w9 := hr2
      have B9 := Lib.hid (show Below w2.heap.size w2 w9 from (B.drew).trans h4)
      have hend := Lib.hid (show OE w9 w2.heap.size (.slice z1 z2 z3) (E (ks.take (n + 1))) ∧ OI w9 w2.heap.size (.slice y1 y2 y3) (AA (ks.take (n + 1))) ∧ Dj (.slice z1 z2 z3) (.slice y1 y2 y3) from ⟨by rw [e1]; exact h1, by rw [e2]; exact h2, h3⟩)
      clear hy hn' e1 e2 h1 h2 h3 h4 ot oa hd hj hj0 hj1 hj2 hz
      go_wp2_with fail
      refine wp_region_F (fun w' : World => (w'.cell? ⟨gb, 0, none⟩ = some (.slice (some ⟨bk, ok, none⟩) n2 a2) ∧ w'.cell? ⟨gb, 1, none⟩ = some (.slice (some ⟨bv, ov, none⟩) n2 b2)) ∧ w'.cell? ⟨bk, ok + n, none⟩ = some (.int .i64 y) ∧ w'.cell? ⟨bv, ov + n, none⟩ = some (.string ⟨s.toArray⟩)) 14 (by kernel_rfl) (sK.out _ B.drew) (fun hHeld => ?_)
      refine takeA (i := 0) (oi := { dst := some 40, op := .move (.tmp 7), type := _, pos := _, after := _, guard := none }) (v := ?_) rfl (Or.inl ⟨by rfl, ?_⟩) (by assumption) ?_
      rotate_left
      ·(intro w hSw; (try dsimp only at hSw); go_simp) <;> with_reducible rfl
      try simp only [Act.put, zT, z0, zS]
      refine takeA (i := 1) (oi := { dst := some 41, op := .fieldAddr 37 (.tmp 3) 0, type := _, pos := _, after := _, guard := none }) (v := ?_) rfl (Or.inl ⟨by rfl, ?_⟩) (by assumption) ?_
      rotate_left
      ·(intro w hSw; (try dsimp only at hSw); go_simp) <;> with_reducible rfl
      try simp only [Act.put, zT, z0, zS]
      refine takeA (i := 2) (oi := { dst := some 42, op := .load 24 (.tmp 41), type := _, pos := _, after := _, guard := none }) (v := ?_) rfl (Or.inl ⟨by rfl, ?_⟩) (by assumption) ?_
      rotate_left
      ·(intro w hSw; (try dsimp only at hSw); go_simp) <;> with_reducible rfl
      try simp only [Act.put, zT, z0, zS]
      refine takeA (i := 3) (oi := { dst := some 43, op := .move (.tmp 9), type := _, pos := _, after := _, guard := none }) (v := ?_) rfl (Or.inl ⟨by rfl, ?_⟩) (by assumption) ?_
      rotate_left
      ·(intro w hSw; (try dsimp only at hSw); go_simp) <;> with_reducible rfl
      try simp only [Act.put, zT, z0, zS]
      refine takeA (i := 4) (oi := { dst := some 44, op := .indexAddr 24 (.tmp 42) (.tmp 43), type := _, pos := _, after := _, guard := none }) (v := ?_) rfl (Or.inl ⟨by rfl, ?_⟩) (by assumption) ?_
      rotate_left
      ·(intro w hSw; (try dsimp only at hSw); go_simp) <;> with_reducible rfl
      try simp only [Act.put, zT, z0, zS]
      refine takeA (i := 5) (oi := { dst := some 45, op := .load 3 (.tmp 44), type := _, pos := _, after := _, guard := none }) (v := ?_) rfl (Or.inl ⟨by rfl, ?_⟩) (by assumption) ?_
      rotate_left
      ·(intro w hSw; (try dsimp only at hSw); go_simp) <;> with_reducible rfl
      try simp only [Act.put, zT, z0, zS]
      refine takeA (i := 6) (oi := { dst := some 46, op := .fieldAddr 37 (.tmp 3) 1, type := _, pos := _, after := _, guard := none }) (v := ?_) rfl (Or.inl ⟨by rfl, ?_⟩) (by assumption) ?_
      rotate_left
      ·(intro w hSw; (try dsimp only at hSw); go_simp) <;> with_reducible rfl
      try simp only [Act.put, zT, z0, zS]
      refine takeA (i := 7) (oi := { dst := some 47, op := .load 35 (.tmp 46), type := _, pos := _, after := _, guard := none }) (v := ?_) rfl (Or.inl ⟨by rfl, ?_⟩) (by assumption) ?_
      rotate_left
      ·(intro w hSw; (try dsimp only at hSw); go_simp) <;> with_reducible rfl
      try simp only [Act.put, zT, z0, zS]
      refine takeA (i := 8) (oi := { dst := some 48, op := .move (.tmp 9), type := _, pos := _, after := _, guard := none }) (v := ?_) rfl (Or.inl ⟨by rfl, ?_⟩) (by assumption) ?_
      rotate_left
      ·(intro w hSw; (try dsimp only at hSw); go_simp) <;> with_reducible rfl
      try simp only [Act.put, zT, z0, zS]
      refine takeA (i := 9) (oi := { dst := some 49, op := .indexAddr 35 (.tmp 47) (.tmp 48), type := _, pos := _, after := _, guard := none }) (v := ?_) rfl (Or.inl ⟨by rfl, ?_⟩) (by assumption) ?_
      rotate_left
      ·(intro w hSw; (try dsimp only at hSw); go_simp) <;> with_reducible rfl
      try simp only [Act.put, zT, z0, zS]
      refine takeA (i := 10) (oi := { dst := some 50, op := .load 9 (.tmp 49), type := _, pos := _, after := _, guard := none }) (v := ?_) rfl (Or.inl ⟨by rfl, ?_⟩) (by assumption) ?_
      rotate_left
      ·(intro w hSw; (try dsimp only at hSw); go_simp) <;> with_reducible rfl
      try simp only [Act.put, zT, z0, zS]
      refine takeA (i := 11) (oi := { dst := some 51, op := .build 46 #[(0, (.tmp 45)), (1, (.tmp 50))], type := _, pos := _, after := _, guard := none }) (v := ?_) rfl (Or.inl ⟨by rfl, ?_⟩) (by assumption) ?_
      rotate_left
      ·(intro w hSw; (try dsimp only at hSw); go_simp) <;> with_reducible rfl
      try simp only [Act.put, zT, z0, zS]
      refine wpAnyF_ready (rs := [12]) (by kernel_rfl) (by simp) ?_
      refine AllReadyF.cons (o := { dst := some 52, op := .buildSlice 23 1 #[(0, (.tmp 51))], type := _, pos := _, after := _, guard := none }) rfl (fun K hK => ?_) ?_
      ·skip
       go_simp
       go_wp2_with fail
       refine hK.out _ _ ?_ (fun hHeld => ?_)
       ·exact sK.out _ ((B.drew).alloc Bs _)
       clear hK K
       try simp only [Act.put, zT, z0, zS]
       refine wpAnyF_ready (rs := [13]) (by kernel_rfl) (by simp) ?_
       refine AllReadyF.cons (o := { dst := some 53, op := .call { callee := .builtin .append, args := #[(.tmp 40), (.tmp 52)], argTypes := #[23, 23] }, type := _, pos := _, after := _, guard := none }) rfl (fun K hK => ?_) ?_
       ·skip
        refine wp_append_run (.tmp 40) (.tmp 52) 23 rfl (.slice x1 x2 x3) (.slice (some ⟨wr.heap.size, 0, none⟩) 1 1) rfl rfl _ _ hr2 ?_
        refine hK.out _ _ ?_ (fun hHeld => ?_)
        ·exact sK.out _ B9.out
        clear hK K
        try simp only [Act.put, zT, z0, zS]
        refine wpAnyF_ready (rs := [14]) (by kernel_rfl) (by simp) ?_
        refine AllReadyF.last (o := { dst := some 7, op := .assign (.tmp 53), type := _, pos := _, after := _, guard := none }) rfl (fun K hK => ?_) ?_
        ·skip
         go_simp
         go_wp2_with fail
         refine hK.out _ _ ?_
         clear hK K
         try simp only [Act.put, zT, z0, zS]
         refine wpAnyF_done (by kernel_rfl) ?_ _
         go_wp2_with fail
         go_roundw
         case rel => exact ⟨n + 1, by omega, by go_num, ⟨_, _, _, rfl⟩, ⟨_, _, _, rfl⟩, hend.out.1, hend.out.2.1, hend.out.2.2, B9.out⟩
         case measure => simp [intOf]; omega
        exact AllReadyF.nil
       exact AllReadyF.nil
      exact AllReadyF.nil
    ·have hfull : ks.take n = ks := List.take_of_length_le (by rw [← hN1.out]; omega)
     rw [hfull] at ot oa
     have hend := Lib.hid (hr.out _ _ wr (OwnG.SL eE_len ot) (OwnG.SL eI_len oa) (toV.out _ B))
     have i1 : ¬ (n : Int) < (n2 : Int) := by omega
     clear hfull ot oa hd B hka hva
     go_wp2_with fail
     go_ret3
     exact hend.out
end Go.Proofs.YtegahpfmkepfmaaDoor
namespace Go.Proofs.YtegahpfmkepfmaaDoor
open Go.RowKit
theorem RowK.belowB {α : Type} {enc : α → List Value} {t : TypeId} {B0 : Nat} {w w' : World} {g n : Nat} {v : Value} {l : List α} (h : RowK enc t B0 w g v l) (B : Below n w w') (hg : g < n) : RowK enc t B0 w' g v l := by
 refine ⟨h.1, Nat.lt_of_lt_of_le h.2.1 B.size, ?_, h.2.2.2⟩
 have h3 := h.2.2.1
 unfold OwnG at h3 ⊢
 refine ⟨h3.1, ?_⟩
 rcases h3.2 with h5 | ⟨g', cap, cur, h4, h5, h6, h7⟩
 ·exact .inl h5
 ·have e : g' = g := h.2.2.2 g' (by rw [h4]; rfl)
  subst e
  exact .inr ⟨g', cap, cur, h4, h5, (B.block g' hg).trans h6, h7⟩
def okc (ks : List Int) (e : Ent) : Bool := ks.any (isI e.1) && !tlE e
theorem updB_eq (root : Str) (ks : List Int) (vs ps : List Str) (ch : List Ent) : updB root ks vs ps ch = (shownB root ks vs ps && (ch.all (okc ks) && ascB (-1) (ch.map Prod.fst))) := by
 have h : ch.all (okc ks) = (amongB ch ks && !(ch.any tlE)) := by
  unfold amongB
  induction ch with
  | nil => rfl
  | cons e t ih =>
   simp only [List.all_cons, List.any_cons, ih, okc]
   cases ks.any (isI e.1) <;> cases tlE e <;> cases (t.all fun c => ks.any (isI c.1)) <;> cases t.any tlE <;> rfl
 unfold updB chgB
 rw [h]
 cases shownB root ks vs ps <;> cases amongB ch ks <;> cases ch.any tlE <;> cases ascB (-1) (ch.map Prod.fst) <;> rfl
theorem all_snocK {α : Type} (p : α → Bool) (l : List α) (i : Nat) (h : i < l.length) : (l.take (i + 1)).all p = ((l.take i).all p && p l[i]) := by
 rw [List.take_succ_eq_append_getElem h, List.all_append]; simp
theorem all_of_not {α : Type} (p : α → Bool) (l : List α) (i : Nat) (h : i < l.length) (hp : p l[i] = false) : l.all p = false := by
 rw [List.all_eq_false]; exact ⟨l[i], List.getElem_mem h, by rw [hp]; simp⟩
set_option linter.unusedSimpArgs false in
set_option maxRecDepth 100000 in
set_option maxHeartbeats 8000000 in
theorem UpdateR_any (root : Str) (vo vc : Value) (ks : List Int) (vs ps : List Str) (ch : List Ent) (w : World) {W0 : World} (hW : W0 = w) (hv : OpV W0 vo ks vs ps) (hch : SE W0 vc ch) (hk : ks.length ≤ 100000) (hKI : ∀ x ∈ ks, I64 x) (hvl : vs.length ≤ 9223372036854775807) (hpl : ps.length ≤ 9223372036854775807) (hcl : ch.length ≤ 1000) (hCI : ∀ e ∈ ch, I64 e.1) :
  Calls Tryd.prog 28 #[.string ⟨root.toArray⟩, vo, vc] w (UpdPost root ks vs ps ch w) := by
 subst hW
 have cF := Lib.hid (show ∀ W, Below W0.heap.size W0 W → _ from fun W B => FormedR_any vo ks vs ps W (hv.below B) rfl hk hKI hvl hpl)
 have cS := Lib.hid (show formB ks vs ps = true → ∀ W, Below W0.heap.size W0 W → _ from fun hf W B => Stands_any vo ks vs ps W (hv.below B) rfl hf)
 obtain ⟨a, b, c, rfl, ha, hb, hc⟩ := hv
 have hka := Lib.hid (show ∀ (k : Nat) (hk : k < ks.length), _ from fun k hk => SI.at ha k hk)
 have hca := Lib.hid (show ∀ (k : Nat) (hk : k < ch.length), _ from fun k hk => SE.at hch k hk)
 have fa := Lib.hid (fun W (B : Below W0.heap.size W0 W) => ha.below B)
 have fb := Lib.hid (fun W (B : Below W0.heap.size W0 W) => hb.below B)
 have fc := Lib.hid (fun W (B : Below W0.heap.size W0 W) => hc.below B)
 obtain ⟨a1, n1, a2, rfl, hN1⟩ := ha.shape'
 obtain ⟨b1, n2, b2, rfl, hN2⟩ := hb.shape'
 obtain ⟨c1, n3, c2, rfl, hN3⟩ := hc.shape'
 obtain ⟨d1, nC, d2, rfl, hNC⟩ := hch.shape'
 have hkh := Lib.hid hk
 have hCIh := Lib.hid hCI
 rw [← hNC.out] at hcl
 have hUB := Lib.hid (updB_eq root ks vs ps ch)
 have hbad := Lib.hid (show updB root ks vs ps ch = false → ∀ W, Below W0.heap.size W0 W → UpdPost root ks vs ps ch W0 (.returned (.tuple #[.string ⟨([] : Str).toArray⟩, .bool false])) W from fun h W B => ⟨by unfold updS; rw [h]; rfl, B⟩)
 have hgood := Lib.hid (show updB root ks vs ps ch = true → ∀ W, Below W0.heap.size W0 W → UpdPost root ks vs ps ch W0 (.returned (.tuple #[.string ⟨(standS ks ps (putV (shownV ks vs) ch)).toArray⟩, .bool true])) W from fun h W B => ⟨by unfold updS; rw [h]; rfl, B⟩)
 have hsB : Hid (shownB root ks vs ps = (formB ks vs ps && (standS ks ps (shownV ks vs) == root))) := rfl
 have hff := Lib.hid (formB_facts ks vs ps)
 obtain ⟨Q, hQ⟩ : ∃ Q, Hid (Q = UpdPost root ks vs ps ch W0) := ⟨_, Lib.hid (Eq.refl _)⟩
 rw [← hQ.out] at hbad hgood ⊢
 clear ha hb hc hch hk hKI hvl hpl hCI hQ
 go_enter Tryd.func28, Tryd.ntmps28
 go_upto_region 1 with (fail)
 obtain ⟨wo, hwo⟩ : ∃ w, w = W0.alloc (.cells #[.slice a1 n1 a2, .slice b1 n2 b2, .slice c1 n3 c2] 37) := ⟨_, rfl⟩
 rw [← hwo]
 obtain ⟨bo, zo, co⟩ := box_world W0 wo _ _ _ 37 hwo
 have co := Lib.hid co
 clear hwo zo
 have toW := Lib.hid (show ∀ W, Below wo.heap.size wo W → Below W0.heap.size W0 W from fun W B => bo.trans (B.mono bo.size))
 obtain ⟨gb, hgb⟩ : ∃ g, W0.heap.size = g := ⟨_, rfl⟩
 have co : Hid (∀ W, Below wo.heap.size wo W → W.cell? ⟨gb, 0, none⟩ = some (.slice a1 n1 a2) ∧ W.cell? ⟨gb, 1, none⟩ = some (.slice b1 n2 b2) ∧ W.cell? ⟨gb, 2, none⟩ = some (.slice c1 n3 c2)) := by rw [← hgb]; exact co
 have hgbh := Lib.hid hgb
 clear hgb
 rw [hgbh.out]
 clear bo
 obtain ⟨g0, g1, g2⟩ := co.out wo (Below.refl _ _)
 cases hf : formB ks vs ps with
 | false =>
  rw [hf] at cF hsB
  have hr := Lib.hid (hbad.out (by rw [hUB.out, hsB.out]; rfl))
  clear hf cS hff hsB hbad hgood hUB
  go_wp2_with fail
  refine (cF.out _ (toW.out _ (Below.refl _ _))).mono ?_
  rintro e w1 ⟨rfl, bb1⟩
  have B1 := Lib.hid (hr.out _ ((toW.out _ (Below.refl _ _)).trans (bb1.mono (toW.out _ (Below.refl _ _)).size)))
  clear g0 g1 g2 bb1
  go_wp2_with fail
  exact B1.out
 | true =>
  obtain ⟨f1, f2, f3, f4, f5⟩ := hff.out hf
  have cS := Lib.hid (cS.out hf)
  rw [hf] at cF hsB
  have hkl := ascB_len ks (-1) (by omega) (by omega) f1
  have hn12 : n2 = n1 := by rw [hN2.out, hN1.out]; exact f2
  subst hn12
  have hn64 : n2 ≤ 64 := by rw [hN1.out]; omega
  have hb0 := Lib.hid (toW.out _ (Below.refl _ _))
  have f2h := Lib.hid f2
  have f1h := Lib.hid f1
  have hfh := Lib.hid hf
  by_cases hst : standS ks ps (shownV ks vs) = root
  rotate_left
  ·have hr := Lib.hid (hbad.out (by rw [hUB.out, hsB.out, Bool.true_and, beq_eq_false_iff_ne.2 hst]; rfl))
   have t1 : (standS ks ps (shownV ks vs) == root) = false := beq_eq_false_iff_ne.2 hst
   have t2 : (standS ks ps (shownV ks vs) != root) = true := bne_iff_ne.2 hst
   generalize standS ks ps (shownV ks vs) = D at *
   clear hf hff hsB hbad hgood hst f1 f2 f3 f4 f5 hUB
   go_wp2_with fail
   refine (cF.out _ hb0.out).mono ?_
   rintro e w1 ⟨rfl, bb1⟩
   have B1 := hb0.out.trans (bb1.mono hb0.out.size)
   clear g0 g1 g2
   obtain ⟨g0, g1, g2⟩ := co.out w1 bb1
   go_wp2_with fail
   refine (cS.out _ B1).mono ?_
   rintro e w2 ⟨rfl, bb2⟩
   have B2 := Lib.hid (hr.out _ (B1.trans (bb2.mono B1.size)))
   clear g0 g1 g2 bb2
   go_wp2_with fail
   exact B2.out
  ·have hUB : Hid (updB root ks vs ps ch = (ch.all (okc ks) && ascB (-1) (ch.map Prod.fst))) := by show _ = _; rw [hUB.out, hsB.out, Bool.true_and, beq_iff_eq.2 hst, Bool.true_and]
   have hbad2 := Lib.hid (show ∀ i (h : i < ch.length), okc ks ch[i] = false → ∀ W, Below W0.heap.size W0 W → Q (.returned (.tuple #[.string ⟨([] : Str).toArray⟩, .bool false])) W from fun i h ho => hbad.out (by rw [hUB.out, all_of_not _ _ i h ho]; rfl))
   have t1 : (root == root) = true := by rw [beq_iff_eq]
   rw [hst] at cS
   clear hf hff hsB hst f1 f3 f4 f5 f2
   go_wp2_with fail
   refine (cF.out _ hb0.out).mono ?_
   rintro e w1 ⟨rfl, bb1⟩
   have B1 := hb0.out.trans (bb1.mono hb0.out.size)
   clear g0 g1 g2
   obtain ⟨g0, g1, g2⟩ := co.out w1 bb1
   go_wp2_with fail
   refine (cS.out _ B1).mono ?_
   rintro e w2 ⟨rfl, bb2⟩
   have b2w := bb1.trans (bb2.mono bb1.size)
   clear g0 g1 g2
   obtain ⟨g0, g1, g2⟩ := co.out w2 b2w
   go_upto_region 4 with (fail)
   obtain ⟨w3, hw3⟩ : ∃ W, W = w2.alloc (.cells #[.slice a1 n2 a2, .slice b1 n2 b2, .slice c1 n3 c2] 37) := ⟨_, rfl⟩
   rw [← hw3]
   have B3 : Below w2.heap.size w2 w3 := by rw [hw3]; exact (Below.refl _ _).alloc (Nat.le_refl _) _
   have hb8 : Box3 w2.heap.size w3 w2.heap.size (.slice a1 n2 a2) (.slice b1 n2 b2) (.slice c1 n3 c2) := by rw [hw3]; exact Box3.new (Nat.le_refl _) _ _ _
   clear hw3
   obtain ⟨g8, hg8⟩ : ∃ g, w2.heap.size = g := ⟨_, rfl⟩
   rw [hg8] at hb8 ⊢
   have hl0 : Lit 9 w2.heap.size (w3.alloc (.cells #[] 9)) w3.heap.size := Lit.new B3.size
   have B4 : Below w2.heap.size w2 (w3.alloc (.cells #[] 9)) := B3.alloc B3.size _
   obtain ⟨v', w5, gV, ⟨p1, p2, p3, rfl⟩, hr5, hq5, B5, F5, hg5⟩ := app_litS (w3.alloc (.cells #[] 9)) w2.heap.size w3.heap.size hl0 (.slice b1 n2 b2) vs (fb.out _ ((toW.out _ b2w).trans (B4.mono (toW.out _ b2w).size))) (by have := hN2.out; omega) B4.size
   have hb5 := (hb8.keep (Frm.alloc w3 (.cells #[] 9)) (by have := hb8.2.1; omega)).keep F5 (by have := hb8.2.1; omega)
   have hgV8 : gV ≠ g8 := by have := hb8.2.1; have hs : (w3.alloc (.cells #[] 9)).heap.size = w3.heap.size + 1 := (by simp); omega
   have hp2 : n2 = p2 := by
    obtain ⟨_, _, e⟩ := (OwnG.SL eS_len hq5.2.2.1).shape
    injection e with _ e _; rw [e, ← hN2.out]
   subst hp2
   have fA5 := free_of_block (i := 1) hb5.2.2
   have cA5 : w5.cell? ⟨g8, 1, none⟩ = some (.slice b1 n2 b2) := cell_of_row _ _ 1 _ 37 (0, 0) hb5.2.2
   have g1x := (co.out (w3.alloc (.cells #[] 9)) (b2w.trans (B4.mono b2w.size))).2.1
   go_wp2_with (at_builtin; refine wpList_append_runB rfl (.tmp 23) (.tmp 25) 35 rfl (.slice (some ⟨w3.heap.size, 0, none⟩) 0 0) (.slice b1 n2 b2) rfl rfl _ _ hr5 ?_)
   have bA := set_field (i := 1) (v := (.slice p1 n2 p3 : Value)) hb5.2.2
   have rV := hq5.keep (Frm.setCell w5 g8 1 (.slice p1 n2 p3)) hgV8
   have B9 : Below w2.heap.size w2 (w5.setCell ⟨g8, 1, none⟩ (.slice p1 n2 p3)) := (B4.trans B5).setCell (by have := Nat.le_of_eq hg8; simpa using this) _
   have s8 : g8 < (w5.setCell ⟨g8, 1, none⟩ (.slice p1 n2 p3)).heap.size := Nat.lt_of_lt_of_le hb5.2.1 (Frm.setCell w5 g8 1 (.slice p1 n2 p3)).1
   have h82 : w2.heap.size ≤ g8 := Nat.le_of_eq hg8
   obtain ⟨w9, hw9⟩ : ∃ W, W = w5.setCell ⟨g8, 1, none⟩ (.slice p1 n2 p3) := ⟨_, rfl⟩
   rw [← hw9] at bA rV B9 s8 ⊢
   have toV := Lib.hid (show ∀ W, Below w2.heap.size w2 W → Below W0.heap.size W0 W from fun W B => toW.out W (b2w.trans (B.mono b2w.size)))
   have cE := Lib.hid (show ∀ W, Below w2.heap.size w2 W → _ from fun W B => co.out W (b2w.trans (B.mono b2w.size)))
   have rVs := rV.2.1
   have rVb := rV.1
   have hgV8h := Lib.hid hgV8
   have bA' : w9.heap[g8]? = some (.cells #[.slice a1 n2 a2, .slice p1 n2 p3, .slice c1 n3 c2] 37 (0, 0)) := bA
   clear hw9 hr5 hq5 B5 F5 hg5 hb5 hgV8 fA5 cA5 g1x hl0 B4 hb8 B3 bb2 bb1 B1 g0 g1 g2 b2w cF hg8 bA
   go_loopw [9, 10] (fun kv iv wr => ∃ i : Nat, i ≤ nC ∧ iv = .int .i64 i ∧ (∃ x1 x2 x3, kv = .slice x1 x2 x3) ∧ OI wr w9.heap.size kv ((ch.take i).map Prod.fst) ∧ RowK eS 9 w2.heap.size wr gV (.slice p1 n2 p3) (upsV ks vs (ch.take i)) ∧ wr.heap[g8]? = some (.cells #[.slice a1 n2 a2, .slice p1 n2 p3, .slice c1 n3 c2] 37 (0, 0)) ∧ Below w2.heap.size w2 wr ∧ w9.heap.size ≤ wr.heap.size ∧ Hid ((ch.take i).all (okc ks) = true)) (fun _ iv _ => nC - (intOf iv).toNat)
   case atStart => exact ⟨0, by omega, rfl, ⟨_, _, _, rfl⟩, OwnG.nil _ _, rV, bA', B9, Nat.le_refl _, rfl⟩
   case round =>
    clear bA' rV B9
    obtain ⟨i, hi, rfl, ⟨x1, x2, x3, rfl⟩, ok, rV, bA, B, sz, hall⟩ := hrel
    by_cases hlt : i < nC
    ·have hil : i < ch.length := by rw [← hNC.out]; exact hlt
     obtain ⟨bc, oc, cc, he, hcell⟩ := hca.out i hil
     injection he with he1 he2 he3
     subst he1
     clear he2 he3
     have hcellh := Lib.hid hcell
     have hbi := Lib.hid (hbad2.out i hil)
     have hsn := Lib.hid (all_snocK (okc ks) ch i hil)
     have hup := Lib.hid (upsV_snoc ks vs ch i hil)
     have hmp : Hid ((ch.take (i + 1)).map Prod.fst = (ch.take i).map Prod.fst ++ [ch[i].1]) := by
      show _ = _
      rw [List.take_succ_eq_append_getElem hil, List.map_append]; rfl
     have hkln : ((ch.take i).map Prod.fst).length ≤ 1000 := by rw [List.length_map]; have := List.length_take_le i ch; omega
     have hVl : (upsV ks vs (ch.take i)).length = ks.length := upsV_len ks _ vs f2h.out
     clear hcell
     have hee : Hid (okc ks ch[i] = (ks.any (isI ch[i].1) && !tlE ch[i])) := rfl
     have het : Hid (tlE ch[i] = decide (65536 < ch[i].2.length)) := rfl
     generalize ch[i] = ee at *
     obtain ⟨ek, es⟩ := ee
     dsimp only at hcellh hmp hee het
     obtain ⟨VC, hVC⟩ : ∃ V, Hid (V = upsV ks vs (ch.take i)) := ⟨_, Lib.hid (Eq.refl _)⟩
     rw [← hVC.out] at rV hVl hup
     obtain ⟨KL, hKL⟩ : ∃ V, Hid (V = (ch.take i).map Prod.fst) := ⟨_, Lib.hid (Eq.refl _)⟩
     rw [← hKL.out] at ok hmp hkln
     have hVlh := Lib.hid hVl
     clear hVC hKL hVl
     have i0 : (0 : Int) ≤ (i : Int) := by omega
     have i1 : (i : Int) < (nC : Int) := by omega
     go_wp2_with fail
     go_loopw [11, 12] (fun tv nv wr => ∃ (n : Nat) (r : Bool), n ≤ n2 ∧ nv = .int .i64 n ∧ tv = .bool r ∧ Hid (r = (ks.take n).any (isI ek)) ∧ RowK eS 9 w2.heap.size wr gV (.slice p1 n2 p3) (upN ks VC (ek, es) n) ∧ wr.heap[g8]? = some (.cells #[.slice a1 n2 a2, .slice p1 n2 p3, .slice c1 n3 c2] 37 (0, 0)) ∧ OI wr w9.heap.size (.slice x1 x2 x3) KL ∧ Below w2.heap.size w2 wr ∧ w9.heap.size ≤ wr.heap.size) (fun _ nv _ => n2 - (intOf nv).toNat)
     case atStart => exact ⟨0, false, by omega, rfl, rfl, rfl, rV, bA, ok, B, sz⟩
     case round =>
      clear rV bA ok B sz
      obtain ⟨n, r, hn, rfl, rfl, hr, rV, bA, ok, B, sz⟩ := hrel
      by_cases hln : n < n2
      ·have hnk : n < ks.length := by rw [← hN1.out]; exact hln
       obtain ⟨bk, okk, ck, he, hkc⟩ := hka.out n hnk
       injection he with he1 he2 he3
       subst he1
       clear he2 he3
       have hst := Lib.hid (upN_step ks VC (ek, es) n hVlh.out hnk)
       have hlnN := upN_len ks VC (ek, es) n hVlh.out (by omega)
       have hany : Hid ((ks.take (n + 1)).any (isI ek) = ((ks.take n).any (isI ek) || isI ek ks[n])) := by
        show _ = _
        rw [List.take_succ_eq_append_getElem hnk, List.any_append]; simp
       have hkch := Lib.hid hkc
       clear hkc
       generalize ks[n] = y at *
       obtain ⟨g0, _, _⟩ := cE.out wr B
       have j0 : (0 : Int) ≤ (n : Int) := by omega
       have j1 : (n : Int) < (n2 : Int) := by omega
       have hS13 := Lib.hid (show wr.drew.cell? ⟨gb, 0, none⟩ = some (.slice (some ⟨bk, okk, none⟩) n2 a2) ∧ wr.drew.cell? ⟨bk, okk + n, none⟩ = some (.int .i64 y) ∧ wr.drew.cell? ⟨bc, oc + i * 2, none⟩ = some (.int .i64 ek) from ⟨g0, hkch.out _ (toV.out _ B.drew), (hcellh.out _ (toV.out _ B.drew)).1⟩)
       by_cases hyk : y = ek
       ·obtain ⟨hx1, hxq, hxc⟩ := RowK.openS rV (by rw [hlnN]; omega)
        subst hx1
        clear hxq
        subst hyk
        have t3 : (y == y) = true := by rw [beq_iff_eq]
        have hnew : Hid (true = (ks.take (n + 1)).any (isI y)) := by show _ = _; rw [hany.out]; simp [isI]
        have rd := rV.keep (Frm.of_below ((Below.refl wr.heap.size wr).drew.drew)) (by have := rV.2.1; omega)
        obtain ⟨cd, fd⟩ := rd.cellS n (by rw [hlnN]; exact hnk)
        have r9 := rd.setS n (by rw [hlnN]; exact hnk) es
        rw [if_pos rfl] at hst
        rw [← hst.out] at r9
        have hS0 := Lib.hid (show wr.drew.drew.cell? ⟨g8, 1, none⟩ = some (.slice (some ⟨gV, 0, none⟩) n2 p3) ∧ wr.drew.drew.cell? ⟨bc, oc + i * 2 + 1, none⟩ = some (.string ⟨es.toArray⟩) from ⟨cell_of_row _ _ 1 _ 37 (0, 0) bA, (hcellh.out _ (toV.out _ B.drew.drew)).2⟩)
        have hend := Lib.hid (show RowK eS 9 w2.heap.size (wr.drew.drew.setCell ⟨gV, n, none⟩ (.string ⟨es.toArray⟩)) gV (.slice (some ⟨gV, 0, none⟩) n2 p3) (upN ks VC (y, es) (n + 1)) ∧ (wr.drew.drew.setCell ⟨gV, n, none⟩ (.string ⟨es.toArray⟩)).heap[g8]? = some (.cells #[.slice (some ⟨bk, okk, none⟩) n2 a2, .slice (some ⟨gV, 0, none⟩) n2 p3, .slice c1 n3 c2] 37 (0, 0)) ∧ OI (wr.drew.drew.setCell ⟨gV, n, none⟩ (.string ⟨es.toArray⟩)) w9.heap.size (.slice x1 x2 x3) KL ∧ Below w2.heap.size w2 (wr.drew.drew.setCell ⟨gV, n, none⟩ (.string ⟨es.toArray⟩)) ∧ w9.heap.size ≤ (wr.drew.drew.setCell ⟨gV, n, none⟩ (.string ⟨es.toArray⟩)).heap.size from
         ⟨r9, (heap_set_ne hgV8h.out).trans bA, OwnG.set (ok.below (Below.refl _ wr).drew.drew) rVs _ _, (B.drew.drew).setCell (by simpa using rVb) _, Nat.le_trans sz (Frm.setCell wr.drew.drew gV n (.string ⟨es.toArray⟩)).1⟩)
        clear hst hany hr rV bA ok r9 rd hkch
        go_wp2_with fail
        refine wp_region_held_drew (S := (fun w' : World => w'.cell? ⟨gb, 0, none⟩ = some (.slice (some ⟨bk, okk, none⟩) n2 a2) ∧ w'.cell? ⟨bk, okk + n, none⟩ = some (.int .i64 y) ∧ w'.cell? ⟨bc, oc + i * 2, none⟩ = some (.int .i64 y))) (by kernel_rfl) hS13.out (fun hHeld => ?_)
        refine takeH (i := 0) (oi := { dst := some 41, op := .fieldAddr 37 (.tmp 4) 0, type := _, pos := _, after := _, guard := none }) (v := ?_) rfl (Or.inl ⟨by rfl, ?_⟩) (by assumption) ?_
        rotate_left
        ·(intro w hSw; (try dsimp only at hSw); go_simp) <;> with_reducible rfl
        try simp only [Act.put, zT, z0, zS]
        refine takeH (i := 1) (oi := { dst := some 42, op := .load 24 (.tmp 41), type := _, pos := _, after := _, guard := none }) (v := ?_) rfl (Or.inl ⟨by rfl, ?_⟩) (by assumption) ?_
        rotate_left
        ·(intro w hSw; (try dsimp only at hSw); go_simp) <;> with_reducible rfl
        try simp only [Act.put, zT, z0, zS]
        refine takeH (i := 2) (oi := { dst := some 43, op := .move (.tmp 12), type := _, pos := _, after := _, guard := none }) (v := ?_) rfl (Or.inl ⟨by rfl, ?_⟩) (by assumption) ?_
        rotate_left
        ·(intro w hSw; (try dsimp only at hSw); go_simp) <;> with_reducible rfl
        try simp only [Act.put, zT, z0, zS]
        refine takeH (i := 3) (oi := { dst := some 44, op := .indexAddr 24 (.tmp 42) (.tmp 43), type := _, pos := _, after := _, guard := none }) (v := ?_) rfl (Or.inl ⟨by rfl, ?_⟩) (by assumption) ?_
        rotate_left
        ·(intro w hSw; (try dsimp only at hSw); go_simp) <;> with_reducible rfl
        try simp only [Act.put, zT, z0, zS]
        refine takeH (i := 4) (oi := { dst := some 45, op := .load 3 (.tmp 44), type := _, pos := _, after := _, guard := none }) (v := ?_) rfl (Or.inl ⟨by rfl, ?_⟩) (by assumption) ?_
        rotate_left
        ·(intro w hSw; (try dsimp only at hSw); go_simp) <;> with_reducible rfl
        try simp only [Act.put, zT, z0, zS]
        refine takeH (i := 5) (oi := { dst := some 46, op := .move (.tmp 2), type := _, pos := _, after := _, guard := none }) (v := ?_) rfl (Or.inl ⟨by rfl, ?_⟩) (by assumption) ?_
        rotate_left
        ·(intro w hSw; (try dsimp only at hSw); go_simp) <;> with_reducible rfl
        try simp only [Act.put, zT, z0, zS]
        refine takeH (i := 6) (oi := { dst := some 47, op := .move (.tmp 10), type := _, pos := _, after := _, guard := none }) (v := ?_) rfl (Or.inl ⟨by rfl, ?_⟩) (by assumption) ?_
        rotate_left
        ·(intro w hSw; (try dsimp only at hSw); go_simp) <;> with_reducible rfl
        try simp only [Act.put, zT, z0, zS]
        refine takeH (i := 7) (oi := { dst := some 48, op := .indexAddr 23 (.tmp 46) (.tmp 47), type := _, pos := _, after := _, guard := none }) (v := ?_) rfl (Or.inl ⟨by rfl, ?_⟩) (by assumption) ?_
        rotate_left
        ·(intro w hSw; (try dsimp only at hSw); go_simp) <;> with_reducible rfl
        try simp only [Act.put, zT, z0, zS]
        refine takeH (i := 8) (oi := { dst := some 49, op := .fieldAddr 46 (.tmp 48) 0, type := _, pos := _, after := _, guard := none }) (v := ?_) rfl (Or.inl ⟨by rfl, ?_⟩) (by assumption) ?_
        rotate_left
        ·(intro w hSw; (try dsimp only at hSw); go_simp) <;> with_reducible rfl
        try simp only [Act.put, zT, z0, zS]
        refine takeH (i := 9) (oi := { dst := some 50, op := .load 3 (.tmp 49), type := _, pos := _, after := _, guard := none }) (v := ?_) rfl (Or.inl ⟨by rfl, ?_⟩) (by assumption) ?_
        rotate_left
        ·(intro w hSw; (try dsimp only at hSw); go_simp) <;> with_reducible rfl
        try simp only [Act.put, zT, z0, zS]
        refine takeH (i := 10) (oi := { dst := some 51, op := .binOp BinOp.eql 3 (.tmp 45) (.tmp 50) 3, type := _, pos := _, after := _, guard := none }) (v := ?_) rfl (Or.inl ⟨by rfl, ?_⟩) (by assumption) ?_
        rotate_left
        ·(intro w hSw; (try dsimp only at hSw); go_simp) <;> with_reducible rfl
        try simp only [Act.put, zT, z0, zS]
        refine wpAnyH_done (by kernel_rfl) ?_ _
        go_wp2_with fail
        refine wp_region_F (fun w' : World => w'.cell? ⟨g8, 1, none⟩ = some (.slice (some ⟨gV, 0, none⟩) n2 p3) ∧ w'.cell? ⟨bc, oc + i * 2 + 1, none⟩ = some (.string ⟨es.toArray⟩)) 9 (by kernel_rfl) hS0.out (fun hHeld => ?_)
        refine takeA (i := 0) (oi := { dst := some 52, op := .fieldAddr 37 (.tmp 8) 1, type := _, pos := _, after := _, guard := none }) (v := ?_) rfl (Or.inl ⟨by rfl, ?_⟩) (by assumption) ?_
        rotate_left
        ·(intro w hSw; (try dsimp only at hSw); go_simp) <;> with_reducible rfl
        try simp only [Act.put, zT, z0, zS]
        refine takeA (i := 1) (oi := { dst := some 53, op := .load 35 (.tmp 52), type := _, pos := _, after := _, guard := none }) (v := ?_) rfl (Or.inl ⟨by rfl, ?_⟩) (by assumption) ?_
        rotate_left
        ·(intro w hSw; (try dsimp only at hSw); go_simp) <;> with_reducible rfl
        try simp only [Act.put, zT, z0, zS]
        refine takeA (i := 2) (oi := { dst := some 54, op := .move (.tmp 12), type := _, pos := _, after := _, guard := none }) (v := ?_) rfl (Or.inl ⟨by rfl, ?_⟩) (by assumption) ?_
        rotate_left
        ·(intro w hSw; (try dsimp only at hSw); go_simp) <;> with_reducible rfl
        try simp only [Act.put, zT, z0, zS]
        refine takeA (i := 3) (oi := { dst := some 55, op := .move (.tmp 2), type := _, pos := _, after := _, guard := none }) (v := ?_) rfl (Or.inl ⟨by rfl, ?_⟩) (by assumption) ?_
        rotate_left
        ·(intro w hSw; (try dsimp only at hSw); go_simp) <;> with_reducible rfl
        try simp only [Act.put, zT, z0, zS]
        refine takeA (i := 4) (oi := { dst := some 56, op := .move (.tmp 10), type := _, pos := _, after := _, guard := none }) (v := ?_) rfl (Or.inl ⟨by rfl, ?_⟩) (by assumption) ?_
        rotate_left
        ·(intro w hSw; (try dsimp only at hSw); go_simp) <;> with_reducible rfl
        try simp only [Act.put, zT, z0, zS]
        refine takeA (i := 5) (oi := { dst := some 57, op := .indexAddr 23 (.tmp 55) (.tmp 56), type := _, pos := _, after := _, guard := none }) (v := ?_) rfl (Or.inl ⟨by rfl, ?_⟩) (by assumption) ?_
        rotate_left
        ·(intro w hSw; (try dsimp only at hSw); go_simp) <;> with_reducible rfl
        try simp only [Act.put, zT, z0, zS]
        refine takeA (i := 6) (oi := { dst := some 58, op := .fieldAddr 46 (.tmp 57) 1, type := _, pos := _, after := _, guard := none }) (v := ?_) rfl (Or.inl ⟨by rfl, ?_⟩) (by assumption) ?_
        rotate_left
        ·(intro w hSw; (try dsimp only at hSw); go_simp) <;> with_reducible rfl
        try simp only [Act.put, zT, z0, zS]
        refine takeA (i := 7) (oi := { dst := some 59, op := .load 9 (.tmp 58), type := _, pos := _, after := _, guard := none }) (v := ?_) rfl (Or.inl ⟨by rfl, ?_⟩) (by assumption) ?_
        rotate_left
        ·(intro w hSw; (try dsimp only at hSw); go_simp) <;> with_reducible rfl
        try simp only [Act.put, zT, z0, zS]
        refine takeA (i := 8) (oi := { dst := some 60, op := .indexAddr 35 (.tmp 53) (.tmp 54), type := _, pos := _, after := _, guard := none }) (v := ?_) rfl (Or.inl ⟨by rfl, ?_⟩) (by assumption) ?_
        rotate_left
        ·(intro w hSw; (try dsimp only at hSw); go_simp) <;> with_reducible rfl
        try simp only [Act.put, zT, z0, zS]
        refine wpAnyF_ready (rs := [9]) (by kernel_rfl) (by simp) ?_
        refine AllReadyF.last (o := { dst := none, op := .store 9 (.tmp 60) (.tmp 59), type := _, pos := _, after := _, guard := none }) rfl (fun K hK => ?_) ?_
        ·skip
         go_simp
         go_wp2_with fail
         refine hK.out _ _ ?_
         clear hK K
         try simp only [Act.put, zT, z0, zS]
         refine wpAnyF_done (by kernel_rfl) ?_ _
         go_wp2_with fail
         go_roundw
         case rel => exact ⟨n + 1, true, by omega, by go_num, rfl, hnew, hend.out⟩
         case measure => simp [intOf]; omega
        exact AllReadyF.nil
       ·have hyk2 : (y == ek) = false := by rw [beq_eq_false_iff_ne]; exact hyk
        have hnew : Hid (r = (ks.take (n + 1)).any (isI ek)) := by show _ = _; rw [hany.out, ← hr.out]; simp only [isI]; rw [beq_eq_false_iff_ne.2 (Ne.symm hyk), Bool.or_false]
        rw [if_neg hyk] at hst
        have hend := Lib.hid (show RowK eS 9 w2.heap.size wr.drew gV (.slice p1 n2 p3) (upN ks VC (ek, es) (n + 1)) ∧ wr.drew.heap[g8]? = some (.cells #[.slice (some ⟨bk, okk, none⟩) n2 a2, .slice p1 n2 p3, .slice c1 n3 c2] 37 (0, 0)) ∧ OI wr.drew w9.heap.size (.slice x1 x2 x3) KL ∧ Below w2.heap.size w2 wr.drew ∧ w9.heap.size ≤ wr.drew.heap.size from
         ⟨by rw [hst.out]; exact rV.keep (Frm.of_below (Below.refl wr.heap.size wr).drew) (by have := rV.2.1; omega), bA, ok.below (Below.refl _ wr).drew, B.drew, sz⟩)
        clear hst hany hr rV bA ok hkch hyk
        go_wp2_with fail
        refine wp_region_held_drew (S := (fun w' : World => w'.cell? ⟨gb, 0, none⟩ = some (.slice (some ⟨bk, okk, none⟩) n2 a2) ∧ w'.cell? ⟨bk, okk + n, none⟩ = some (.int .i64 y) ∧ w'.cell? ⟨bc, oc + i * 2, none⟩ = some (.int .i64 ek))) (by kernel_rfl) hS13.out (fun hHeld => ?_)
        refine takeH (i := 0) (oi := { dst := some 41, op := .fieldAddr 37 (.tmp 4) 0, type := _, pos := _, after := _, guard := none }) (v := ?_) rfl (Or.inl ⟨by rfl, ?_⟩) (by assumption) ?_
        rotate_left
        ·(intro w hSw; (try dsimp only at hSw); go_simp) <;> with_reducible rfl
        try simp only [Act.put, zT, z0, zS]
        refine takeH (i := 1) (oi := { dst := some 42, op := .load 24 (.tmp 41), type := _, pos := _, after := _, guard := none }) (v := ?_) rfl (Or.inl ⟨by rfl, ?_⟩) (by assumption) ?_
        rotate_left
        ·(intro w hSw; (try dsimp only at hSw); go_simp) <;> with_reducible rfl
        try simp only [Act.put, zT, z0, zS]
        refine takeH (i := 2) (oi := { dst := some 43, op := .move (.tmp 12), type := _, pos := _, after := _, guard := none }) (v := ?_) rfl (Or.inl ⟨by rfl, ?_⟩) (by assumption) ?_
        rotate_left
        ·(intro w hSw; (try dsimp only at hSw); go_simp) <;> with_reducible rfl
        try simp only [Act.put, zT, z0, zS]
        refine takeH (i := 3) (oi := { dst := some 44, op := .indexAddr 24 (.tmp 42) (.tmp 43), type := _, pos := _, after := _, guard := none }) (v := ?_) rfl (Or.inl ⟨by rfl, ?_⟩) (by assumption) ?_
        rotate_left
        ·(intro w hSw; (try dsimp only at hSw); go_simp) <;> with_reducible rfl
        try simp only [Act.put, zT, z0, zS]
        refine takeH (i := 4) (oi := { dst := some 45, op := .load 3 (.tmp 44), type := _, pos := _, after := _, guard := none }) (v := ?_) rfl (Or.inl ⟨by rfl, ?_⟩) (by assumption) ?_
        rotate_left
        ·(intro w hSw; (try dsimp only at hSw); go_simp) <;> with_reducible rfl
        try simp only [Act.put, zT, z0, zS]
        refine takeH (i := 5) (oi := { dst := some 46, op := .move (.tmp 2), type := _, pos := _, after := _, guard := none }) (v := ?_) rfl (Or.inl ⟨by rfl, ?_⟩) (by assumption) ?_
        rotate_left
        ·(intro w hSw; (try dsimp only at hSw); go_simp) <;> with_reducible rfl
        try simp only [Act.put, zT, z0, zS]
        refine takeH (i := 6) (oi := { dst := some 47, op := .move (.tmp 10), type := _, pos := _, after := _, guard := none }) (v := ?_) rfl (Or.inl ⟨by rfl, ?_⟩) (by assumption) ?_
        rotate_left
        ·(intro w hSw; (try dsimp only at hSw); go_simp) <;> with_reducible rfl
        try simp only [Act.put, zT, z0, zS]
        refine takeH (i := 7) (oi := { dst := some 48, op := .indexAddr 23 (.tmp 46) (.tmp 47), type := _, pos := _, after := _, guard := none }) (v := ?_) rfl (Or.inl ⟨by rfl, ?_⟩) (by assumption) ?_
        rotate_left
        ·(intro w hSw; (try dsimp only at hSw); go_simp) <;> with_reducible rfl
        try simp only [Act.put, zT, z0, zS]
        refine takeH (i := 8) (oi := { dst := some 49, op := .fieldAddr 46 (.tmp 48) 0, type := _, pos := _, after := _, guard := none }) (v := ?_) rfl (Or.inl ⟨by rfl, ?_⟩) (by assumption) ?_
        rotate_left
        ·(intro w hSw; (try dsimp only at hSw); go_simp) <;> with_reducible rfl
        try simp only [Act.put, zT, z0, zS]
        refine takeH (i := 9) (oi := { dst := some 50, op := .load 3 (.tmp 49), type := _, pos := _, after := _, guard := none }) (v := ?_) rfl (Or.inl ⟨by rfl, ?_⟩) (by assumption) ?_
        rotate_left
        ·(intro w hSw; (try dsimp only at hSw); go_simp) <;> with_reducible rfl
        try simp only [Act.put, zT, z0, zS]
        refine takeH (i := 10) (oi := { dst := some 51, op := .binOp BinOp.eql 3 (.tmp 45) (.tmp 50) 3, type := _, pos := _, after := _, guard := none }) (v := ?_) rfl (Or.inl ⟨by rfl, ?_⟩) (by assumption) ?_
        rotate_left
        ·(intro w hSw; (try dsimp only at hSw); go_simp) <;> with_reducible rfl
        try simp only [Act.put, zT, z0, zS]
        refine wpAnyH_done (by kernel_rfl) ?_ _
        go_wp2_with fail
        go_roundw
        case rel => exact ⟨n + 1, _, by omega, by go_num, rfl, hnew, hend.out⟩
        case measure => simp [intOf]; omega
      ·have hnn : n = ks.length := by rw [← hN1.out]; omega
       have hr2 : Hid (r = ks.any (isI ek)) := by show _ = _; rw [hr.out, hnn, List.take_length]
       rw [hnn, upN_full ks VC (ek, es) hVlh.out, ← hup.out] at rV
       rw [← hr2.out] at hee
       have j1 : ¬ (n : Int) < (n2 : Int) := by omega
       obtain ⟨g0, _, _⟩ := cE.out wr B
       have hB0 := Lib.hid (toV.out _ B)
       obtain ⟨cc0, cc1⟩ := hcellh.out wr hB0.out
       clear hr hr2 hnn
       cases r with
       | false =>
        have hQ := Lib.hid (hbi.out (by rw [hee.out]; rfl) _ hB0.out)
        clear hbi hee het rV bA ok
        go_wp2_with fail
        exact hQ.out
       | true =>
        by_cases hbig : 65536 < es.length
        ·have hQ := Lib.hid (hbi.out (by rw [hee.out, het.out, decide_eq_true hbig]; rfl) _ hB0.out)
         have t5 : (65536 : Int) < (es.length : Int) := by omega
         clear hbi hee het rV bA ok
         go_wp2_with fail
         exact hQ.out
        ·have t5 : ¬ (65536 : Int) < (es.length : Int) := by omega
         have hall2 : Hid ((ch.take (i + 1)).all (okc ks) = true) := by show _ = _; rw [hsn.out, hall.out, hee.out, het.out, decide_eq_false hbig]; rfl
         obtain ⟨v', w', hr7, ho, hBB⟩ := snocI wr w9.heap.size _ _ ek ok (by omega) sz
         obtain ⟨ya, yc, hysh⟩ := (OwnG.SL eI_len ho).shape
         have hr7 : (Builtin.append_ #[24, 24] 24 #[.slice x1 x2 x3, .slice (some ⟨wr.heap.size, 0, none⟩) 1 1]).run Tryd.prog (wr.alloc (.cells #[.int .i64 ek] 3)) = .ok v' w' := hr7
         have hend := Lib.hid (show OI w' w9.heap.size v' ((ch.take (i + 1)).map Prod.fst) ∧ RowK eS 9 w2.heap.size w' gV (.slice p1 n2 p3) (upsV ks vs (ch.take (i + 1))) ∧ w'.heap[g8]? = some (.cells #[.slice a1 n2 a2, .slice p1 n2 p3, .slice c1 n3 c2] 37 (0, 0)) ∧ Below w2.heap.size w2 w' ∧ w9.heap.size ≤ w'.heap.size ∧ Hid ((ch.take (i + 1)).all (okc ks) = true) from
          ⟨by rw [hmp.out]; exact ho, rV.belowB hBB rVs, (hBB.block g8 s8).trans bA, B.trans (hBB.mono (by have := B.size; omega)), Nat.le_trans sz hBB.size, hall2⟩)
         obtain ⟨yn, hyn⟩ : ∃ n, Hid (n = (KL ++ [ek]).length) := ⟨_, Lib.hid (Eq.refl _)⟩
         rw [← hyn.out] at hysh
         subst hysh
         clear ho hBB hbi hee het rV bA ok hsn hall hmp hup hall2
         go_wp2_with (at_builtin; refine wpList_append_runB rfl (.tmp 72) (.tmp 78) 24 rfl (.slice x1 x2 x3) (.slice (some ⟨wr.heap.size, 0, none⟩) 1 1) rfl rfl _ _ hr7 ?_)
         go_roundw
         case rel => exact ⟨i + 1, by omega, by go_num, ⟨_, _, _, rfl⟩, hend.out⟩
         case measure => simp [intOf]; omega
    ·have hfull : ch.take i = ch := List.take_of_length_le (by rw [← hNC.out]; omega)
     rw [hfull] at ok rV hall
     have hB0 := toV.out _ B
     have cK := Lib.hid (keysR_any (.slice x1 x2 x3) (ch.map Prod.fst) wr (OwnG.SL eI_len ok) rfl (by rw [List.length_map, ← hNC.out]; omega) (fun x hx => by
      obtain ⟨e, he, rfl⟩ := List.mem_map.1 hx
      exact hCIh.out e he))
     have hin : ∀ e ∈ ch, e.1 ∈ ks ∧ e.2.length ≤ 65536 := fun e he => by
      have := List.all_eq_true.1 hall.out e he
      unfold okc at this
      rw [Bool.and_eq_true] at this
      obtain ⟨h1, h2⟩ := this
      obtain ⟨x, hx, hxe⟩ := List.any_eq_true.1 h1
      have hxe : x = e.1 := Eq.symm (by simpa [isI] using hxe)
      refine ⟨by rw [← hxe]; exact hx, ?_⟩
      unfold tlE tl at h2
      simp at h2; omega
     have hform := formB_up ks vs ps ch hfh.out (fun e he => (hin e he).2)
     have hsc := stand_changed ks vs ps ch f1h.out f2h.out (fun e he => (hin e he).1)
     have cS2 := Lib.hid (show ∀ W, Below wr.heap.size wr W → Calls Tryd.prog 54 #[.agg #[.slice a1 n2 a2, .slice p1 n2 p3, .slice c1 n3 c2]] W fun e w' => e = .returned (.string ⟨(standS ks ps (putV (shownV ks vs) ch)).toArray⟩) ∧ Below W.heap.size W w' from fun W BW => by
      rw [← hsc]
      exact Stands_any _ ks (upsV ks vs ch) ps W ⟨_, _, _, rfl, fa.out W (hB0.trans (BW.mono hB0.size)), (OwnG.SL eS_len rV.2.2.1).below BW, fc.out W (hB0.trans (BW.mono hB0.size))⟩ rfl hform)
     have hUB2 := hUB.out
     rw [hall.out, Bool.true_and] at hUB2
     have gs : g8 < wr.heap.size := Nat.lt_of_lt_of_le s8 sz
     have i1 : ¬ (i : Int) < (nC : Int) := by omega
     have bAh := Lib.hid bA
     have hB0h := Lib.hid hB0
     cases hasc : ascB (-1) (ch.map Prod.fst) with
     | false =>
      rw [hasc] at cK hUB2
      have hQ := Lib.hid (hbad.out hUB2)
      clear hfull ok rV hall hin hform hsc cS2 hUB2 bA hB0 hasc
      go_wp2_with fail
      refine cK.out.mono ?_
      rintro e w6 ⟨rfl, b6⟩
      have hQ2 := Lib.hid (hQ.out _ (hB0h.out.trans (b6.mono hB0h.out.size)))
      clear b6
      go_wp2_with fail
      exact hQ2.out
     | true =>
      rw [hasc] at cK hUB2
      have hQ := Lib.hid (hgood.out hUB2)
      generalize standS ks ps (putV (shownV ks vs) ch) = DD at *
      clear hfull ok rV hall hin hform hsc hUB2 bA hB0 hasc
      go_wp2_with fail
      refine cK.out.mono ?_
      rintro e w6 ⟨rfl, b6⟩
      have bA6 := (b6.block g8 gs).trans bAh.out
      have h0 := cell_of_row _ _ 0 _ 37 (0, 0) bA6
      have h1 := cell_of_row _ _ 1 _ 37 (0, 0) bA6
      have h2 := cell_of_row _ _ 2 _ 37 (0, 0) bA6
      have B6 := hB0h.out.trans (b6.mono hB0h.out.size)
      clear bA6
      go_wp2_with fail
      refine (cS2.out _ b6).mono ?_
      rintro e w7 ⟨rfl, b7⟩
      have hQ2 := Lib.hid (hQ.out _ (B6.trans (b7.mono B6.size)))
      clear b6 b7 h0 h1 h2
      go_wp2_with fail
      exact hQ2.out
end Go.Proofs.YtegahpfmkepfmaaDoor
