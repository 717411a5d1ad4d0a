/- The reference's reader: lists. -/
import Derived.Test.YtlaldnlgapeckaaGreatZB
set_option linter.unusedSimpArgs false
set_option maxRecDepth 100000
set_option maxHeartbeats 4000000
namespace Go.Proofs.YtlaldnlgapeckaaGreat
open Go.RowKit
/-- things read one after the other, as long as all goes well -/
def stL {α : Type} (one : Int × Bool → α × (Int × Bool)) : Nat → Int × Bool → List α × (Int × Bool)
 | 0, q => ([], q)
 | k + 1, q => if q.2 = true then ((one q).1 :: (stL one k (one q).2).1, (stL one k (one q).2).2) else ([], q)
def stN (most : Int) (p : Int × (Int × Bool)) : Int × Bool := if p.1 < 0 ∨ most < p.1 then (p.2.1, false) else p.2
def stM {α : Type} (one : Int × Bool → α × (Int × Bool)) (L : List UInt8) (most : Int) (q : Int × Bool) : List α × (Int × Bool) := stL one (stI L q).1.toNat (stN most (stI L q))
theorem stL_dead {α : Type} (one : Int × Bool → α × (Int × Bool)) (k : Nat) (q : Int × Bool) (h : q.2 = false) : stL one k q = ([], q) := by
 cases k with
 | zero => rfl
 | succ k => unfold stL; rw [if_neg (by rw [h]; simp)]
theorem stL_step {α : Type} (one : Int × Bool → α × (Int × Bool)) (N k : Nat) (q : Int × Bool) (R : List α × (Int × Bool)) (L : List α) (hk : k < N) (h : q.2 = true) (hR : R = (L ++ (stL one (N - k) q).1, (stL one (N - k) q).2)) :
   R = ((L ++ [(one q).1]) ++ (stL one (N - (k + 1)) (one q).2).1, (stL one (N - (k + 1)) (one q).2).2) := by
 obtain ⟨j, hj⟩ : ∃ j, N - k = j + 1 := ⟨N - k - 1, by omega⟩
 rw [show N - (k + 1) = j by omega, hR, hj]
 conv => lhs; unfold stL
 rw [if_pos h]
 simp
theorem stL_end {α : Type} (one : Int × Bool → α × (Int × Bool)) (N k : Nat) (q : Int × Bool) (R : List α × (Int × Bool)) (L : List α) (h : N ≤ k ∨ q.2 = false) (hR : R = (L ++ (stL one (N - k) q).1, (stL one (N - k) q).2)) : R = (L, q) := by
 have e : stL one (N - k) q = ([], q) := by
  rcases h with h | h
  · rw [show N - k = 0 by omega]; rfl
  · exact stL_dead one _ q h
 rw [hR, e]; simp
def MPost {α : Type} (own : World → Nat → Value → List α → Prop) (b : Nat) (s : ByteArray) (r : List α × (Int × Bool)) (w : World) (e : Ending) (w' : World) : Prop := ∃ v, e = .returned v ∧ own w' w.heap.size v r.1 ∧ RdC w' b s r.2 ∧ KR b w w'
theorem own_keepR {W W' : World} {b B n : Nat} {e : TypeId} {size : Nat} {v : Value} {xs : List Value} (h : W.ownsRow B e size v n xs) (k : KR b W W') (hb : b < B) : W'.ownsRow B e size v n xs := by
 refine ⟨h.1, ?_⟩
 rcases h.2 with q2 | ⟨g, cap, cur, q1, q2, q3, q4⟩
 · exact .inl q2
 · exact .inr ⟨g, cap, cur, q1, q2, (k.keep g (by omega) (Array.getElem?_eq_some_iff.1 q3).1).trans q3, q4⟩
theorem wpList_fa {ops : Array Oper} {rest : List Oper} {o : Oper} {a : Act} {w : World} {Q : Exit → Act → World → Prop} {b : Nat} (x : Operand) (ho : o.op = .fieldAddr 113 x 2) (hx : a.eval x = .pointer (some ⟨b, 0, none⟩)) (hw : Region.wanted o (yielded ops a.tmps) = true)
    (h : wpList Tryz.prog ops Q rest (a.put o.dst (.pointer (some ⟨b, 2, none⟩))) w) : wpList Tryz.prog ops Q (o :: rest) a w := by
  refine wpList_step fun K hK => ?_
  rw [if_pos hw]
  have hr : (execOp a.eval o).run Tryz.prog w = .ok (.value (.pointer (some ⟨b, 2, none⟩))) w := by
    obtain ⟨dt, op, ty, po, af, gu⟩ := o
    subst ho
    generalize hev : a.eval = ev at *
    go_simp
  unfold Oper.wp
  rw [hr]
  exact hK _ _ h
theorem rmanyR_any (b : Nat) (s : ByteArray) (q : Int × Bool) (most : Int) (w : World) (h : RdC w b s q) (hs : s.size ≤ 1000000) (h1 : inI q.1) (hm : most ≤ 1000) :
   Calls Tryz.prog 73 #[.pointer (some ⟨b, 0, none⟩), .int .i64 most] w (MPost OwnI b s (stM (stI s.data.toList) s.data.toList most q) w) := by
 have hb := h.lt
 have hl : s.data.toList.length ≤ 1000000 := by rw [Array.length_toList]; exact hs
 obtain ⟨i0, hi0, hz0, hz1, hz2⟩ := info_parts info3
 obtain ⟨R, hR⟩ : ∃ R, Hid (R = stM (stI s.data.toList) s.data.toList most q) := ⟨_, rfl⟩
 rw [← hR.out]
 have k1 := Hd (fun W q (hr : RdC W b s q) (hi : inI q.1) => rint_any b s q W hr hs hi)
 have hi := Hd (fun q (h : inI q.1) => stI_in (q := q) hl h)
 obtain ⟨p1, hp1⟩ : ∃ p, Hid (p = stI s.data.toList q) := ⟨_, rfl⟩
 have i1 := Hd (hp1.out ▸ hi.out q h1)
 have c1 := Hd (hp1.out ▸ k1.out w q h h1)
 have hRm : Hid (R = stL (stI s.data.toList) p1.1.toNat (stN most p1)) := by show _ = _; rw [hR.out, hp1.out]; rfl
 have hend : Hid (∀ W v L q', R = (L, q') → OwnI W w.heap.size v L → RdC W b s q' → KR b w W → MPost OwnI b s R w (.returned v) W) := fun W v L q' e o r k => by rw [e]; exact ⟨v, rfl, o, r, k⟩
 have hb := Hd hb
 clear hs h h1 hp1 hR hl
 obtain ⟨n, qn⟩ := p1
 have hcase : n < 0 ∨ (0 ≤ n ∧ most < n) ∨ (0 ≤ n ∧ n ≤ most) := by omega
 go_enter Tryz.func73, Tryz.ntmps73
 go_wp2_with fail
 refine c1.out.mono ?_
 rintro e w1 ⟨rfl, r1, k2⟩
 have r1 := Hd r1
 have k2 := Hd k2
 simp only at r1 i1 ⊢
 rcases hcase with h0 | ⟨h0, h1⟩ | ⟨h0, h1⟩
 · have fr := frozen_of_row _ b 2 _ _ r1.out
   have c2 := r1.out.cells.2.2
   have e0 : Hid (stN most (n, qn) = (qn.1, false)) := by show _ = _; unfold stN; rw [if_pos (.inl h0)]
   have rF := Hd (r1.out.setF false)
   go_wp2_with fail
   clear h0 fr c2
   go_loopw [6, 7] (fun lv i wr => ∃ (k : Nat) (q' : Int × Bool) (L : List Int), k ≤ n.toNat ∧ i = .int .i64 k ∧ Hid (R = (L ++ (stL (stI s.data.toList) (n.toNat - k) q').1, (stL (stI s.data.toList) (n.toNat - k) q').2)) ∧ L.length = k ∧ Hid (OwnI wr w.heap.size lv L) ∧ Hid (RdC wr b s q') ∧ Hid (KR b w wr) ∧ Hid (inI q'.1) ∧ Hid (n ≤ 1000 ∨ q'.2 = false)) (fun _ i _ => n.toNat - (intOf i).toNat)
   case atStart => exact ⟨0, (qn.1, false), [], by omega, rfl, by show _ = _; rw [hRm.out, e0.out]; simp, rfl, World.ownsRow_nil _ _ _ _, rF.out.1, k2.out.trans rF.out.2, i1.out.1, .inr rfl⟩
   case round =>
    obtain ⟨_, q', L, hk, rfl, hrun, rfl, hown, hrd, hkr, hin, hn1⟩ := hrel
    obtain ⟨k, hkk⟩ : ∃ k, Hid (k = L.length) := ⟨_, rfl⟩
    rw [← hkk.out] at hk hrun ⊢
    obtain ⟨lq1, lq2, hlv⟩ : ∃ x y, u6 = .slice x k y := by
     rcases hown.out.2 with ⟨q, hq⟩ | ⟨g, cap, _, q, _⟩
     · exact ⟨none, 0, by rw [q, hkk.out, hq]⟩
     · exact ⟨_, _, by rw [hkk.out]; exact q⟩
    subst hlv
    have c2 := hrd.out.cells.2.2
    have fr := frozen_of_row _ b 2 _ _ hrd.out
    by_cases hlt : (k : Int) < n
    · have i1 : decide ((k : Int) < n) = true := by simpa using hlt
      have hlt := Hd hlt
      cases hf : q'.2 with
      | false =>
       rw [hf] at c2
       have hF := Hd (hend.out wr _ _ _ (stL_end _ _ _ _ _ _ (.inr hf) hrun.out) hown.out hrd.out hkr.out)
       clear hf
       go_wp2_with (refine wpList_fa (b := b) (.tmp 25) rfl rfl rfl ?_)
       go_ret
       exact hF.out
      | true =>
       rw [hf] at c2
       have hn : n ≤ 1000 := by rcases hn1.out with h | h; exact h; rw [hf] at h; cases h
       have hst := Hd (stL_step _ n.toNat k q' R L (by have := hlt.out; omega) hf hrun.out)
       have kc := Hd (k1.out wr q' hrd.out hin.out)
       have ii := Hd (hi.out q' hin.out)
       obtain ⟨p, hp⟩ : ∃ p, Hid (p = stI s.data.toList q') := ⟨_, rfl⟩
       rw [← hp.out] at hst kc ii
       clear hf hp
       go_wp2_with (refine wpList_fa (b := b) (.tmp 25) rfl rfl rfl ?_)
       with_reducible refine kc.out.mono ?_
       rintro e w2 ⟨rfl, hr2, hk2⟩
       have hkr2 := Hd (hkr.out.trans hk2)
       have hwb := hb.out
       have hws : w.heap.size ≤ wr.heap.size := hkr.out.below.size
       have hws2 : wr.heap.size ≤ w2.heap.size := hk2.below.size
       have hown2 := own_keepR hown.out hk2 hwb
       obtain ⟨g, cap, w3, hrun3, ho3, hz3, hK3, hold3⟩ := snocK b w.heap.size 24 3 i0 _ 1 8 Tryz.underlying24 hi0 hz0 hz1 hz2 rfl (by omega) (by omega) w2 _ k (cI L) #[.int .i64 p.1] rfl (by simp [Value.oneCell']) (by rw [← hkk.out] at hown2; exact hown2) (by have := hlt.out; omega) (by omega)
       have hf1 : Hid (OwnI w3 w.heap.size (.slice (some ⟨g, 0, none⟩) (k + 1) cap) (L ++ [p.1])) := by
        have q := ho3
        show World.ownsRow _ _ _ _ _ _ _
        rw [List.length_append, ← hkk.out]
        simpa [cI] using q
       have hf2 : Hid (RdC w3 b s p.2) := by
        show _ = _
        rw [hold3 b hwb]; exact hr2
       have hf3 : Hid (KR b w w3) := hK3 w hwb (Nat.le_refl _) hkr2.out
       clear ho3 hK3 hold3 hown2 hr2 hk2 kc
       go_wp2_with (at_builtin; refine wpList_append_runB rfl (.tmp 31) (.tmp 34) 24 rfl _ _ rfl rfl _ _ hrun3 ?_)
       go_roundw
       case rel => exact ⟨k + 1, p.2, L ++ [p.1], by have := hlt.out; omega, by go_num, hst, by rw [List.length_append, ← hkk.out]; rfl, hf1, hf2, hf3, Hd ii.out.1, Hd (.inl hn)⟩
       case measure => have := hlt.out; simp [intOf]; omega
    · have i1 : decide ((k : Int) < n) = false := by simpa using hlt
      have hF := Hd (hend.out wr _ _ _ (stL_end _ _ _ _ _ _ (.inl (by omega)) hrun.out) hown.out hrd.out hkr.out)
      have hlt := Hd hlt
      go_wp2_with fail
      go_ret
      exact hF.out
 · have fr := frozen_of_row _ b 2 _ _ r1.out
   have c2 := r1.out.cells.2.2
   have e0 : Hid (stN most (n, qn) = (qn.1, false)) := by show _ = _; unfold stN; rw [if_pos (.inr h1)]
   have rF := Hd (r1.out.setF false)
   have d0 : ¬ n < 0 := by omega
   go_wp2_with fail
   clear h0 h1 d0 fr c2
   go_loopw [6, 7] (fun lv i wr => ∃ (k : Nat) (q' : Int × Bool) (L : List Int), k ≤ n.toNat ∧ i = .int .i64 k ∧ Hid (R = (L ++ (stL (stI s.data.toList) (n.toNat - k) q').1, (stL (stI s.data.toList) (n.toNat - k) q').2)) ∧ L.length = k ∧ Hid (OwnI wr w.heap.size lv L) ∧ Hid (RdC wr b s q') ∧ Hid (KR b w wr) ∧ Hid (inI q'.1) ∧ Hid (n ≤ 1000 ∨ q'.2 = false)) (fun _ i _ => n.toNat - (intOf i).toNat)
   case atStart => exact ⟨0, (qn.1, false), [], by omega, rfl, by show _ = _; rw [hRm.out, e0.out]; simp, rfl, World.ownsRow_nil _ _ _ _, rF.out.1, k2.out.trans rF.out.2, i1.out.1, .inr rfl⟩
   case round =>
    obtain ⟨_, q', L, hk, rfl, hrun, rfl, hown, hrd, hkr, hin, hn1⟩ := hrel
    obtain ⟨k, hkk⟩ : ∃ k, Hid (k = L.length) := ⟨_, rfl⟩
    rw [← hkk.out] at hk hrun ⊢
    obtain ⟨lq1, lq2, hlv⟩ : ∃ x y, u6 = .slice x k y := by
     rcases hown.out.2 with ⟨q, hq⟩ | ⟨g, cap, _, q, _⟩
     · exact ⟨none, 0, by rw [q, hkk.out, hq]⟩
     · exact ⟨_, _, by rw [hkk.out]; exact q⟩
    subst hlv
    have c2 := hrd.out.cells.2.2
    have fr := frozen_of_row _ b 2 _ _ hrd.out
    by_cases hlt : (k : Int) < n
    · have i1 : decide ((k : Int) < n) = true := by simpa using hlt
      have hlt := Hd hlt
      cases hf : q'.2 with
      | false =>
       rw [hf] at c2
       have hF := Hd (hend.out wr _ _ _ (stL_end _ _ _ _ _ _ (.inr hf) hrun.out) hown.out hrd.out hkr.out)
       clear hf
       go_wp2_with (refine wpList_fa (b := b) (.tmp 25) rfl rfl rfl ?_)
       go_ret
       exact hF.out
      | true =>
       rw [hf] at c2
       have hn : n ≤ 1000 := by rcases hn1.out with h | h; exact h; rw [hf] at h; cases h
       have hst := Hd (stL_step _ n.toNat k q' R L (by have := hlt.out; omega) hf hrun.out)
       have kc := Hd (k1.out wr q' hrd.out hin.out)
       have ii := Hd (hi.out q' hin.out)
       obtain ⟨p, hp⟩ : ∃ p, Hid (p = stI s.data.toList q') := ⟨_, rfl⟩
       rw [← hp.out] at hst kc ii
       clear hf hp
       go_wp2_with (refine wpList_fa (b := b) (.tmp 25) rfl rfl rfl ?_)
       with_reducible refine kc.out.mono ?_
       rintro e w2 ⟨rfl, hr2, hk2⟩
       have hkr2 := Hd (hkr.out.trans hk2)
       have hwb := hb.out
       have hws : w.heap.size ≤ wr.heap.size := hkr.out.below.size
       have hws2 : wr.heap.size ≤ w2.heap.size := hk2.below.size
       have hown2 := own_keepR hown.out hk2 hwb
       obtain ⟨g, cap, w3, hrun3, ho3, hz3, hK3, hold3⟩ := snocK b w.heap.size 24 3 i0 _ 1 8 Tryz.underlying24 hi0 hz0 hz1 hz2 rfl (by omega) (by omega) w2 _ k (cI L) #[.int .i64 p.1] rfl (by simp [Value.oneCell']) (by rw [← hkk.out] at hown2; exact hown2) (by have := hlt.out; omega) (by omega)
       have hf1 : Hid (OwnI w3 w.heap.size (.slice (some ⟨g, 0, none⟩) (k + 1) cap) (L ++ [p.1])) := by
        have q := ho3
        show World.ownsRow _ _ _ _ _ _ _
        rw [List.length_append, ← hkk.out]
        simpa [cI] using q
       have hf2 : Hid (RdC w3 b s p.2) := by
        show _ = _
        rw [hold3 b hwb]; exact hr2
       have hf3 : Hid (KR b w w3) := hK3 w hwb (Nat.le_refl _) hkr2.out
       clear ho3 hK3 hold3 hown2 hr2 hk2 kc
       go_wp2_with (at_builtin; refine wpList_append_runB rfl (.tmp 31) (.tmp 34) 24 rfl _ _ rfl rfl _ _ hrun3 ?_)
       go_roundw
       case rel => exact ⟨k + 1, p.2, L ++ [p.1], by have := hlt.out; omega, by go_num, hst, by rw [List.length_append, ← hkk.out]; rfl, hf1, hf2, hf3, Hd ii.out.1, Hd (.inl hn)⟩
       case measure => have := hlt.out; simp [intOf]; omega
    · have i1 : decide ((k : Int) < n) = false := by simpa using hlt
      have hF := Hd (hend.out wr _ _ _ (stL_end _ _ _ _ _ _ (.inl (by omega)) hrun.out) hown.out hrd.out hkr.out)
      have hlt := Hd hlt
      go_wp2_with fail
      go_ret
      exact hF.out
 · have e0 : Hid (stN most (n, qn) = qn) := by show _ = _; unfold stN; rw [if_neg (by omega)]
   have d0 : ¬ n < 0 := by omega
   have d1 : ¬ most < n := by omega
   go_wp2_with fail
   have h1 := Hd h1
   clear d0 d1 h0
   go_loopw [6, 7] (fun lv i wr => ∃ (k : Nat) (q' : Int × Bool) (L : List Int), k ≤ n.toNat ∧ i = .int .i64 k ∧ Hid (R = (L ++ (stL (stI s.data.toList) (n.toNat - k) q').1, (stL (stI s.data.toList) (n.toNat - k) q').2)) ∧ L.length = k ∧ Hid (OwnI wr w.heap.size lv L) ∧ Hid (RdC wr b s q') ∧ Hid (KR b w wr) ∧ Hid (inI q'.1) ∧ Hid (n ≤ 1000 ∨ q'.2 = false)) (fun _ i _ => n.toNat - (intOf i).toNat)
   case atStart => exact ⟨0, qn, [], by omega, rfl, by show _ = _; rw [hRm.out, e0.out]; simp, rfl, World.ownsRow_nil _ _ _ _, r1.out, k2.out, i1.out.1, Hd (.inl (by have := h1.out; omega))⟩
   case round =>
    obtain ⟨_, q', L, hk, rfl, hrun, rfl, hown, hrd, hkr, hin, hn1⟩ := hrel
    obtain ⟨k, hkk⟩ : ∃ k, Hid (k = L.length) := ⟨_, rfl⟩
    rw [← hkk.out] at hk hrun ⊢
    obtain ⟨lq1, lq2, hlv⟩ : ∃ x y, u6 = .slice x k y := by
     rcases hown.out.2 with ⟨q, hq⟩ | ⟨g, cap, _, q, _⟩
     · exact ⟨none, 0, by rw [q, hkk.out, hq]⟩
     · exact ⟨_, _, by rw [hkk.out]; exact q⟩
    subst hlv
    have c2 := hrd.out.cells.2.2
    have fr := frozen_of_row _ b 2 _ _ hrd.out
    by_cases hlt : (k : Int) < n
    · have i1 : decide ((k : Int) < n) = true := by simpa using hlt
      have hlt := Hd hlt
      cases hf : q'.2 with
      | false =>
       rw [hf] at c2
       have hF := Hd (hend.out wr _ _ _ (stL_end _ _ _ _ _ _ (.inr hf) hrun.out) hown.out hrd.out hkr.out)
       clear hf
       go_wp2_with (refine wpList_fa (b := b) (.tmp 25) rfl rfl rfl ?_)
       go_ret
       exact hF.out
      | true =>
       rw [hf] at c2
       have hn : n ≤ 1000 := by rcases hn1.out with h | h; exact h; rw [hf] at h; cases h
       have hst := Hd (stL_step _ n.toNat k q' R L (by have := hlt.out; omega) hf hrun.out)
       have kc := Hd (k1.out wr q' hrd.out hin.out)
       have ii := Hd (hi.out q' hin.out)
       obtain ⟨p, hp⟩ : ∃ p, Hid (p = stI s.data.toList q') := ⟨_, rfl⟩
       rw [← hp.out] at hst kc ii
       clear hf hp
       go_wp2_with (refine wpList_fa (b := b) (.tmp 25) rfl rfl rfl ?_)
       with_reducible refine kc.out.mono ?_
       rintro e w2 ⟨rfl, hr2, hk2⟩
       have hkr2 := Hd (hkr.out.trans hk2)
       have hwb := hb.out
       have hws : w.heap.size ≤ wr.heap.size := hkr.out.below.size
       have hws2 : wr.heap.size ≤ w2.heap.size := hk2.below.size
       have hown2 := own_keepR hown.out hk2 hwb
       obtain ⟨g, cap, w3, hrun3, ho3, hz3, hK3, hold3⟩ := snocK b w.heap.size 24 3 i0 _ 1 8 Tryz.underlying24 hi0 hz0 hz1 hz2 rfl (by omega) (by omega) w2 _ k (cI L) #[.int .i64 p.1] rfl (by simp [Value.oneCell']) (by rw [← hkk.out] at hown2; exact hown2) (by have := hlt.out; omega) (by omega)
       have hf1 : Hid (OwnI w3 w.heap.size (.slice (some ⟨g, 0, none⟩) (k + 1) cap) (L ++ [p.1])) := by
        have q := ho3
        show World.ownsRow _ _ _ _ _ _ _
        rw [List.length_append, ← hkk.out]
        simpa [cI] using q
       have hf2 : Hid (RdC w3 b s p.2) := by
        show _ = _
        rw [hold3 b hwb]; exact hr2
       have hf3 : Hid (KR b w w3) := hK3 w hwb (Nat.le_refl _) hkr2.out
       clear ho3 hK3 hold3 hown2 hr2 hk2 kc
       go_wp2_with (at_builtin; refine wpList_append_runB rfl (.tmp 31) (.tmp 34) 24 rfl _ _ rfl rfl _ _ hrun3 ?_)
       go_roundw
       case rel => exact ⟨k + 1, p.2, L ++ [p.1], by have := hlt.out; omega, by go_num, hst, by rw [List.length_append, ← hkk.out]; rfl, hf1, hf2, hf3, Hd ii.out.1, Hd (.inl hn)⟩
       case measure => have := hlt.out; simp [intOf]; omega
    · have i1 : decide ((k : Int) < n) = false := by simpa using hlt
      have hF := Hd (hend.out wr _ _ _ (stL_end _ _ _ _ _ _ (.inl (by omega)) hrun.out) hown.out hrd.out hkr.out)
      have hlt := Hd hlt
      go_wp2_with fail
      go_ret
      exact hF.out
end Go.Proofs.YtlaldnlgapeckaaGreat
