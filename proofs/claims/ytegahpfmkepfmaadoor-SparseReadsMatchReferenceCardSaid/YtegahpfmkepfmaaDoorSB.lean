/- Openings: what they show; the reference's Formed, stands, Stands and Opened; rows begun as literals, changed and cut. -/
import Derived.Test.YtegahpfmkepfmaaDoorPm
import Derived.Test.YtegahpfmkepfmaaDoorCm
import Derived.Test.YtegahpfmkepfmaaDoorBd
import Derived.Test.YtegahpfmkepfmaaDoorBR
import Derived.Test.YtegahpfmkepfmaaDoorBK
import Derived.Test.YtegahpfmkepfmaaDoorFm
import Derived.BigQuiet
import Derived.ArgAppend
import Derived.Test.YtegahpfmkepfmaaDoorSk
namespace Go.Proofs.YtegahpfmkepfmaaDoor
open Go.RowKit
theorem zset (l : List Nat) : ∀ (vs base : List Str), l.length = vs.length → l.Nodup → (∀ x ∈ l, x < base.length) →
  (∀ n (h : n < l.length), ((l.zip vs).foldl (fun l p => l.set p.1 p.2) base).getD l[n] [] = vs.getD n []) ∧ ∀ p, p ∉ l → ((l.zip vs).foldl (fun l p => l.set p.1 p.2) base).getD p [] = base.getD p [] := by
 induction l with
 | nil => intro vs base _ _ _; exact ⟨fun n h => by simp at h, fun p _ => rfl⟩
 | cons x t ih =>
  intro vs base hlen hnd hx
  match vs, hlen with
  | u :: us, hlen =>
   rw [List.nodup_cons] at hnd
   rw [List.zip_cons_cons, List.foldl_cons]
   obtain ⟨i1, i2⟩ := ih us (base.set x u) (by simpa using hlen) hnd.2 (fun y hy => by rw [List.length_set]; exact hx y (List.mem_cons_of_mem _ hy))
   refine ⟨fun n h => ?_, fun p hp => ?_⟩
   ·match n, h with
    | 0, _ =>
     rw [List.getElem_cons_zero, i2 x hnd.1, getD_set _ _ _ _ (hx x List.mem_cons_self), if_pos rfl]; rfl
    | n + 1, h =>
     rw [List.getElem_cons_succ, i1 n (by simpa using h)]; rfl
   ·rw [i2 p (fun h => hp (List.mem_cons_of_mem _ h)), getD_set _ _ _ _ (hx x List.mem_cons_self), if_neg]
    rintro rfl; exact hp List.mem_cons_self
theorem clF_sub (ks : List Nat) (h i p : Nat) (hp : p ∈ clF ks h i) : ∃ j, p / 2 ^ j = i := by
 induction h generalizing i with
 | zero => rw [clF] at hp; split at hp <;> simp at hp; exact ⟨0, by simpa using hp⟩
 | succ h ih =>
  rw [clF] at hp
  split at hp
  ·rcases List.mem_append.1 hp with hp | hp
   ·obtain ⟨j, hj⟩ := ih (2 * i) hp
    exact ⟨j + 1, by rw [Nat.pow_succ, ← Nat.div_div_eq_div_mul, hj]; omega⟩
   ·obtain ⟨j, hj⟩ := ih (2 * i + 1) hp
    exact ⟨j + 1, by rw [Nat.pow_succ, ← Nat.div_div_eq_div_mul, hj]; omega⟩
  ·simp at hp; exact ⟨0, by simpa using hp⟩
theorem sub_apart (p i j k : Nat) (hi : 1 ≤ i) (h1 : p / 2 ^ j = 2 * i) (h2 : p / 2 ^ k = 2 * i + 1) : False := by
 rcases Nat.lt_or_ge j k with h | h
 ·obtain ⟨d, rfl⟩ : ∃ d, k = j + (d + 1) := ⟨k - j - 1, by omega⟩
  rw [Nat.pow_add, ← Nat.div_div_eq_div_mul, h1, Nat.pow_succ, Nat.mul_comm (2 ^ d), ← Nat.div_div_eq_div_mul] at h2
  have := Nat.div_le_self (2 * i / 2) (2 ^ d)
  omega
 ·obtain ⟨d, rfl⟩ : ∃ d, j = k + d := ⟨j - k, by omega⟩
  rw [Nat.pow_add, ← Nat.div_div_eq_div_mul, h2] at h1
  cases d with
  | zero => simp at h1
  | succ d =>
   rw [Nat.pow_succ, Nat.mul_comm (2 ^ d), ← Nat.div_div_eq_div_mul] at h1
   have := Nat.div_le_self ((2 * i + 1) / 2) (2 ^ d)
   omega
theorem clF_nodup (ks : List Nat) (h i : Nat) (hi : 1 ≤ i) : (clF ks h i).Nodup := by
 induction h generalizing i with
 | zero => rw [clF]; split <;> simp
 | succ h ih =>
  rw [clF]
  split
  ·rw [List.nodup_append]
   refine ⟨ih _ (by omega), ih _ (by omega), fun a ha b hb e => ?_⟩
   subst e
   obtain ⟨j, hj⟩ := clF_sub _ _ _ _ ha
   obtain ⟨k, hk⟩ := clF_sub _ _ _ _ hb
   exact sub_apart a i j k hi hj hk
  ·simp
/-- what the opening's digests are for its closed parts -/
theorem path_map (ks : List Int) (ps : List Str) (h : ps.length = (closedL (tN ks)).length) : (closedL (tN ks)).map (cF (closedL (tN ks)) ps) = ps := by
 obtain ⟨h1, _⟩ := zset (closedL (tN ks)) ps emp2 h.symm (clF_nodup _ 6 1 (by omega)) (fun x hx => by have := (closedL_bd _ x hx).2; simpa [emp2] using this)
 apply List.ext_getElem (by rw [List.length_map, h])
 intro n h2 h3
 rw [List.getElem_map]
 have := h1 n (by simpa using h2)
 unfold cF putT
 rw [this, List.getD_eq_getElem?_getD, List.getElem?_eq_getElem h3]; rfl
theorem path_open (ks : List Int) (ps : List Str) (h : ps.length = (closedL (tN ks)).length) (i : Nat) (ho : op (tN ks) i = true) : cF (closedL (tN ks)) ps i = [] := by
 obtain ⟨_, h2⟩ := zset (closedL (tN ks)) ps emp2 h.symm (clF_nodup _ 6 1 (by omega)) (fun x hx => by have := (closedL_bd _ x hx).2; simpa [emp2] using this)
 unfold cF putT
 rw [h2 i (fun hm => by have := clF_op (tN ks) 6 1 i hm; rw [ho] at this; cases this), emp2_at]
theorem path_len (ks : List Int) (ps : List Str) (h : ps.length = (closedL (tN ks)).length) (hp : ∀ s ∈ ps, List.length s = 32) (i : Nat) : cF (closedL (tN ks)) ps i = [] ∨ (cF (closedL (tN ks)) ps i).length = 32 := by
 by_cases hm : i ∈ closedL (tN ks)
 ·have h1 := path_map ks ps h
  right
  have h2 : cF (closedL (tN ks)) ps i ∈ (closedL (tN ks)).map (cF (closedL (tN ks)) ps) := List.mem_map.2 ⟨i, hm, rfl⟩
  have h3 : ∀ s ∈ (closedL (tN ks)).map (cF (closedL (tN ks)) ps), List.length s = 32 := by rw [h1]; exact hp
  exact h3 _ h2
 ·left
  obtain ⟨_, h2⟩ := zset (closedL (tN ks)) ps emp2 h.symm (clF_nodup _ 6 1 (by omega)) (fun x hx => by have := (closedL_bd _ x hx).2; simpa [emp2] using this)
  unfold cF putT
  rw [h2 i hm, emp2_at]
theorem tN_nodup (ks : List Int) (h : ascB (-1) ks = true) : (tN ks).Nodup := by
 obtain ⟨h1, h2⟩ := (ascB_iff ks (-1)).1 h
 unfold tN
 rw [List.Nodup, List.pairwise_map]
 refine List.Pairwise.imp_of_mem (fun ha hb hab => ?_) h2
 have := h1 _ ha; have := h1 _ hb; omega
theorem shownV_full (ks : List Int) (vs : List Str) (hl : vs.length = ks.length) : shownV ks vs = ((tN ks).zip vs).foldl (fun l p => l.set p.1 p.2) emp := by
 unfold shownV putS
 rw [List.take_of_length_le (by rw [List.length_zip]; simp [tN]; omega)]
theorem shown_at (ks : List Int) (vs : List Str) (h : ascB (-1) ks = true) (hl : vs.length = ks.length) (n : Nat) (hn : n < ks.length) : vF (shownV ks vs) ks[n].toNat = vs[n]'(by omega) := by
 obtain ⟨h1, _⟩ := zset (tN ks) vs emp (by simp [tN]; omega) (tN_nodup ks h) (fun x hx => by have := tN_lt ks h x hx; simpa [emp] using this)
 have := h1 n (by simpa [tN] using hn)
 rw [shownV_full ks vs hl]
 unfold vF
 have e : (tN ks)[n]'(by simpa [tN] using hn) = ks[n].toNat := by simp [tN]
 rw [e] at this
 rw [this, List.getD_eq_getElem?_getD, List.getElem?_eq_getElem (by omega)]; rfl
theorem shown_not (ks : List Int) (vs : List Str) (h : ascB (-1) ks = true) (hl : vs.length = ks.length) (k : Nat) (hk : (k : Int) ∉ ks) : vF (shownV ks vs) k = [] := by
 obtain ⟨_, h2⟩ := zset (tN ks) vs emp (by simp [tN]; omega) (tN_nodup ks h) (fun x hx => by have := tN_lt ks h x hx; simpa [emp] using this)
 rw [shownV_full ks vs hl]
 unfold vF
 rw [h2 k]
 ·exact vF_emp k
 ·intro hm
  simp only [tN, List.mem_map] at hm
  obtain ⟨x, hx, e⟩ := hm
  have := ascB_bd ks (-1) (by omega) h x hx
  exact hk (by rw [show (k : Int) = x by omega]; exact hx)
end Go.Proofs.YtegahpfmkepfmaaDoor
namespace Go.Proofs.YtegahpfmkepfmaaDoor
open Go.RowKit
/-- the strings that are hashed for the root for which an opening stands -/
def opL (ks : List Int) (vs ps : List Str) : List Str := hsd sha (cF (closedL (tN ks)) ps) (vF (shownV ks vs)) 6 1
theorem CollE.symm {A B : List Str} (h : CollE sha A B) : CollE sha B A := by
 obtain ⟨x, hx, y, hy, h1, h2⟩ := h
 exact ⟨y, hy, x, hx, fun e => h1 e.symm, h2.symm⟩
theorem binding_right (L : List Ent) (ks : List Int) (vs ps : List Str) (hm : Mp L) (hf : formB ks vs ps = true) (hr : standS ks ps (shownV ks vs) = rootL L) (ho : outQ (hsL L) (opL ks vs ps) = false) (k : Int) (hk : k ∈ ks) :
  vF (shownV ks vs) k.toNat = lookE L k := by
 obtain ⟨f1, f2, f3, f4, f5⟩ := formB_facts ks vs ps hf
 obtain ⟨o1, o2, o3⟩ := outQ_false _ _ ho
 have hkb := ascB_bd ks (-1) (by omega) f1 k hk
 have hE : E sha (fun _ => []) (mE L) 1 = rootL L := by unfold rootL partV; rw [mE_map L hm]
 have hup : (64 + k.toNat) / 2 ^ 6 = 1 := by
  show (64 + k.toNat) / 64 = 1
  omega
 have h := bind sha sha_len (fun _ => []) (cF (closedL (tN ks)) ps) (vF (shownV ks vs)) (mE L) (fun _ => .inl rfl) (path_len ks ps f4 f5) 6 1 (by omega) (by omega) (by omega) (by omega)
  (by rw [hE, ← hr]; rfl) (fun h => o1 h.symm) o3 o2 k.toNat (by omega) hup (fun _ _ => rfl) (fun up hup => path_open ks ps f4 _ (by
   rw [op_iff]
   exact ⟨k.toNat, List.mem_map.2 ⟨k, hk, rfl⟩, up, by omega, rfl⟩))
 rw [h]
 show lookE L ((k.toNat : Nat) : Int) = _
 rw [show ((k.toNat : Nat) : Int) = k by omega]
theorem opL_small (ks : List Int) (vs ps : List Str) (hf : formB ks vs ps = true) : (∀ s ∈ opL ks vs ps, List.length s ≤ 1000000) ∧ (opL ks vs ps).length ≤ 1000 := by
 obtain ⟨f1, f2, f3, f4, f5⟩ := formB_facts ks vs ps hf
 refine ⟨hsd_small _ _ (path_len ks ps f4 f5) (fun k => ?_) 6 1 (by omega), ?_⟩
 ·unfold vF
  rw [List.getD_eq_getElem?_getD]
  cases e : (shownV ks vs)[k]? with
  | none => simp
  | some s => exact shownV_small ks vs 65536 f3 s (List.mem_of_getElem? e)
 ·have := hs_len sha (cF (closedL (tN ks)) ps) (vF (shownV ks vs)) 6 1
  unfold opL; omega
end Go.Proofs.YtegahpfmkepfmaaDoor
namespace Go.Proofs.YtegahpfmkepfmaaDoor
open Go.RowKit
set_option linter.unusedSimpArgs false in
set_option maxRecDepth 100000 in
set_option maxHeartbeats 4000000 in
theorem FormedR_any (vo : Value) (ks : List Int) (vs ps : List Str) (w : World) {W0 : World} (hv : OpV W0 vo ks vs ps) (hW : W0 = w) (hk : ks.length ≤ 100000) (hKI : ∀ x ∈ ks, I64 x) (hvl : vs.length ≤ 9223372036854775807) (hpl : ps.length ≤ 9223372036854775807) :
  Calls Tryd.prog 53 #[vo] w fun e w' => e = .returned (.bool (formB ks vs ps)) ∧ Below w.heap.size w w' := by
 subst hW
 obtain ⟨R, hR⟩ : ∃ R, Hid (R = formB ks vs ps) := ⟨_, rfl⟩
 rw [← hR.out]
 obtain ⟨a, b, c, rfl, ha, hb, hc⟩ := hv
 have cK := Lib.hid (show ∀ W, Below W0.heap.size W0 W → _ from fun W B => keysR_any a ks W (ha.below B) rfl (by omega) hKI)
 have hva := Lib.hid (show ∀ (k : Nat) (hk : k < vs.length), _ from fun k hk => SS.at hb k hk)
 have hpa := Lib.hid (show ∀ (k : Nat) (hk : k < ps.length), _ from fun k hk => SS.at hc k hk)
 have hsi := Lib.hid (show ∀ W, Below W0.heap.size W0 W → SI W a ks from fun W B => ha.below B)
 obtain ⟨a1, n1, a2, rfl, hN1⟩ := ha.shape'
 obtain ⟨b1, n2, b2, rfl, hN2⟩ := hb.shape'
 obtain ⟨c1, n3, c2, rfl, hN3⟩ := hc.shape'
 have hk2 : n1 ≤ 100000 := by rw [hN1.out]; exact hk
 have hv2 : n2 ≤ 9223372036854775807 := by rw [hN2.out]; exact hvl
 have hp2 : n3 ≤ 9223372036854775807 := by rw [hN3.out]; exact hpl
 have hkh := Lib.hid hk
 clear ha hb hc hk hvl hpl
 go_enter Tryd.func53, Tryd.ntmps53
 go_upto_region 1 with (fail)
 obtain ⟨wo, hwo⟩ : ∃ w, w = W0.alloc (.cells #[.slice a1 n1 a2, .slice b1 n2 b2, .slice c1 n3 c2] 37) := ⟨_, rfl⟩
 rw [← hwo]
 obtain ⟨bo, zo, co⟩ := box_world W0 wo _ _ _ 37 hwo
 have co := Lib.hid co
 have Bo := bo
 rename_i x1; clear x1 zo hwo bo
 obtain ⟨gb, hgb⟩ : ∃ g, W0.heap.size = g := ⟨_, rfl⟩
 have co : Hid (∀ W, Below wo.heap.size wo W → W.cell? ⟨gb, 0, none⟩ = some (.slice a1 n1 a2) ∧ W.cell? ⟨gb, 1, none⟩ = some (.slice b1 n2 b2) ∧ W.cell? ⟨gb, 2, none⟩ = some (.slice c1 n3 c2)) := by rw [← hgb]; exact co
 have hgb := Lib.hid hgb
 have hBend : Hid (∀ W, Below wo.heap.size wo W → Below W0.heap.size W0 W) := fun W B => Bo.trans (B.mono Bo.size)
 rename_i x1 x2; clear x1 x2
 rw [hgb.out]
 cases hasc : ascB (-1) ks with
 | false =>
  have hr : Hid (false = R) := by show _ = _; rw [hR.out]; unfold formB; rw [hasc]; rfl
  rw [hasc] at cK
  refine wp_region_held_drew (S := (fun w' : World => w'.cell? ⟨gb, 0, none⟩ = some (.slice a1 n1 a2) ∧ w'.cell? ⟨gb, 1, none⟩ = some (.slice b1 n2 b2) ∧ w'.cell? ⟨gb, 2, none⟩ = some (.slice c1 n3 c2))) (by kernel_rfl) (co.out _ (Below.refl _ wo).drew) (fun hHeld => ?_)
  refine takeH (i := 0) (oi := { dst := some 5, op := .fieldAddr 37 (.tmp 1) 0, type := _, pos := _, after := _, guard := none }) (v := ?_) rfl (Or.inl ⟨by rfl, ?_⟩) (by assumption) ?_
  rotate_left
  ·(intro w hSw; (try dsimp only at hSw); go_simp) <;> with_reducible rfl
  try simp only [Act.put, zT, z0, zS]
  refine takeH (i := 1) (oi := { dst := some 6, op := .load 24 (.tmp 5), type := _, pos := _, after := _, guard := none }) (v := ?_) rfl (Or.inl ⟨by rfl, ?_⟩) (by assumption) ?_
  rotate_left
  ·(intro w hSw; (try dsimp only at hSw); go_simp) <;> with_reducible rfl
  try simp only [Act.put, zT, z0, zS]
  refine wpAnyH_ready (rs := [2]) (by kernel_rfl) (by simp) ?_
  refine AllReadyH.cons (o := { dst := some 7, op := .call { callee := .value (.func 44), args := #[(.tmp 6)], argTypes := #[24] }, type := _, pos := _, after := _, guard := none }) rfl (fun K hK => ?_) ?_
  ·skip
   go_simp
   with_reducible refine (cK.out _ (Bo.drew)).mono ?_
   rintro e w1 ⟨rfl, b1⟩
   have k1 : Below wo.heap.size wo w1 := (Below.refl _ wo).drew.trans b1
   have B1 := Bo.trans (k1.mono Bo.size)
   go_wp2_with fail
   refine hK.out _ _ ?_ (fun hHeld => ?_)
   ·exact co.out _ k1
   clear hK K
   try simp only [Act.put, zT, z0, zS]
   refine takeH (i := 3) (oi := { dst := some 8, op := .unOp UnOp.not 4 (.tmp 7), type := _, pos := _, after := _, guard := none }) (v := ?_) rfl (Or.inl ⟨by rfl, ?_⟩) (by assumption) ?_
   rotate_left
   ·(intro w hSw; (try dsimp only at hSw); go_simp) <;> with_reducible rfl
   try simp only [Act.put, zT, z0, zS]
   refine takeH (i := 4) (oi := { dst := some 9, op := .move (.tmp 8), type := _, pos := _, after := _, guard := none }) (v := ?_) rfl (Or.inl ⟨by rfl, ?_⟩) (by assumption) ?_
   rotate_left
   ·(intro w hSw; (try dsimp only at hSw); go_simp) <;> with_reducible rfl
   try simp only [Act.put, zT, z0, zS]
   refine takeH (i := 5) (oi := { dst := some 10, op := .fieldAddr 37 (.tmp 1) 1, type := _, pos := _, after := _, guard := some (4, false) }) (v := undef) rfl (Or.inr ⟨by rfl, rfl⟩) (by assumption) ?_
   try simp only [Act.put, zT, z0, zS]
   refine takeH (i := 6) (oi := { dst := some 11, op := .load 35 (.tmp 10), type := _, pos := _, after := _, guard := some (4, false) }) (v := undef) rfl (Or.inr ⟨by rfl, rfl⟩) (by assumption) ?_
   try simp only [Act.put, zT, z0, zS]
   refine takeH (i := 7) (oi := { dst := some 12, op := .call { callee := .builtin .len, args := #[(.tmp 11)], argTypes := #[35] }, type := _, pos := _, after := _, guard := some (4, false) }) (v := undef) rfl (Or.inr ⟨by rfl, rfl⟩) (by assumption) ?_
   try simp only [Act.put, zT, z0, zS]
   refine takeH (i := 8) (oi := { dst := some 13, op := .fieldAddr 37 (.tmp 1) 0, type := _, pos := _, after := _, guard := some (4, false) }) (v := undef) rfl (Or.inr ⟨by rfl, rfl⟩) (by assumption) ?_
   try simp only [Act.put, zT, z0, zS]
   refine takeH (i := 9) (oi := { dst := some 14, op := .load 24 (.tmp 13), type := _, pos := _, after := _, guard := some (4, false) }) (v := undef) rfl (Or.inr ⟨by rfl, rfl⟩) (by assumption) ?_
   try simp only [Act.put, zT, z0, zS]
   refine takeH (i := 10) (oi := { dst := some 15, op := .call { callee := .builtin .len, args := #[(.tmp 14)], argTypes := #[24] }, type := _, pos := _, after := _, guard := some (4, false) }) (v := undef) rfl (Or.inr ⟨by rfl, rfl⟩) (by assumption) ?_
   try simp only [Act.put, zT, z0, zS]
   refine takeH (i := 11) (oi := { dst := some 16, op := .binOp BinOp.neq 3 (.tmp 12) (.tmp 15) 3, type := _, pos := _, after := _, guard := some (4, false) }) (v := undef) rfl (Or.inr ⟨by rfl, rfl⟩) (by assumption) ?_
   try simp only [Act.put, zT, z0, zS]
   refine takeH (i := 12) (oi := { dst := some 17, op := .pick (.tmp 9) ((Operand.const (Value.bool true))) (.tmp 16), type := _, pos := _, after := _, guard := none }) (v := ?_) rfl (Or.inl ⟨by rfl, ?_⟩) (by assumption) ?_
   rotate_left
   ·(intro w hSw; (try dsimp only at hSw); go_simp) <;> with_reducible rfl
   try simp only [Act.put, zT, z0, zS]
   refine takeH (i := 13) (oi := { dst := some 18, op := .move (.tmp 17), type := _, pos := _, after := _, guard := none }) (v := ?_) rfl (Or.inl ⟨by rfl, ?_⟩) (by assumption) ?_
   rotate_left
   ·(intro w hSw; (try dsimp only at hSw); go_simp) <;> with_reducible rfl
   try simp only [Act.put, zT, z0, zS]
   refine takeH (i := 14) (oi := { dst := some 19, op := .fieldAddr 37 (.tmp 1) 2, type := _, pos := _, after := _, guard := some (13, false) }) (v := undef) rfl (Or.inr ⟨by rfl, rfl⟩) (by assumption) ?_
   try simp only [Act.put, zT, z0, zS]
   refine takeH (i := 15) (oi := { dst := some 20, op := .load 35 (.tmp 19), type := _, pos := _, after := _, guard := some (13, false) }) (v := undef) rfl (Or.inr ⟨by rfl, rfl⟩) (by assumption) ?_
   try simp only [Act.put, zT, z0, zS]
   refine takeH (i := 16) (oi := { dst := some 21, op := .call { callee := .builtin .len, args := #[(.tmp 20)], argTypes := #[35] }, type := _, pos := _, after := _, guard := some (13, false) }) (v := undef) rfl (Or.inr ⟨by rfl, rfl⟩) (by assumption) ?_
   try simp only [Act.put, zT, z0, zS]
   refine takeH (i := 17) (oi := { dst := some 22, op := .fieldAddr 37 (.tmp 1) 0, type := _, pos := _, after := _, guard := some (13, false) }) (v := undef) rfl (Or.inr ⟨by rfl, rfl⟩) (by assumption) ?_
   try simp only [Act.put, zT, z0, zS]
   refine takeH (i := 18) (oi := { dst := some 23, op := .load 24 (.tmp 22), type := _, pos := _, after := _, guard := some (13, false) }) (v := undef) rfl (Or.inr ⟨by rfl, rfl⟩) (by assumption) ?_
   try simp only [Act.put, zT, z0, zS]
   refine takeH (i := 19) (oi := { dst := some 24, op := .call { callee := .value (.func 77), args := #[(.tmp 23), (Operand.const (Value.int IntKind.i64 0)), (Operand.const (Value.int IntKind.i64 64))], argTypes := #[24, 3, 3] }, type := _, pos := _, after := _, guard := some (13, false) }) (v := undef) rfl (Or.inr ⟨by rfl, rfl⟩) (by assumption) ?_
   try simp only [Act.put, zT, z0, zS]
   refine takeH (i := 20) (oi := { dst := some 25, op := .binOp BinOp.neq 3 (.tmp 21) (.tmp 24) 3, type := _, pos := _, after := _, guard := some (13, false) }) (v := undef) rfl (Or.inr ⟨by rfl, rfl⟩) (by assumption) ?_
   try simp only [Act.put, zT, z0, zS]
   refine takeH (i := 21) (oi := { dst := some 26, op := .pick (.tmp 18) ((Operand.const (Value.bool true))) (.tmp 25), type := _, pos := _, after := _, guard := none }) (v := ?_) rfl (Or.inl ⟨by rfl, ?_⟩) (by assumption) ?_
   rotate_left
   ·(intro w hSw; (try dsimp only at hSw); go_simp) <;> with_reducible rfl
   try simp only [Act.put, zT, z0, zS]
   refine wpAnyH_done (by kernel_rfl) ?_ _
   go_wp2_with fail
   go_ret
   exact ⟨ret_bool hr.out, B1⟩
  exact AllReadyH.nil
 | true =>
  rw [hasc] at cK
  have hasc := Lib.hid hasc
  rename_i x1; clear x1
  have hkl := ascB_len ks (-1) (by omega) (by omega) hasc.out
  have hkb := ascB_bd ks (-1) (by omega) hasc.out
  rw [← hN1.out] at hkl
  by_cases hln : n2 = n1
  rotate_left
  ·have hr : Hid (false = R) := by
    show _ = _
    have : (vs.length == ks.length) = false := by rw [beq_eq_false_iff_ne, ← hN2.out, ← hN1.out]; exact hln
    rw [hR.out]; unfold formB; rw [this]; simp
   have t1 : ((n2 : Int) != (n1 : Int)) = true := by rw [bne_iff_ne]; omega
   have t2 : ((n2 : Int) == (n1 : Int)) = false := by rw [beq_eq_false_iff_ne]; omega
   clear hkb
   refine wp_region_held_drew (S := (fun w' : World => w'.cell? ⟨gb, 0, none⟩ = some (.slice a1 n1 a2) ∧ w'.cell? ⟨gb, 1, none⟩ = some (.slice b1 n2 b2) ∧ w'.cell? ⟨gb, 2, none⟩ = some (.slice c1 n3 c2))) (by kernel_rfl) (co.out _ (Below.refl _ wo).drew) (fun hHeld => ?_)
   refine takeH (i := 0) (oi := { dst := some 5, op := .fieldAddr 37 (.tmp 1) 0, type := _, pos := _, after := _, guard := none }) (v := ?_) rfl (Or.inl ⟨by rfl, ?_⟩) (by assumption) ?_
   rotate_left
   ·(intro w hSw; (try dsimp only at hSw); go_simp) <;> with_reducible rfl
   try simp only [Act.put, zT, z0, zS]
   refine takeH (i := 1) (oi := { dst := some 6, op := .load 24 (.tmp 5), type := _, pos := _, after := _, guard := none }) (v := ?_) rfl (Or.inl ⟨by rfl, ?_⟩) (by assumption) ?_
   rotate_left
   ·(intro w hSw; (try dsimp only at hSw); go_simp) <;> with_reducible rfl
   try simp only [Act.put, zT, z0, zS]
   refine wpAnyH_ready (rs := [2]) (by kernel_rfl) (by simp) ?_
   refine AllReadyH.cons (o := { dst := some 7, op := .call { callee := .value (.func 44), args := #[(.tmp 6)], argTypes := #[24] }, type := _, pos := _, after := _, guard := none }) rfl (fun K hK => ?_) ?_
   ·skip
    go_simp
    with_reducible refine (cK.out _ (Bo.drew)).mono ?_
    rintro e w1 ⟨rfl, b1⟩
    have k1 : Below wo.heap.size wo w1 := (Below.refl _ wo).drew.trans b1
    have B1 := Bo.trans (k1.mono Bo.size)
    go_wp2_with fail
    refine hK.out _ _ ?_ (fun hHeld => ?_)
    ·exact co.out _ k1
    clear hK K
    try simp only [Act.put, zT, z0, zS]
    refine takeH (i := 3) (oi := { dst := some 8, op := .unOp UnOp.not 4 (.tmp 7), type := _, pos := _, after := _, guard := none }) (v := ?_) rfl (Or.inl ⟨by rfl, ?_⟩) (by assumption) ?_
    rotate_left
    ·(intro w hSw; (try dsimp only at hSw); go_simp) <;> with_reducible rfl
    try simp only [Act.put, zT, z0, zS]
    refine takeH (i := 4) (oi := { dst := some 9, op := .move (.tmp 8), type := _, pos := _, after := _, guard := none }) (v := ?_) rfl (Or.inl ⟨by rfl, ?_⟩) (by assumption) ?_
    rotate_left
    ·(intro w hSw; (try dsimp only at hSw); go_simp) <;> with_reducible rfl
    try simp only [Act.put, zT, z0, zS]
    refine takeH (i := 5) (oi := { dst := some 10, op := .fieldAddr 37 (.tmp 1) 1, type := _, pos := _, after := _, guard := some (4, false) }) (v := ?_) rfl (Or.inl ⟨by rfl, ?_⟩) (by assumption) ?_
    rotate_left
    ·(intro w hSw; (try dsimp only at hSw); go_simp) <;> with_reducible rfl
    try simp only [Act.put, zT, z0, zS]
    refine takeH (i := 6) (oi := { dst := some 11, op := .load 35 (.tmp 10), type := _, pos := _, after := _, guard := some (4, false) }) (v := ?_) rfl (Or.inl ⟨by rfl, ?_⟩) (by assumption) ?_
    rotate_left
    ·(intro w hSw; (try dsimp only at hSw); go_simp) <;> with_reducible rfl
    try simp only [Act.put, zT, z0, zS]
    refine takeH (i := 7) (oi := { dst := some 12, op := .call { callee := .builtin .len, args := #[(.tmp 11)], argTypes := #[35] }, type := _, pos := _, after := _, guard := some (4, false) }) (v := ?_) rfl (Or.inl ⟨by rfl, ?_⟩) (by assumption) ?_
    rotate_left
    ·(intro w hSw; (try dsimp only at hSw); go_simp) <;> with_reducible rfl
    try simp only [Act.put, zT, z0, zS]
    refine takeH (i := 8) (oi := { dst := some 13, op := .fieldAddr 37 (.tmp 1) 0, type := _, pos := _, after := _, guard := some (4, false) }) (v := ?_) rfl (Or.inl ⟨by rfl, ?_⟩) (by assumption) ?_
    rotate_left
    ·(intro w hSw; (try dsimp only at hSw); go_simp) <;> with_reducible rfl
    try simp only [Act.put, zT, z0, zS]
    refine takeH (i := 9) (oi := { dst := some 14, op := .load 24 (.tmp 13), type := _, pos := _, after := _, guard := some (4, false) }) (v := ?_) rfl (Or.inl ⟨by rfl, ?_⟩) (by assumption) ?_
    rotate_left
    ·(intro w hSw; (try dsimp only at hSw); go_simp) <;> with_reducible rfl
    try simp only [Act.put, zT, z0, zS]
    refine takeH (i := 10) (oi := { dst := some 15, op := .call { callee := .builtin .len, args := #[(.tmp 14)], argTypes := #[24] }, type := _, pos := _, after := _, guard := some (4, false) }) (v := ?_) rfl (Or.inl ⟨by rfl, ?_⟩) (by assumption) ?_
    rotate_left
    ·(intro w hSw; (try dsimp only at hSw); go_simp) <;> with_reducible rfl
    try simp only [Act.put, zT, z0, zS]
    refine takeH (i := 11) (oi := { dst := some 16, op := .binOp BinOp.neq 3 (.tmp 12) (.tmp 15) 3, type := _, pos := _, after := _, guard := some (4, false) }) (v := ?_) rfl (Or.inl ⟨by rfl, ?_⟩) (by assumption) ?_
    rotate_left
    ·(intro w hSw; (try dsimp only at hSw); go_simp) <;> with_reducible rfl
    try simp only [Act.put, zT, z0, zS]
    refine takeH (i := 12) (oi := { dst := some 17, op := .pick (.tmp 9) ((Operand.const (Value.bool true))) (.tmp 16), type := _, pos := _, after := _, guard := none }) (v := ?_) rfl (Or.inl ⟨by rfl, ?_⟩) (by assumption) ?_
    rotate_left
    ·(intro w hSw; (try dsimp only at hSw); go_simp) <;> with_reducible rfl
    try simp only [Act.put, zT, z0, zS]
    refine takeH (i := 13) (oi := { dst := some 18, op := .move (.tmp 17), type := _, pos := _, after := _, guard := none }) (v := ?_) rfl (Or.inl ⟨by rfl, ?_⟩) (by assumption) ?_
    rotate_left
    ·(intro w hSw; (try dsimp only at hSw); go_simp) <;> with_reducible rfl
    try simp only [Act.put, zT, z0, zS]
    refine takeH (i := 14) (oi := { dst := some 19, op := .fieldAddr 37 (.tmp 1) 2, type := _, pos := _, after := _, guard := some (13, false) }) (v := undef) rfl (Or.inr ⟨by rfl, rfl⟩) (by assumption) ?_
    try simp only [Act.put, zT, z0, zS]
    refine takeH (i := 15) (oi := { dst := some 20, op := .load 35 (.tmp 19), type := _, pos := _, after := _, guard := some (13, false) }) (v := undef) rfl (Or.inr ⟨by rfl, rfl⟩) (by assumption) ?_
    try simp only [Act.put, zT, z0, zS]
    refine takeH (i := 16) (oi := { dst := some 21, op := .call { callee := .builtin .len, args := #[(.tmp 20)], argTypes := #[35] }, type := _, pos := _, after := _, guard := some (13, false) }) (v := undef) rfl (Or.inr ⟨by rfl, rfl⟩) (by assumption) ?_
    try simp only [Act.put, zT, z0, zS]
    refine takeH (i := 17) (oi := { dst := some 22, op := .fieldAddr 37 (.tmp 1) 0, type := _, pos := _, after := _, guard := some (13, false) }) (v := undef) rfl (Or.inr ⟨by rfl, rfl⟩) (by assumption) ?_
    try simp only [Act.put, zT, z0, zS]
    refine takeH (i := 18) (oi := { dst := some 23, op := .load 24 (.tmp 22), type := _, pos := _, after := _, guard := some (13, false) }) (v := undef) rfl (Or.inr ⟨by rfl, rfl⟩) (by assumption) ?_
    try simp only [Act.put, zT, z0, zS]
    refine takeH (i := 19) (oi := { dst := some 24, op := .call { callee := .value (.func 77), args := #[(.tmp 23), (Operand.const (Value.int IntKind.i64 0)), (Operand.const (Value.int IntKind.i64 64))], argTypes := #[24, 3, 3] }, type := _, pos := _, after := _, guard := some (13, false) }) (v := undef) rfl (Or.inr ⟨by rfl, rfl⟩) (by assumption) ?_
    try simp only [Act.put, zT, z0, zS]
    refine takeH (i := 20) (oi := { dst := some 25, op := .binOp BinOp.neq 3 (.tmp 21) (.tmp 24) 3, type := _, pos := _, after := _, guard := some (13, false) }) (v := undef) rfl (Or.inr ⟨by rfl, rfl⟩) (by assumption) ?_
    try simp only [Act.put, zT, z0, zS]
    refine takeH (i := 21) (oi := { dst := some 26, op := .pick (.tmp 18) ((Operand.const (Value.bool true))) (.tmp 25), type := _, pos := _, after := _, guard := none }) (v := ?_) rfl (Or.inl ⟨by rfl, ?_⟩) (by assumption) ?_
    rotate_left
    ·(intro w hSw; (try dsimp only at hSw); go_simp) <;> with_reducible rfl
    try simp only [Act.put, zT, z0, zS]
    refine wpAnyH_done (by kernel_rfl) ?_ _
    go_wp2_with fail
    go_ret
    exact ⟨ret_bool hr.out, B1⟩
   exact AllReadyH.nil
  ·subst hln
   have hlen : Hid ((vs.length == ks.length) = true) := by show _ = _; rw [beq_iff_eq, ← hN2.out, ← hN1.out]
   have cM := Lib.hid (show ∀ W, Below W0.heap.size W0 W → Calls Tryd.prog 77 #[.slice a1 n2 a2, .int .i64 0, .int .i64 64] W fun e w' => e = .returned (.int .i64 ((closedL (tN ks)).length : Int)) ∧ W = w' from fun W B => manyR_any _ ks (fun k hk => by have := hkb k hk; omega) (by have := hkh.out; omega) 6 (by omega) 1 0 W (hsi.out W B) (by omega) (by omega) (by omega))
   obtain ⟨M, hM⟩ : ∃ M, Hid (M = (closedL (tN ks)).length) := ⟨_, rfl⟩
   rw [← hM.out] at cM
   clear hkb
   by_cases hcn : n3 = M
   rotate_left
   ·have hr : Hid (false = R) := by
     show _ = _
     have : (ps.length == (closedL (tN ks)).length) = false := by rw [beq_eq_false_iff_ne, ← hN3.out, ← hM.out]; exact hcn
     rw [hR.out]; unfold formB; rw [this]; simp
    have hM64 : M ≤ 64 := by rw [hM.out]; exact clF_size (tN ks) 6 1
    have t1 : ((n3 : Int) != (M : Int)) = true := by rw [bne_iff_ne]; omega
    have t2 : ((n3 : Int) == (M : Int)) = false := by rw [beq_eq_false_iff_ne]; omega
    refine wp_region_held_drew (S := (fun w' : World => w'.cell? ⟨gb, 0, none⟩ = some (.slice a1 n2 a2) ∧ w'.cell? ⟨gb, 1, none⟩ = some (.slice b1 n2 b2) ∧ w'.cell? ⟨gb, 2, none⟩ = some (.slice c1 n3 c2))) (by kernel_rfl) (co.out _ (Below.refl _ wo).drew) (fun hHeld => ?_)
    refine takeH (i := 0) (oi := { dst := some 5, op := .fieldAddr 37 (.tmp 1) 0, type := _, pos := _, after := _, guard := none }) (v := ?_) rfl (Or.inl ⟨by rfl, ?_⟩) (by assumption) ?_
    rotate_left
    ·(intro w hSw; (try dsimp only at hSw); go_simp) <;> with_reducible rfl
    try simp only [Act.put, zT, z0, zS]
    refine takeH (i := 1) (oi := { dst := some 6, op := .load 24 (.tmp 5), type := _, pos := _, after := _, guard := none }) (v := ?_) rfl (Or.inl ⟨by rfl, ?_⟩) (by assumption) ?_
    rotate_left
    ·(intro w hSw; (try dsimp only at hSw); go_simp) <;> with_reducible rfl
    try simp only [Act.put, zT, z0, zS]
    refine wpAnyH_ready (rs := [2]) (by kernel_rfl) (by simp) ?_
    refine AllReadyH.cons (o := { dst := some 7, op := .call { callee := .value (.func 44), args := #[(.tmp 6)], argTypes := #[24] }, type := _, pos := _, after := _, guard := none }) rfl (fun K hK => ?_) ?_
    ·skip
     go_simp
     with_reducible refine (cK.out _ (Bo.drew)).mono ?_
     rintro e w1 ⟨rfl, b1⟩
     have k1 : Below wo.heap.size wo w1 := (Below.refl _ wo).drew.trans b1
     have B1 := Bo.trans (k1.mono Bo.size)
     go_wp2_with fail
     refine hK.out _ _ ?_ (fun hHeld => ?_)
     ·exact co.out _ k1
     clear hK K
     try simp only [Act.put, zT, z0, zS]
     refine takeH (i := 3) (oi := { dst := some 8, op := .unOp UnOp.not 4 (.tmp 7), type := _, pos := _, after := _, guard := none }) (v := ?_) rfl (Or.inl ⟨by rfl, ?_⟩) (by assumption) ?_
     rotate_left
     ·(intro w hSw; (try dsimp only at hSw); go_simp) <;> with_reducible rfl
     try simp only [Act.put, zT, z0, zS]
     refine takeH (i := 4) (oi := { dst := some 9, op := .move (.tmp 8), type := _, pos := _, after := _, guard := none }) (v := ?_) rfl (Or.inl ⟨by rfl, ?_⟩) (by assumption) ?_
     rotate_left
     ·(intro w hSw; (try dsimp only at hSw); go_simp) <;> with_reducible rfl
     try simp only [Act.put, zT, z0, zS]
     refine takeH (i := 5) (oi := { dst := some 10, op := .fieldAddr 37 (.tmp 1) 1, type := _, pos := _, after := _, guard := some (4, false) }) (v := ?_) rfl (Or.inl ⟨by rfl, ?_⟩) (by assumption) ?_
     rotate_left
     ·(intro w hSw; (try dsimp only at hSw); go_simp) <;> with_reducible rfl
     try simp only [Act.put, zT, z0, zS]
     refine takeH (i := 6) (oi := { dst := some 11, op := .load 35 (.tmp 10), type := _, pos := _, after := _, guard := some (4, false) }) (v := ?_) rfl (Or.inl ⟨by rfl, ?_⟩) (by assumption) ?_
     rotate_left
     ·(intro w hSw; (try dsimp only at hSw); go_simp) <;> with_reducible rfl
     try simp only [Act.put, zT, z0, zS]
     refine takeH (i := 7) (oi := { dst := some 12, op := .call { callee := .builtin .len, args := #[(.tmp 11)], argTypes := #[35] }, type := _, pos := _, after := _, guard := some (4, false) }) (v := ?_) rfl (Or.inl ⟨by rfl, ?_⟩) (by assumption) ?_
     rotate_left
     ·(intro w hSw; (try dsimp only at hSw); go_simp) <;> with_reducible rfl
     try simp only [Act.put, zT, z0, zS]
     refine takeH (i := 8) (oi := { dst := some 13, op := .fieldAddr 37 (.tmp 1) 0, type := _, pos := _, after := _, guard := some (4, false) }) (v := ?_) rfl (Or.inl ⟨by rfl, ?_⟩) (by assumption) ?_
     rotate_left
     ·(intro w hSw; (try dsimp only at hSw); go_simp) <;> with_reducible rfl
     try simp only [Act.put, zT, z0, zS]
     refine takeH (i := 9) (oi := { dst := some 14, op := .load 24 (.tmp 13), type := _, pos := _, after := _, guard := some (4, false) }) (v := ?_) rfl (Or.inl ⟨by rfl, ?_⟩) (by assumption) ?_
     rotate_left
     ·(intro w hSw; (try dsimp only at hSw); go_simp) <;> with_reducible rfl
     try simp only [Act.put, zT, z0, zS]
     refine takeH (i := 10) (oi := { dst := some 15, op := .call { callee := .builtin .len, args := #[(.tmp 14)], argTypes := #[24] }, type := _, pos := _, after := _, guard := some (4, false) }) (v := ?_) rfl (Or.inl ⟨by rfl, ?_⟩) (by assumption) ?_
     rotate_left
     ·(intro w hSw; (try dsimp only at hSw); go_simp) <;> with_reducible rfl
     try simp only [Act.put, zT, z0, zS]
     refine takeH (i := 11) (oi := { dst := some 16, op := .binOp BinOp.neq 3 (.tmp 12) (.tmp 15) 3, type := _, pos := _, after := _, guard := some (4, false) }) (v := ?_) rfl (Or.inl ⟨by rfl, ?_⟩) (by assumption) ?_
     rotate_left
     ·(intro w hSw; (try dsimp only at hSw); go_simp) <;> with_reducible rfl
     try simp only [Act.put, zT, z0, zS]
     refine takeH (i := 12) (oi := { dst := some 17, op := .pick (.tmp 9) ((Operand.const (Value.bool true))) (.tmp 16), type := _, pos := _, after := _, guard := none }) (v := ?_) rfl (Or.inl ⟨by rfl, ?_⟩) (by assumption) ?_
     rotate_left
     ·(intro w hSw; (try dsimp only at hSw); go_simp) <;> with_reducible rfl
     try simp only [Act.put, zT, z0, zS]
     refine takeH (i := 13) (oi := { dst := some 18, op := .move (.tmp 17), type := _, pos := _, after := _, guard := none }) (v := ?_) rfl (Or.inl ⟨by rfl, ?_⟩) (by assumption) ?_
     rotate_left
     ·(intro w hSw; (try dsimp only at hSw); go_simp) <;> with_reducible rfl
     try simp only [Act.put, zT, z0, zS]
     refine takeH (i := 14) (oi := { dst := some 19, op := .fieldAddr 37 (.tmp 1) 2, type := _, pos := _, after := _, guard := some (13, false) }) (v := ?_) rfl (Or.inl ⟨by rfl, ?_⟩) (by assumption) ?_
     rotate_left
     ·(intro w hSw; (try dsimp only at hSw); go_simp) <;> with_reducible rfl
     try simp only [Act.put, zT, z0, zS]
     refine takeH (i := 15) (oi := { dst := some 20, op := .load 35 (.tmp 19), type := _, pos := _, after := _, guard := some (13, false) }) (v := ?_) rfl (Or.inl ⟨by rfl, ?_⟩) (by assumption) ?_
     rotate_left
     ·(intro w hSw; (try dsimp only at hSw); go_simp) <;> with_reducible rfl
     try simp only [Act.put, zT, z0, zS]
     refine takeH (i := 16) (oi := { dst := some 21, op := .call { callee := .builtin .len, args := #[(.tmp 20)], argTypes := #[35] }, type := _, pos := _, after := _, guard := some (13, false) }) (v := ?_) rfl (Or.inl ⟨by rfl, ?_⟩) (by assumption) ?_
     rotate_left
     ·(intro w hSw; (try dsimp only at hSw); go_simp) <;> with_reducible rfl
     try simp only [Act.put, zT, z0, zS]
     refine takeH (i := 17) (oi := { dst := some 22, op := .fieldAddr 37 (.tmp 1) 0, type := _, pos := _, after := _, guard := some (13, false) }) (v := ?_) rfl (Or.inl ⟨by rfl, ?_⟩) (by assumption) ?_
     rotate_left
     ·(intro w hSw; (try dsimp only at hSw); go_simp) <;> with_reducible rfl
     try simp only [Act.put, zT, z0, zS]
     refine takeH (i := 18) (oi := { dst := some 23, op := .load 24 (.tmp 22), type := _, pos := _, after := _, guard := some (13, false) }) (v := ?_) rfl (Or.inl ⟨by rfl, ?_⟩) (by assumption) ?_
     rotate_left
     ·(intro w hSw; (try dsimp only at hSw); go_simp) <;> with_reducible rfl
     try simp only [Act.put, zT, z0, zS]
     refine wpAnyH_ready (rs := [19]) (by kernel_rfl) (by simp) ?_
     refine AllReadyH.cons (o := { dst := some 24, op := .call { callee := .value (.func 77), args := #[(.tmp 23), (Operand.const (Value.int IntKind.i64 0)), (Operand.const (Value.int IntKind.i64 64))], argTypes := #[24, 3, 3] }, type := _, pos := _, after := _, guard := some (13, false) }) rfl (fun K hK => ?_) ?_
     ·skip
      go_simp
      with_reducible refine (cM.out _ B1).mono ?_
      rintro e w2 ⟨rfl, rfl⟩
      go_wp2_with fail
      refine hK.out _ _ ?_ (fun hHeld => ?_)
      ·exact co.out _ k1
      clear hK K
      try simp only [Act.put, zT, z0, zS]
      refine takeH (i := 20) (oi := { dst := some 25, op := .binOp BinOp.neq 3 (.tmp 21) (.tmp 24) 3, type := _, pos := _, after := _, guard := some (13, false) }) (v := ?_) rfl (Or.inl ⟨by rfl, ?_⟩) (by assumption) ?_
      rotate_left
      ·(intro w hSw; (try dsimp only at hSw); go_simp) <;> with_reducible rfl
      try simp only [Act.put, zT, z0, zS]
      refine takeH (i := 21) (oi := { dst := some 26, op := .pick (.tmp 18) ((Operand.const (Value.bool true))) (.tmp 25), type := _, pos := _, after := _, guard := none }) (v := ?_) rfl (Or.inl ⟨by rfl, ?_⟩) (by assumption) ?_
      rotate_left
      ·(intro w hSw; (try dsimp only at hSw); go_simp) <;> with_reducible rfl
      try simp only [Act.put, zT, z0, zS]
      refine wpAnyH_done (by kernel_rfl) ?_ _
      go_wp2_with fail
      go_ret
      exact ⟨ret_bool hr.out, B1⟩
     exact AllReadyH.nil
    exact AllReadyH.nil
   ·subst hcn
    have hcnt : Hid ((ps.length == (closedL (tN ks)).length) = true) := by show _ = _; rw [beq_iff_eq, ← hN3.out, ← hM.out]
    have hM64 : n3 ≤ 64 := by rw [hM.out]; exact clF_size (tN ks) 6 1
    have t1 : ((n3 : Int) != (n3 : Int)) = false := by rw [bne_eq_false_iff_eq]
    have t2 : ((n2 : Int) != (n2 : Int)) = false := by rw [bne_eq_false_iff_eq]
    refine wp_region_held_drew (S := (fun w' : World => w'.cell? ⟨gb, 0, none⟩ = some (.slice a1 n2 a2) ∧ w'.cell? ⟨gb, 1, none⟩ = some (.slice b1 n2 b2) ∧ w'.cell? ⟨gb, 2, none⟩ = some (.slice c1 n3 c2))) (by kernel_rfl) (co.out _ (Below.refl _ wo).drew) (fun hHeld => ?_)
    refine takeH (i := 0) (oi := { dst := some 5, op := .fieldAddr 37 (.tmp 1) 0, type := _, pos := _, after := _, guard := none }) (v := ?_) rfl (Or.inl ⟨by rfl, ?_⟩) (by assumption) ?_
    rotate_left
    ·(intro w hSw; (try dsimp only at hSw); go_simp) <;> with_reducible rfl
    try simp only [Act.put, zT, z0, zS]
    refine takeH (i := 1) (oi := { dst := some 6, op := .load 24 (.tmp 5), type := _, pos := _, after := _, guard := none }) (v := ?_) rfl (Or.inl ⟨by rfl, ?_⟩) (by assumption) ?_
    rotate_left
    ·(intro w hSw; (try dsimp only at hSw); go_simp) <;> with_reducible rfl
    try simp only [Act.put, zT, z0, zS]
    refine wpAnyH_ready (rs := [2]) (by kernel_rfl) (by simp) ?_
    refine AllReadyH.cons (o := { dst := some 7, op := .call { callee := .value (.func 44), args := #[(.tmp 6)], argTypes := #[24] }, type := _, pos := _, after := _, guard := none }) rfl (fun K hK => ?_) ?_
    ·skip
     go_simp
     with_reducible refine (cK.out _ (Bo.drew)).mono ?_
     rintro e w1 ⟨rfl, b1⟩
     have k1 : Below wo.heap.size wo w1 := (Below.refl _ wo).drew.trans b1
     have B1 := Bo.trans (k1.mono Bo.size)
     go_wp2_with fail
     refine hK.out _ _ ?_ (fun hHeld => ?_)
     ·exact co.out _ k1
     clear hK K
     try simp only [Act.put, zT, z0, zS]
     refine takeH (i := 3) (oi := { dst := some 8, op := .unOp UnOp.not 4 (.tmp 7), type := _, pos := _, after := _, guard := none }) (v := ?_) rfl (Or.inl ⟨by rfl, ?_⟩) (by assumption) ?_
     rotate_left
     ·(intro w hSw; (try dsimp only at hSw); go_simp) <;> with_reducible rfl
     try simp only [Act.put, zT, z0, zS]
     refine takeH (i := 4) (oi := { dst := some 9, op := .move (.tmp 8), type := _, pos := _, after := _, guard := none }) (v := ?_) rfl (Or.inl ⟨by rfl, ?_⟩) (by assumption) ?_
     rotate_left
     ·(intro w hSw; (try dsimp only at hSw); go_simp) <;> with_reducible rfl
     try simp only [Act.put, zT, z0, zS]
     refine takeH (i := 5) (oi := { dst := some 10, op := .fieldAddr 37 (.tmp 1) 1, type := _, pos := _, after := _, guard := some (4, false) }) (v := ?_) rfl (Or.inl ⟨by rfl, ?_⟩) (by assumption) ?_
     rotate_left
     ·(intro w hSw; (try dsimp only at hSw); go_simp) <;> with_reducible rfl
     try simp only [Act.put, zT, z0, zS]
     refine takeH (i := 6) (oi := { dst := some 11, op := .load 35 (.tmp 10), type := _, pos := _, after := _, guard := some (4, false) }) (v := ?_) rfl (Or.inl ⟨by rfl, ?_⟩) (by assumption) ?_
     rotate_left
     ·(intro w hSw; (try dsimp only at hSw); go_simp) <;> with_reducible rfl
     try simp only [Act.put, zT, z0, zS]
     refine takeH (i := 7) (oi := { dst := some 12, op := .call { callee := .builtin .len, args := #[(.tmp 11)], argTypes := #[35] }, type := _, pos := _, after := _, guard := some (4, false) }) (v := ?_) rfl (Or.inl ⟨by rfl, ?_⟩) (by assumption) ?_
     rotate_left
     ·(intro w hSw; (try dsimp only at hSw); go_simp) <;> with_reducible rfl
     try simp only [Act.put, zT, z0, zS]
     refine takeH (i := 8) (oi := { dst := some 13, op := .fieldAddr 37 (.tmp 1) 0, type := _, pos := _, after := _, guard := some (4, false) }) (v := ?_) rfl (Or.inl ⟨by rfl, ?_⟩) (by assumption) ?_
     rotate_left
     ·(intro w hSw; (try dsimp only at hSw); go_simp) <;> with_reducible rfl
     try simp only [Act.put, zT, z0, zS]
     refine takeH (i := 9) (oi := { dst := some 14, op := .load 24 (.tmp 13), type := _, pos := _, after := _, guard := some (4, false) }) (v := ?_) rfl (Or.inl ⟨by rfl, ?_⟩) (by assumption) ?_
     rotate_left
     ·(intro w hSw; (try dsimp only at hSw); go_simp) <;> with_reducible rfl
     try simp only [Act.put, zT, z0, zS]
     refine takeH (i := 10) (oi := { dst := some 15, op := .call { callee := .builtin .len, args := #[(.tmp 14)], argTypes := #[24] }, type := _, pos := _, after := _, guard := some (4, false) }) (v := ?_) rfl (Or.inl ⟨by rfl, ?_⟩) (by assumption) ?_
     rotate_left
     ·(intro w hSw; (try dsimp only at hSw); go_simp) <;> with_reducible rfl
     try simp only [Act.put, zT, z0, zS]
     refine takeH (i := 11) (oi := { dst := some 16, op := .binOp BinOp.neq 3 (.tmp 12) (.tmp 15) 3, type := _, pos := _, after := _, guard := some (4, false) }) (v := ?_) rfl (Or.inl ⟨by rfl, ?_⟩) (by assumption) ?_
     rotate_left
     ·(intro w hSw; (try dsimp only at hSw); go_simp) <;> with_reducible rfl
     try simp only [Act.put, zT, z0, zS]
     refine takeH (i := 12) (oi := { dst := some 17, op := .pick (.tmp 9) ((Operand.const (Value.bool true))) (.tmp 16), type := _, pos := _, after := _, guard := none }) (v := ?_) rfl (Or.inl ⟨by rfl, ?_⟩) (by assumption) ?_
     rotate_left
     ·(intro w hSw; (try dsimp only at hSw); go_simp) <;> with_reducible rfl
     try simp only [Act.put, zT, z0, zS]
     refine takeH (i := 13) (oi := { dst := some 18, op := .move (.tmp 17), type := _, pos := _, after := _, guard := none }) (v := ?_) rfl (Or.inl ⟨by rfl, ?_⟩) (by assumption) ?_
     rotate_left
     ·(intro w hSw; (try dsimp only at hSw); go_simp) <;> with_reducible rfl
     try simp only [Act.put, zT, z0, zS]
     refine takeH (i := 14) (oi := { dst := some 19, op := .fieldAddr 37 (.tmp 1) 2, type := _, pos := _, after := _, guard := some (13, false) }) (v := ?_) rfl (Or.inl ⟨by rfl, ?_⟩) (by assumption) ?_
     rotate_left
     ·(intro w hSw; (try dsimp only at hSw); go_simp) <;> with_reducible rfl
     try simp only [Act.put, zT, z0, zS]
     refine takeH (i := 15) (oi := { dst := some 20, op := .load 35 (.tmp 19), type := _, pos := _, after := _, guard := some (13, false) }) (v := ?_) rfl (Or.inl ⟨by rfl, ?_⟩) (by assumption) ?_
     rotate_left
     ·(intro w hSw; (try dsimp only at hSw); go_simp) <;> with_reducible rfl
     try simp only [Act.put, zT, z0, zS]
     refine takeH (i := 16) (oi := { dst := some 21, op := .call { callee := .builtin .len, args := #[(.tmp 20)], argTypes := #[35] }, type := _, pos := _, after := _, guard := some (13, false) }) (v := ?_) rfl (Or.inl ⟨by rfl, ?_⟩) (by assumption) ?_
     rotate_left
     ·(intro w hSw; (try dsimp only at hSw); go_simp) <;> with_reducible rfl
     try simp only [Act.put, zT, z0, zS]
     refine takeH (i := 17) (oi := { dst := some 22, op := .fieldAddr 37 (.tmp 1) 0, type := _, pos := _, after := _, guard := some (13, false) }) (v := ?_) rfl (Or.inl ⟨by rfl, ?_⟩) (by assumption) ?_
     rotate_left
     ·(intro w hSw; (try dsimp only at hSw); go_simp) <;> with_reducible rfl
     try simp only [Act.put, zT, z0, zS]
     refine takeH (i := 18) (oi := { dst := some 23, op := .load 24 (.tmp 22), type := _, pos := _, after := _, guard := some (13, false) }) (v := ?_) rfl (Or.inl ⟨by rfl, ?_⟩) (by assumption) ?_
     rotate_left
     ·(intro w hSw; (try dsimp only at hSw); go_simp) <;> with_reducible rfl
     try simp only [Act.put, zT, z0, zS]
     refine wpAnyH_ready (rs := [19]) (by kernel_rfl) (by simp) ?_
     refine AllReadyH.cons (o := { dst := some 24, op := .call { callee := .value (.func 77), args := #[(.tmp 23), (Operand.const (Value.int IntKind.i64 0)), (Operand.const (Value.int IntKind.i64 64))], argTypes := #[24, 3, 3] }, type := _, pos := _, after := _, guard := some (13, false) }) rfl (fun K hK => ?_) ?_
     ·skip
      go_simp
      with_reducible refine (cM.out _ B1).mono ?_
      rintro e w2 ⟨rfl, rfl⟩
      go_wp2_with fail
      refine hK.out _ _ ?_ (fun hHeld => ?_)
      ·exact co.out _ k1
      clear hK K
      try simp only [Act.put, zT, z0, zS]
      refine takeH (i := 20) (oi := { dst := some 25, op := .binOp BinOp.neq 3 (.tmp 21) (.tmp 24) 3, type := _, pos := _, after := _, guard := some (13, false) }) (v := ?_) rfl (Or.inl ⟨by rfl, ?_⟩) (by assumption) ?_
      rotate_left
      ·(intro w hSw; (try dsimp only at hSw); go_simp) <;> with_reducible rfl
      try simp only [Act.put, zT, z0, zS]
      refine takeH (i := 21) (oi := { dst := some 26, op := .pick (.tmp 18) ((Operand.const (Value.bool true))) (.tmp 25), type := _, pos := _, after := _, guard := none }) (v := ?_) rfl (Or.inl ⟨by rfl, ?_⟩) (by assumption) ?_
      rotate_left
      ·(intro w hSw; (try dsimp only at hSw); go_simp) <;> with_reducible rfl
      try simp only [Act.put, zT, z0, zS]
      refine wpAnyH_done (by kernel_rfl) ?_ _
      have B1h := Lib.hid B1
      go_wp2_with fail
      go_loop [3] (fun iv => ∃ n : Nat, n ≤ n2 ∧ iv = .int .i64 n ∧ Hid ((vs.take n).any tl = false)) (fun iv => n2 - (intOf iv).toNat)
      case atStart => exact ⟨0, by omega, rfl, rfl⟩
      case round =>
       obtain ⟨n, hn, rfl, hno⟩ := hrel
       obtain ⟨g0, g1, g2⟩ := co.out w1 k1
       by_cases hlt : n < n2
       ·have hnv : n < vs.length := by rw [← hN2.out]; exact hlt
        obtain ⟨r1, r2, r3, he, hcell⟩ := hva.out n hnv
        injection he with he4 he5 he6
        subst he4
        have hcd := hcell w1 B1
        have hsn := Lib.hid (any_snoc tl vs n hnv hno.out)
        have hat := Lib.hid (any_of_take tl vs (n + 1))
        have htl : Hid (tl vs[n] = decide (65536 < vs[n].length)) := rfl
        clear hcell he5 he6
        generalize vs[n] = s at *
        have i0 : (0 : Int) ≤ (n : Int) := by omega
        have i1 : (n : Int) < (n2 : Int) := by omega
        by_cases hb : 65536 < s.length
        ·have hr : Hid (false = R) := by
          show _ = _
          have := hat.out (by rw [hsn.out, htl.out]; exact decide_eq_true hb)
          rw [hR.out]; symm; unfold formB; rw [this]; simp
         have t1 : (65536 : Int) < (s.length : Int) := by omega
         clear hsn hat htl hno
         go_wp2_with fail
         go_ret
         exact ⟨ret_bool hr.out, B1h.out⟩
        ·have hnew : Hid ((vs.take (n + 1)).any tl = false) := by show _ = _; rw [hsn.out, htl.out]; exact decide_eq_false hb
         have t1 : ¬ (65536 : Int) < (s.length : Int) := by omega
         clear hsn hat htl hno
         go_wp2_with fail
         go_round
         case rel => exact ⟨n + 1, by omega, by go_num, hnew⟩
         case measure => simp [intOf]; omega
       ·have hvt : Hid (vs.any tl = false) := by
         show _ = _
         have := hno.out
         rwa [List.take_of_length_le (by rw [← hN2.out]; omega)] at this
        have i1 : ¬ (n : Int) < (n2 : Int) := by omega
        clear hno
        go_wp2_with fail
        go_loop [4] (fun iv => ∃ n : Nat, n ≤ n3 ∧ iv = .int .i64 n ∧ Hid ((ps.take n).any noD = false)) (fun iv => n3 - (intOf iv).toNat)
        case atStart => exact ⟨0, by omega, rfl, rfl⟩
        case round =>
         clear i1 hlt hn
         obtain ⟨n, hn, rfl, hno⟩ := hrel
         by_cases hlt : n < n3
         ·have hnv : n < ps.length := by rw [← hN3.out]; exact hlt
          obtain ⟨r1, r2, r3, he, hcell⟩ := hpa.out n hnv
          injection he with he4 he5 he6
          subst he4
          have hcd := hcell w1 B1
          have hsn := Lib.hid (any_snoc noD ps n hnv hno.out)
          have hat := Lib.hid (any_of_take noD ps (n + 1))
          have htl : Hid (noD ps[n] = decide (ps[n].length ≠ 32)) := rfl
          clear hcell he5 he6
          generalize ps[n] = s at *
          have i0 : (0 : Int) ≤ (n : Int) := by omega
          have i1 : (n : Int) < (n3 : Int) := by omega
          by_cases hb : s.length = 32
          ·have hnew : Hid ((ps.take (n + 1)).any noD = false) := by show _ = _; rw [hsn.out, htl.out]; simp [hb]
           have t1 : ((s.length : Int) != 32) = false := by rw [bne_eq_false_iff_eq]; omega
           have t2 : ((s.length : Int) == 32) = true := by rw [beq_iff_eq]; omega
           clear hsn hat htl hno hb
           go_wp2_with fail
           go_round
           case rel => exact ⟨n + 1, by omega, by go_num, hnew⟩
           case measure => simp [intOf]; omega
          ·have hr : Hid (false = R) := by
            show _ = _
            have := hat.out (by rw [hsn.out, htl.out]; simp [hb])
            rw [hR.out]; symm; unfold formB; rw [this]; simp
           have t1 : ((s.length : Int) != 32) = true := by rw [bne_iff_ne]; omega
           have t2 : ((s.length : Int) == 32) = false := by rw [beq_eq_false_iff_ne]; omega
           clear hsn hat htl hno hb
           go_wp2_with fail
           go_ret
           exact ⟨ret_bool hr.out, B1h.out⟩
         ·have hr : Hid (true = R) := by
           show _ = _
           have h1 := hno.out
           rw [List.take_of_length_le (by rw [← hN3.out]; omega)] at h1
           rw [hR.out]; symm; unfold formB; rw [h1, hvt.out, hasc.out, hlen.out, hcnt.out]; rfl
          have i1 : ¬ (n : Int) < (n3 : Int) := by omega
          clear hno
          go_wp2_with fail
          go_ret
          exact ⟨ret_bool hr.out, B1h.out⟩
     exact AllReadyH.nil
    exact AllReadyH.nil
end Go.Proofs.YtegahpfmkepfmaaDoor
namespace Go.Proofs.YtegahpfmkepfmaaDoor
open Go.RowKit
/-- what a call that appends to the row u leaves: every other block; the row that it returns is u's or new -/
def KeepR (u u' : Value) (W W' : World) : Prop := W.heap.size ≤ W'.heap.size ∧ (∀ k, k < W.heap.size → u.ownBlock ≠ some k → W'.heap[k]? = W.heap[k]?) ∧ (∀ k, u'.ownBlock = some k → u.ownBlock = some k ∨ W.heap.size ≤ k)
theorem KeepR.of_below {W W' : World} (u : Value) (B : Below W.heap.size W W') : KeepR u u W W' := ⟨B.size, fun k hk _ => B.block k hk, fun _ hk => .inl hk⟩
theorem KeepR.trans {u v x : Value} {W W1 W2 : World} (h : KeepR u v W W1) (k : KeepR v x W1 W2) : KeepR u x W W2 := by
 refine ⟨Nat.le_trans h.1 k.1, fun b hb hu => ?_, fun b hb => ?_⟩
 ·rw [k.2.1 b (Nat.lt_of_lt_of_le hb h.1) (fun e => ?_), h.2.1 b hb hu]
  rcases h.2.2 b e with h1 | h1
  ·exact hu h1
  ·omega
 ·rcases k.2.2 b hb with h1 | h1
  ·exact h.2.2 b h1
  ·exact .inr (Nat.le_trans h.1 h1)
theorem snocSK (W : World) (base : Nat) (v : Value) (l : List Str) (x : Str) (h : OS W base v l) (hl : l.length ≤ 1000000) (hb : base ≤ W.heap.size) :
  ∃ v' w', (Builtin.append_ #[35, 35] 35 #[v, .slice (some ⟨W.heap.size, 0, none⟩) 1 1]).run Tryd.prog (W.alloc (.cells #[.string ⟨x.toArray⟩] 9)) = .ok v' w' ∧ OS w' base v' (l ++ [x]) ∧ Below base W w' ∧ KeepR v v' W w' := by
 obtain ⟨f0, hf, hz0, hz1, hz2⟩ := info_parts info9
 obtain ⟨g, cap, w', hr, ho, hg, hat, _⟩ := run_append_lies (P := Tryd.prog) (W.alloc (.cells #[.string ⟨x.toArray⟩] 9)) 35 35 base 9 f0 _ 1 16 Tryd.underlying35 hf hz0 hz1 hz2 rfl (by omega) v l.length (l.flatMap eS) ((show W.ownsRow base 9 1 v l.length (l.flatMap eS) from h).alloc _) ⟨W.heap.size, 0, none⟩ 1 1 [.string ⟨x.toArray⟩] (by rfl)
  (World.news_of_block (cs := #[.string ⟨x.toArray⟩]) (t := 9) (fr := (0, 0)) (heap_alloc_new W _)) (by simp [Value.oneCell']) (by omega) (by unfold maxLen; omega) (by omega) (by simp; omega) (W.heap.size + 1) (by simp)
 have hsz : W.heap.size + 1 ≤ w'.heap.size := by have := hg.size; simpa using this
 refine ⟨_, w', hr, ?_, ((Below.refl base W).alloc (by omega) _).grown hg (by simp; omega) (fun k hk => by have := OwnG.base h k hk; omega), by omega, fun k hk hu => ?_, fun k hk => ?_⟩
 ·show World.ownsRow _ _ _ _ _ _ _
  rw [List.length_append, List.flatMap_append]
  exact ho
 ·rw [hg.block k (by simp; omega) (fun e => hu e.symm)]
  exact (((Below.refl W.heap.size W).alloc (Nat.le_refl _) (.cells #[.string ⟨x.toArray⟩] 9)).block k hk)
 ·have hk2 : g = k := by simpa [Value.ownBlock] using hk
  subst hk2
  rcases hat with h1 | h1
  ·exact .inl h1
  ·exact .inr (by omega)
def StPost (W0 W : World) (sv : Value) (D : Str) (rest S : List Str) (e : Ending) (w' : World) : Prop := ∃ pv' sv', e = .returned (.tuple #[.string ⟨D.toArray⟩, pv', sv']) ∧ SS W0 pv' rest ∧ OS w' W0.heap.size sv' S ∧ Below W0.heap.size W0 w' ∧ KeepR sv sv' W w'
theorem StPost.mk {W0 W w' : World} {sv : Value} {D D' : Str} {rest S S' : List Str} {u v : Value} (hD : D = D') (hS : S = S') (hp : SS W0 u rest) (ho : OS w' W0.heap.size v S) (hB : Below W0.heap.size W0 w') (hk : KeepR sv v W w') : StPost W0 W sv D' rest S' (.returned (.tuple #[.string ⟨D.toArray⟩, u, v])) w' := by
 subst hD hS; exact ⟨_, _, rfl, hp, ho, hB, hk⟩
theorem SS.tail {W : World} {b o c n : Nat} {x : Str} {rest : List Str} (h : SS W (.slice (some ⟨b, o, none⟩) n c) (x :: rest)) (hn : n = rest.length + 1) : SS W (.slice (if c = 1 then some ⟨b, o, none⟩ else some ⟨b, o + 1, none⟩) (n - 1) (c - 1)) rest := by
 rcases h with ⟨h, _⟩ | ⟨_, b', o', c', e, hle, hb, hL⟩
 ·cases h
 ·injection e with e1 e2 e3
  injection e1 with e1
  injection e1 with e4 e5
  subst e3 e4 e5
  subst hn
  by_cases h0 : rest = []
  ·subst h0
   exact .inl ⟨rfl, _, _, rfl⟩
  ·have hr : 0 < rest.length := List.length_pos_iff.2 h0
   simp only [List.length_cons] at hle
   rw [if_neg (by omega)]
   refine .inr ⟨h0, b, o + 1, c - 1, rfl, by omega, hb, fun j y i u e1 e2 => ?_⟩
   have := hL (j + 1) y i u (by simpa using e1) e2
   have e : o + (j + 1) * 1 + i = o + 1 + j * 1 + i := by omega
   rwa [e] at this

section
variable (ks : List Int) (vs ps : List Str)
set_option maxRecDepth 100000 in
set_option maxHeartbeats 4000000 in
/-- a closed part: the first digest that is left -/
theorem stands_closed (vo pv : Value) (W0 : World) (ho : OpV W0 vo ks vs ps) (hf : formB ks vs ps = true) (h i low : Nat) (sv : Value) (d : Str) (rest strs : List Str) (W : World) (h6 : h ≤ 6) (hlow : low + 64 = i * 2 ^ h) (hhi : (i + 1) * 2 ^ h ≤ 128) (hop : op (tN ks) i = false)
  (B : Below W0.heap.size W0 W) (hp : SS W0 pv (d :: rest)) (hs0 : OS W W0.heap.size sv strs) :
  Calls Tryd.prog 59 #[vo, .int .i64 (low : Int), .int .i64 ((2 ^ h : Nat) : Int), pv, sv] W (StPost W0 W sv d rest strs) := by
 obtain ⟨f1, f2, f3, f4, f5⟩ := formB_facts ks vs ps hf
 have hkb := ascB_bd ks (-1) (by omega) f1
 have hkl := ascB_len ks (-1) (by omega) (by omega) f1
 obtain ⟨a, b, c, rfl, ha, hb, hc⟩ := ho
 have hp2 : 2 ^ h ≤ 2 ^ 6 := Nat.pow_le_pow_right (by omega) h6
 have hpp := Nat.pow_pos (n := h) (show 0 < 2 by omega)
 have hi64 : (i + 1) * 2 ^ h = i * 2 ^ h + 2 ^ h := by rw [Nat.add_mul, Nat.one_mul]
 have hw := Lib.hid (show ∀ W', Below W0.heap.size W0 W' → Calls Tryd.prog 73 #[a, .int .i64 (low : Int), .int .i64 ((2 ^ h : Nat) : Int)] W' fun e w' => e = .returned (.bool false) ∧ W' = w' from fun W' B' => by
  have := withinR_any a ks low (2 ^ h) W' (ha.below B') (by omega) (by omega) (by omega)
  rw [win_op ks h i low (fun k hk => by have := hkb k hk; omega) (by omega) hlow hhi, hop] at this
  exact this)
 obtain ⟨a1, a2, rfl⟩ := ha.shape
 obtain ⟨b1, b2, rfl⟩ := hb.shape
 obtain ⟨c1, c2, rfl⟩ := hc.shape
 obtain ⟨s1, s2, rfl⟩ := (OwnG.SL eS_len hs0).shape
 obtain ⟨pb, po, pc, rfl, hcp⟩ := SS.at hp 0 (by simp)
 have hcd := Lib.hid (show ∀ W', Below W0.heap.size W0 W' → W'.cell? ⟨pb, po, none⟩ = some (.string ⟨d.toArray⟩) from fun W' B => by simpa using hcp W' B)
 clear hcp
 have htail := Lib.hid (SS.tail hp (by simp))
 have hple : rest.length + 1 ≤ pc := by
  rcases hp with ⟨h, _⟩ | ⟨_, b', o', c', e, hle, _, _⟩
  ·cases h
  ·injection e with e1 e2 e3
   subst e3
   simpa using hle
 have hs := Lib.hid hs0
 generalize 2 ^ h = q at *
 generalize ks.length = n1 at *
 generalize vs.length = n2 at *
 generalize ps.length = n3 at *
 generalize strs.length = n4 at *
 rw [List.length_cons] at htail ⊢
 generalize rest.length = m at *
 clear ha hb hc hs0 hp f1 f2 f3 f4 f5 hkb hi64 hf hhi hlow hop
 go_enter Tryd.func59, Tryd.ntmps59
 go_upto_region 1 with (fail)
 obtain ⟨wo, hwo⟩ : ∃ w, w = W.alloc (.cells #[.slice a1 n1 a2, .slice b1 n2 b2, .slice c1 n3 c2] 37) := ⟨_, rfl⟩
 rw [← hwo]
 obtain ⟨bo, zo, co⟩ := box_world W wo _ _ _ 37 hwo
 obtain ⟨g0, g1, g2⟩ := co wo (Below.refl _ _)
 have Bo := B.trans (bo.mono B.size)
 have hs2 := Lib.hid (hs.out.below bo)
 have hk2 := Lib.hid (KeepR.of_below (.slice s1 n4 s2) bo)
 clear hwo co bo zo
 have c0 := hcd.out wo Bo
 have i0 : (1 : Int) ≤ ((m + 1 : Nat) : Int) := by omega
 have i1 : ((m + 1 : Nat) : Int) ≤ (pc : Int) := by omega
 have i2 : (0 : Int) < ((m + 1 : Nat) : Int) := by omega
 have i3 : (1 : Int) ≤ (pc : Int) := by omega
 go_wp2_with fail
 refine (hw.out _ Bo).mono ?_
 rintro e w1 ⟨rfl, rfl⟩
 go_wp2_with fail
 go_quiet (fail)
 go_wp2_with fail
 ·go_ret3
  refine ⟨_, _, rfl, ?_, hs2.out.below (below_drewN (Below.refl _ _) _), below_drewN Bo _, hk2.out.trans (KeepR.of_below _ (below_drewN (Below.refl _ _) _))⟩
  have hx := htail.out
  have hpc : pc = 1 := by assumption
  rw [if_pos hpc, hpc] at hx
  exact hx
 ·go_ret3
  refine ⟨_, _, rfl, ?_, hs2.out.below (below_drewN (Below.refl _ _) _), below_drewN Bo _, hk2.out.trans (KeepR.of_below _ (below_drewN (Below.refl _ _) _))⟩
  have hx := htail.out
  have hpc : ¬ pc = 1 := by assumption
  rw [if_neg hpc] at hx
  exact hx
end
section
variable (ks : List Int) (vs ps : List Str)
theorem hsd_closed (C V : Nat → Str) (h i : Nat) (hc : C i ≠ []) : hsd sha C V h i = [] := by
 cases h <;> (unfold hsd; rw [if_neg hc])
theorem E_closed (C V : Nat → Str) (i : Nat) (h1 : 1 ≤ i) (hc : C i ≠ []) : E sha C V i = C i := by
 by_cases h : 64 ≤ i
 ·rw [E_leaf sha C V i h, if_neg hc]
 ·rw [E_node sha C V i h1 (by omega), if_neg hc]

set_option maxRecDepth 100000 in
set_option maxHeartbeats 4000000 in
/-- a single key that is shown -/
theorem stands_leaf (vo pv : Value) (W0 : World) (ho : OpV W0 vo ks vs ps) (hf : formB ks vs ps = true) (low : Nat) (sv : Value) (rest strs : List Str) (W : World) (hlow : low < 64) (hop : op (tN ks) (64 + low) = true)
  (B : Below W0.heap.size W0 W) (hp : SS W0 pv rest) (hs0 : OS W W0.heap.size sv strs) (hn : strs.length ≤ 999) :
  Calls Tryd.prog 59 #[vo, .int .i64 (low : Int), .int .i64 1, pv, sv] W (StPost W0 W sv (leafD sha low (vF (shownV ks vs) low)) rest (strs ++ if vF (shownV ks vs) low = [] then [] else [leafT low (vF (shownV ks vs) low)])) := by
 obtain ⟨f1, f2, f3, f4, f5⟩ := formB_facts ks vs ps hf
 have hkb := ascB_bd ks (-1) (by omega) f1
 have hkl := ascB_len ks (-1) (by omega) (by omega) f1
 obtain ⟨a, b, c, rfl, ha, hb, hc⟩ := ho
 have hw := Lib.hid (show ∀ W', Below W0.heap.size W0 W' → Calls Tryd.prog 73 #[a, .int .i64 (low : Int), .int .i64 1] W' fun e w' => e = .returned (.bool true) ∧ W' = w' from fun W' B' => by
  have := withinR_any a ks low (2 ^ 0) W' (ha.below B') (by omega) (by omega) (by omega)
  rw [win_op ks 0 (64 + low) low (fun k hk => by have := hkb k hk; omega) (by omega) (by omega) (by omega), hop] at this
  exact this)
 have hka := Lib.hid (show ∀ (k : Nat) (hk : k < ks.length), _ from fun k hk => SI.at ha k hk)
 have hva := Lib.hid (show ∀ (k : Nat) (hk : k < vs.length), _ from fun k hk => SS.at hb k hk)
 have hsh := Lib.hid (fun n (hn : n < ks.length) => shown_at ks vs f1 f2 n hn)
 have hno := Lib.hid (shown_not ks vs f1 f2 low)
 have hsm := Lib.hid f3
 obtain ⟨a1, K, a2, rfl, hK⟩ := ha.shape'
 obtain ⟨b1, N2, b2, rfl, hN2⟩ := hb.shape'
 obtain ⟨c1, c2, rfl⟩ := hc.shape
 have hKN : N2 = K := by rw [hN2.out, hK.out]; exact f2
 subst hKN
 obtain ⟨s1, s2, rfl⟩ := (OwnG.SL eS_len hs0).shape
 obtain ⟨p1, m, p2, rfl, hmm⟩ := hp.shape'
 have hs := Lib.hid hs0
 have hph := Lib.hid hp
 have cZ := Lib.hid (fun W => Zero_any W)
 generalize ps.length = n3 at *
 obtain ⟨n4, hn4⟩ : ∃ n, Hid (n = strs.length) := ⟨_, rfl⟩
 rw [← hn4.out] at hs ⊢
 obtain ⟨S, hS⟩ : ∃ S, Hid (S = vF (shownV ks vs) low) := ⟨_, rfl⟩
 rw [← hS.out]
 obtain ⟨RD, hRD⟩ : ∃ S', Hid (S' = leafD sha low S) := ⟨_, rfl⟩
 obtain ⟨RS, hRS⟩ : ∃ S', Hid (S' = strs ++ if S = [] then [] else [leafT low S]) := ⟨_, rfl⟩
 rw [← hRD.out, ← hRS.out]
 have hn5 := Lib.hid hn
 have hkl2 : N2 ≤ 64 := by rw [hK.out]; omega
 have hlh := Lib.hid hlow
 clear ha hb hc hs0 hp f1 f3 f4 f5 hkb hf hlow hop hn hkl
 go_enter Tryd.func59, Tryd.ntmps59
 go_upto_region 1 with (fail)
 obtain ⟨wo, hwo⟩ : ∃ w, w = W.alloc (.cells #[.slice a1 N2 a2, .slice b1 N2 b2, .slice c1 n3 c2] 37) := ⟨_, rfl⟩
 rw [← hwo]
 obtain ⟨bo, zo, co⟩ := box_world W wo _ _ _ 37 hwo
 obtain ⟨g0, g1, g2⟩ := co wo (Below.refl _ _)
 have Bo := B.trans (bo.mono B.size)
 have hs2 := Lib.hid (hs.out.below bo)
 have hk2 := Lib.hid (KeepR.of_below (.slice s1 n4 s2) bo)
 clear hwo co bo zo hs
 go_wp2_with fail
 refine (hw.out _ Bo).mono ?_
 rintro e w1 ⟨rfl, rfl⟩
 go_wp2_with fail
 go_loop [13] (fun iv => ∃ n : Nat, n ≤ N2 ∧ iv = .int .i64 n ∧ Hid (∀ j (hj : j < ks.length) (hj2 : j < vs.length), j < n → ks[j] = (low : Int) → vs[j] = [])) (fun iv => N2 - (intOf iv).toNat)
 case atStart => exact ⟨0, by omega, rfl, fun j _ _ h => by omega⟩
 case round =>
  obtain ⟨n, hn, rfl, hall⟩ := hrel
  by_cases hlt : n < N2
  ·have hnk : n < ks.length := by rw [← hK.out]; exact hlt
   have hnv : n < vs.length := by rw [← hN2.out]; exact hlt
   obtain ⟨q1, q2, q3, he, hcell⟩ := hka.out n hnk
   injection he with he1 he2 he3
   subst he1
   have hcc := hcell wo Bo
   obtain ⟨r1, r2, r3, he, hcell2⟩ := hva.out n hnv
   injection he with he4 he5 he6
   subst he4
   have hcd := hcell2 wo Bo
   have hshn := Lib.hid (hsh.out n hnk)
   have hsl := hsm.out vs[n] (List.getElem_mem hnv)
   clear hcell hcell2 he2 he3 he5 he6
   have i0 : (0 : Int) ≤ (n : Int) := by omega
   have i1 : (n : Int) < (N2 : Int) := by omega
   by_cases hkey : ks[n] = (low : Int)
   ·rw [hkey, Int.toNat_natCast] at hshn
    have hSn : Hid (S = vs[n]) := by show _ = _; rw [hS.out, hshn.out]
    have t1 : (ks[n] == (low : Int)) = true := by rw [beq_iff_eq]; exact hkey
    by_cases hz : vs[n] = []
    ·have hnew : Hid (∀ j (hj : j < ks.length) (hj2 : j < vs.length), j < n + 1 → ks[j] = (low : Int) → vs[j] = []) := by
      intro j hj hj2 h1 h2
      by_cases e : j = n
      ·subst e; exact hz
      ·exact hall.out j hj hj2 (by omega) h2
     rw [hz] at hcd
     rw [hkey] at hcc
     clear hall hshn hsl t1 hkey hSn hz
     go_wp2_with fail
     go_round
     case rel => exact ⟨n + 1, by omega, by go_num, hnew⟩
     case measure => simp [intOf]; omega
    ·have cl := Lib.hid (fun W => leafR_any low S W hlh.out (by rw [hSn.out]; omega))
     have hz2 := not_empty hz
     have hz3 : ¬ S = [] := by rw [hSn.out]; exact hz
     have hsS : S.length ≤ 65536 := by rw [hSn.out]; exact hsl
     have cs := Lib.hid (fun W => SumR (leafT low S) W (by simp [leafT]; omega))
     have hD : Hid (sha (leafT low S) = RD) := by show _ = _; rw [hRD.out, leafD, if_neg hz3]
     have hSS : Hid (strs ++ [leafT low S] = RS) := by show _ = _; rw [hRS.out, if_neg hz3]
     rw [← hSn.out] at hcd hz2
     rw [hkey] at hcc
     generalize leafT low S = t at *
     generalize sha t = d at *
     clear hall hshn hsl t1 hkey hSn hz hz3 hS hRD hRS
     go_wp2_with fail
     refine (cl.out _).mono ?_
     rintro e w2 ⟨rfl, b2⟩
     have B2 := Bo.trans (b2.mono Bo.size)
     go_wp2_with fail
     refine (cs.out _).mono ?_
     rintro e w3 ⟨rfl, b3⟩
     have B3 := B2.trans (b3.mono B2.size)
     obtain ⟨v', w', hrun, ho, hB, hKr⟩ := snocSK w3 W0.heap.size _ strs t ((hs2.out.below b2).below b3) (by have := hn5.out; omega) B3.size
     have hend := Lib.hid (show OS w' W0.heap.size v' (strs ++ [t]) ∧ Below W0.heap.size W0 w' ∧ KeepR (.slice s1 n4 s2) v' W w' from ⟨ho, B3.trans hB, ((hk2.out.trans (KeepR.of_below _ b2)).trans (KeepR.of_below _ b3)).trans hKr⟩)
     clear ho hB b2 b3 B2 B3 hs2 hKr
     go_wp2_with (at_builtin; refine wpList_append_runB rfl (.tmp 64) (.tmp 66) 35 rfl (.slice s1 n4 s2) (.slice (some ⟨w3.heap.size, 0, none⟩) 1 1) rfl rfl _ _ hrun ?_)
     go_ret3
     exact StPost.mk hD.out hSS.out hph.out hend.out.1 hend.out.2.1 hend.out.2.2
   ·have hnew : Hid (∀ j (hj : j < ks.length) (hj2 : j < vs.length), j < n + 1 → ks[j] = (low : Int) → vs[j] = []) := by
     intro j hj hj2 h1 h2
     by_cases e : j = n
     ·subst e; exact absurd h2 hkey
     ·exact hall.out j hj hj2 (by omega) h2
    generalize ks[n] = y at *
    have t1 : (y == (low : Int)) = false := by rw [beq_eq_false_iff_ne]; exact hkey
    clear hall hshn hsl hkey hcd
    go_wp2_with fail
    go_round
    case rel => exact ⟨n + 1, by omega, by go_num, hnew⟩
    case measure => simp [intOf]; omega
  ·have hS0 : S = [] := by
    rw [hS.out]
    by_cases hm : (low : Int) ∈ ks
    ·obtain ⟨j, hj, e⟩ := List.getElem_of_mem hm
     have h1 := hsh.out j hj
     rw [e, Int.toNat_natCast] at h1
     rw [h1]
     exact hall.out j hj (by rw [← hN2.out, hK.out]; exact hj) (by have := hK.out; omega) e
    ·exact hno.out hm
   have hD : Hid (zero32 = RD) := by show _ = _; rw [hRD.out, hS0]; rfl
   have hSS : Hid (strs = RS) := by show _ = _; rw [hRS.out, if_pos hS0, List.append_nil]
   have i1 : ¬ (n : Int) < (N2 : Int) := by omega
   generalize zero32 = Z at *
   clear hS hRD hRS hall hS0 hsh
   go_wp2_with fail
   refine (cZ.out _).mono ?_
   rintro e w2 ⟨rfl, b2⟩
   have B2 := Bo.trans (b2.mono Bo.size)
   go_wp2_with fail
   go_ret3
   exact StPost.mk hD.out hSS.out hph.out (hs2.out.below b2) B2 (hk2.out.trans (KeepR.of_below _ b2))
set_option maxRecDepth 100000 in
set_option maxHeartbeats 4000000 in
theorem stands_any (vo : Value) (W0 : World) (ho : OpV W0 vo ks vs ps) (hf : formB ks vs ps = true) :
  ∀ (h : Nat), h ≤ 6 → ∀ (i low : Nat) (pv sv : Value) (rest strs : List Str) (W : World), 1 ≤ i → low + 64 = i * 2 ^ h → (i + 1) * 2 ^ h ≤ 128 → (∀ p ∈ clF (tN ks) h i, p ∈ closedL (tN ks)) → Below W0.heap.size W0 W →
   SS W0 pv ((clF (tN ks) h i).map (cF (closedL (tN ks)) ps) ++ rest) → OS W W0.heap.size sv strs → strs.length + 2 ^ (h + 1) ≤ 1000 →
   Calls Tryd.prog 59 #[vo, .int .i64 (low : Int), .int .i64 ((2 ^ h : Nat) : Int), pv, sv] W (StPost W0 W sv (E sha (cF (closedL (tN ks)) ps) (vF (shownV ks vs)) i) rest (strs ++ hsd sha (cF (closedL (tN ks)) ps) (vF (shownV ks vs)) h i)) := by
 obtain ⟨f1, f2, f3, f4, f5⟩ := formB_facts ks vs ps hf
 have hCl := path_len ks ps f4 f5
 have hCm : ∀ p ∈ closedL (tN ks), cF (closedL (tN ks)) ps p ≠ [] := by
  intro p hp e
  have h1 := path_map ks ps f4
  have h2 : cF (closedL (tN ks)) ps p ∈ (closedL (tN ks)).map (cF (closedL (tN ks)) ps) := List.mem_map.2 ⟨p, hp, rfl⟩
  rw [h1] at h2
  have := f5 _ h2
  rw [e] at this; cases this
 have hCo := path_open ks ps f4
 have hkb := ascB_bd ks (-1) (by omega) f1
 have hkl := ascB_len ks (-1) (by omega) (by omega) f1
 have hclo := Lib.hid (fun (h i low : Nat) (pv sv : Value) (d : Str) (rest strs : List Str) (W : World) => stands_closed ks vs ps vo pv W0 ho hf h i low sv d rest strs W)
 have hlea := Lib.hid (fun (low : Nat) (pv sv : Value) (rest strs : List Str) (W : World) => stands_leaf ks vs ps vo pv W0 ho hf low sv rest strs W)
 have hoh := Lib.hid ho
 obtain ⟨a, b, c, rfl, ha, hb, hc⟩ := ho
 have hwi := Lib.hid (fun (low wd : Nat) (W' : World) (B' : Below W0.heap.size W0 W') (h1 : low ≤ 1000) (h2 : wd ≤ 1000) => withinR_any a ks low wd W' (ha.below B') (by omega) h1 h2)
 obtain ⟨a1, a2, rfl⟩ := ha.shape
 obtain ⟨b1, b2, rfl⟩ := hb.shape
 obtain ⟨c1, c2, rfl⟩ := hc.shape
 obtain ⟨C, hC⟩ : ∃ C, Hid (C = cF (closedL (tN ks)) ps) := ⟨_, rfl⟩
 obtain ⟨V, hV⟩ : ∃ V, Hid (V = vF (shownV ks vs)) := ⟨_, rfl⟩
 rw [← hC.out] at hCl hCm hCo ⊢
 rw [← hV.out] at hlea ⊢
 obtain ⟨n1, hn1⟩ : ∃ n, Hid (n = ks.length) := ⟨_, rfl⟩
 obtain ⟨n2, hn2⟩ : ∃ n, Hid (n = vs.length) := ⟨_, rfl⟩
 obtain ⟨n3, hn3⟩ : ∃ n, Hid (n = ps.length) := ⟨_, rfl⟩
 rw [← hn1.out, ← hn2.out, ← hn3.out] at hclo hlea ⊢
 rw [← hn1.out] at hwi
 clear ha hb hc hoh hf f1 f2 f3 f4 f5 hC hV hkl
 intro h
 induction h with
 | zero =>
  intro _ i low pv sv rest strs W hi hlow hhi hin B hp hs0 hn
  obtain rfl : i = 64 + low := by omega
  cases hop : op (tN ks) (64 + low) with
  | false =>
   have hCi := hCm (64 + low) (hin _ (by rw [clF_ok _ _ _ hop]; simp))
   rw [clF_ok _ _ _ hop] at hp
   rw [E_closed C V _ (by omega) hCi, hsd_closed C V _ _ hCi, List.append_nil]
   exact hclo.out 0 (64 + low) low pv sv _ rest strs W (by omega) hlow hhi hop B hp hs0
  | true =>
   have hCi := hCo (64 + low) hop
   rw [clF_zero _ _ hop] at hp
   have hE : E sha C V (64 + low) = leafD sha low (V low) := by
    rw [E_leaf sha C V _ (by omega), if_pos hCi, Nat.add_sub_cancel_left]
   have hH : hsd sha C V 0 (64 + low) = if V low = [] then [] else [leafT low (V low)] := by
    unfold hsd; rw [if_pos hCi, Nat.add_sub_cancel_left]
   rw [hE, hH]
   exact hlea.out low pv sv rest strs W (by omega) hop B hp hs0 (by simp at hn; omega)
 | succ h ih =>
  intro h6 i low pv sv rest strs W hi hlow hhi hin B hp hs0 hn
  cases hop : op (tN ks) i with
  | false =>
   have hCi := hCm i (hin _ (by rw [clF_ok _ _ _ hop]; simp))
   rw [clF_ok _ _ _ hop] at hp
   rw [E_closed C V _ hi hCi, hsd_closed C V _ _ hCi, List.append_nil]
   exact hclo.out (h + 1) i low pv sv _ rest strs W h6 hlow hhi hop B hp hs0
  | true =>
   have hCi := hCo i hop
   rw [clF_succ _ _ _ hop] at hp hin
   rw [List.map_append, List.append_assoc] at hp
   obtain ⟨g1, g2, g3, g4, g5, g6, g7, g8⟩ := geo h i low hi hlow hhi
   have p2 := Nat.pow_pos (n := h) (show 0 < 2 by omega)
   have i64 : i < 64 := by
    have : (i + 1) * 2 ≤ (i + 1) * 2 ^ (h + 1) := Nat.mul_le_mul_left _ (by omega)
    omega
   have hl1 := hs_len sha C V h (2 * i)
   have hl2 := hs_len sha C V h (2 * i + 1)
   have ep : 2 ^ (h + 1 + 1) = 2 ^ (h + 1) + 2 ^ (h + 1) := by rw [Nat.pow_succ]; omega
   have hE : E sha C V i = nodeD sha (E sha C V (2 * i)) (E sha C V (2 * i + 1)) := by
    rw [E_node sha C V i hi i64, if_pos hCi]
   have hH : hsd sha C V (h + 1) i = hsd sha C V h (2 * i) ++ hsd sha C V h (2 * i + 1) ++ (if E sha C V (2 * i) = zero32 ∧ E sha C V (2 * i + 1) = zero32 then [] else [9 :: (E sha C V (2 * i) ++ E sha C V (2 * i + 1))]) := by
    rw [hsd, if_pos hCi]
   have la := Ec_len sha sha_len C V (2 * i) (by omega) hCl
   have lb := Ec_len sha sha_len C V (2 * i + 1) (by omega) hCl
   rw [hE, hH]
   have hw := Lib.hid (show ∀ W', Below W0.heap.size W0 W' → Calls Tryd.prog 73 #[.slice a1 n1 a2, .int .i64 (low : Int), .int .i64 ((2 ^ (h + 1) : Nat) : Int)] W' fun e w' => e = .returned (.bool true) ∧ W' = w' from fun W' B' => by
    have := hwi.out low (2 ^ (h + 1)) W' B' (by omega) (by omega)
    rw [win_op ks (h + 1) i low (fun k hk => by have := hkb k hk; omega) (by omega) hlow hhi, hop] at this
    exact this)
   have hA := Lib.hid (fun sv strs W B h1 h2 => ih (by omega) (2 * i) low pv sv ((clF (tN ks) h (2 * i + 1)).map C ++ rest) strs W (by omega) (by omega) (by omega) (fun p hp => hin p (List.mem_append.2 (.inl hp))) B hp h1 h2)
   have hB := Lib.hid (fun pv sv strs W B h0 h1 h2 => ih (by omega) (2 * i + 1) (low + 2 ^ h) pv sv rest strs W (by omega) (by omega) (by omega) (fun p hp => hin p (List.mem_append.2 (.inr hp))) B h0 h1 h2)
   rw [Int.natCast_add] at hB
   have cZ := Lib.hid (fun W => Zero_any W)
   obtain ⟨sa, sc, rfl⟩ := (OwnG.SL eS_len hs0).shape
   obtain ⟨p1, pn, p3, rfl, hpn⟩ := hp.shape'
   have hdiv1 : ((2 ^ (h + 1) : Nat) : Int).tdiv 2 = ((2 ^ h : Nat) : Int) := by
    rw [g5, Int.tdiv_eq_ediv_of_nonneg (by omega)]; omega
   have hdiv2 : ((2 ^ (h + 1) : Nat) : Int) / 2 = ((2 ^ h : Nat) : Int) := by rw [g5]; omega
   have t1 : (((2 ^ (h + 1) : Nat) : Int) == 1) = false := by rw [beq_eq_false_iff_ne]; omega
   generalize E sha C V (2 * i) = a at *
   generalize E sha C V (2 * i + 1) = b at *
   generalize hsd sha C V h (2 * i) = S1 at *
   generalize hsd sha C V h (2 * i + 1) = S2 at *
   have hn1 : strs.length + 2 ^ (h + 1) ≤ 1000 := by omega
   have hn2 : (strs ++ S1).length + 2 ^ (h + 1) ≤ 1000 := by rw [List.length_append]; omega
   have hn3 : (strs ++ S1 ++ S2).length ≤ 1000 := by rw [List.length_append, List.length_append]; omega
   clear ih hE hH g1 g2 g3 g4 g5 hl1 hl2 ep hlow hhi hn hin hop hCi hCl hCm hCo hclo hlea hwi hkb hp
   generalize 2 ^ (h + 1) = wd at *
   generalize 2 ^ h = q at *
   have cs := Lib.hid (fun W => SumR (9 :: (a ++ b)) W (by simp; omega))
   have hcat : Hid ((({ data := #[9] } : ByteArray) ++ { data := List.toArray a } ++ { data := List.toArray b }) = ⟨(9 :: (a ++ b)).toArray⟩) := by
    show _ = _
    apply ByteArray.ext; simp
   unfold nodeD
   have hsh := Lib.hid hs0
   have hn1 := Lib.hid hn1
   have hn2 := Lib.hid hn2
   have hn3 := Lib.hid hn3
   generalize zero32 = Z at *
   generalize sha (9 :: (a ++ b)) = d at *
   obtain ⟨RD, hRD⟩ : ∃ R, Hid (R = if a = Z ∧ b = Z then Z else d) := ⟨_, rfl⟩
   obtain ⟨RS, hRS⟩ : ∃ R, Hid (R = strs ++ (S1 ++ S2 ++ if a = Z ∧ b = Z then [] else [9 :: (a ++ b)])) := ⟨_, rfl⟩
   rw [← hRD.out, ← hRS.out]
   obtain ⟨ns, hns⟩ : ∃ n, Hid (n = strs.length) := ⟨_, rfl⟩
   rw [← hns.out] at hsh ⊢
   clear hs0 p2
   rename_i x1 x2 x3; clear x1 x2 x3
   go_enter Tryd.func59, Tryd.ntmps59
   go_upto_region 1 with (fail)
   obtain ⟨wo, hwo⟩ : ∃ w, w = W.alloc (.cells #[.slice a1 n1 a2, .slice b1 n2 b2, .slice c1 n3 c2] 37) := ⟨_, rfl⟩
   rw [← hwo]
   have bo : Below W.heap.size W wo := by rw [hwo]; exact (Below.refl _ _).alloc (Nat.le_refl _) _
   have hb0 : wo.heap[W.heap.size]? = some (.cells #[.slice a1 n1 a2, .slice b1 n2 b2, .slice c1 n3 c2] 37 (0, 0)) := by rw [hwo]; exact heap_alloc_new _ _
   have hbz : W.heap.size < wo.heap.size := by rw [hwo]; simp
   have hbo : (Value.slice sa ns sc).ownBlock ≠ some W.heap.size := fun e => by have := OwnG.lt hsh.out _ e; omega
   have kr0 := Lib.hid (KeepR.of_below (.slice sa ns sc) bo)
   have Bo := B.trans (bo.mono B.size)
   have hs1 := Lib.hid (hsh.out.below bo)
   clear hwo bo hsh
   have g0 : wo.cell? ⟨W.heap.size, 0, none⟩ = some (.slice a1 n1 a2) := cell_of_row wo _ 0 _ 37 (0, 0) hb0
   have g1 : wo.cell? ⟨W.heap.size, 1, none⟩ = some (.slice b1 n2 b2) := cell_of_row wo _ 1 _ 37 (0, 0) hb0
   have g2 : wo.cell? ⟨W.heap.size, 2, none⟩ = some (.slice c1 n3 c2) := cell_of_row wo _ 2 _ 37 (0, 0) hb0
   go_wp2_with fail
   refine (hw.out _ Bo).mono ?_
   rintro e w0 ⟨rfl, rfl⟩
   go_wp2_with fail
   refine (hA.out _ _ _ Bo hs1.out hn1.out).mono ?_
   rintro e w1 ⟨pv1, sv1, rfl, op1, o1, B1, kr1⟩
   have hb1 := (kr1.2.1 _ hbz hbo).trans hb0
   have kr1h := Lib.hid (kr0.out.trans kr1)
   obtain ⟨p4, p5, p6, hpsh, hp5⟩ := op1.shape'
   subst hpsh
   obtain ⟨sa1, sc1, hsh1⟩ := (OwnG.SL eS_len o1).shape
   obtain ⟨m1, hm1⟩ : ∃ n, Hid (n = (strs ++ S1).length) := ⟨_, rfl⟩
   rw [← hm1.out] at hsh1
   subst hsh1
   have o1 := Lib.hid o1
   have op1 := Lib.hid op1
   rename_i x1 x2
   clear x1 x2 kr1 hb0 g0 g1 g2 hs1 hA
   have g0 : w1.cell? ⟨W.heap.size, 0, none⟩ = some (.slice a1 n1 a2) := cell_of_row w1 _ 0 _ 37 (0, 0) hb1
   have g1 : w1.cell? ⟨W.heap.size, 1, none⟩ = some (.slice b1 n2 b2) := cell_of_row w1 _ 1 _ 37 (0, 0) hb1
   have g2 : w1.cell? ⟨W.heap.size, 2, none⟩ = some (.slice c1 n3 c2) := cell_of_row w1 _ 2 _ 37 (0, 0) hb1
   go_wp2_with fail
   refine (hB.out _ _ _ _ B1 op1.out o1.out hn2.out).mono ?_
   rintro e w2 ⟨pv2, sv2, rfl, op2, o2, B2, kr2⟩
   have kr2h := Lib.hid (kr1h.out.trans kr2)
   obtain ⟨p7, p8, p9, hpsh, hp8⟩ := op2.shape'
   subst hpsh
   obtain ⟨sa2, sc2, hsh2⟩ := (OwnG.SL eS_len o2).shape
   obtain ⟨m2, hm2⟩ : ∃ n, Hid (n = (strs ++ S1 ++ S2).length) := ⟨_, rfl⟩
   rw [← hm2.out] at hsh2
   subst hsh2
   have o2 := Lib.hid o2
   have op2 := Lib.hid op2
   rename_i x1 x2
   clear x1 x2 kr2 hb1 g0 g1 g2 o1 op1 hB kr0 kr1h hbz hbo
   go_wp2_with fail
   refine (cZ.out _).mono ?_
   rintro e w3 ⟨rfl, b3⟩
   have B3 := B2.trans (b3.mono B2.size)
   have o3 := Lib.hid (o2.out.below b3)
   have kr3 := Lib.hid (kr2h.out.trans (KeepR.of_below _ b3))
   clear b3 o2 kr2h
   by_cases haZ : a = Z
   ·have t2 : (a == Z) = true := by rw [beq_iff_eq]; exact haZ
    by_cases hbZ : b = Z
    ·have t3 : (b == Z) = true := by rw [beq_iff_eq]; exact hbZ
     have hD : Hid (Z = RD) := by show _ = _; rw [hRD.out, if_pos ⟨haZ, hbZ⟩]
     have hS : Hid (strs ++ S1 ++ S2 = RS) := by show _ = _; rw [hRS.out, if_pos ⟨haZ, hbZ⟩, List.append_nil, ← List.append_assoc]
     clear haZ hbZ hRD hRS
     go_wp2_with fail
     refine (cZ.out _).mono ?_
     rintro e w4 ⟨rfl, b4⟩
     have B4 := B3.trans (b4.mono B3.size)
     have o4 := Lib.hid (o3.out.below b4)
     have kr4 := Lib.hid (kr3.out.trans (KeepR.of_below _ b4))
     clear b4
     go_wp2_with fail
     refine (cZ.out _).mono ?_
     rintro e w5 ⟨rfl, b5⟩
     have B5 := B4.trans (b5.mono B4.size)
     have o5 := Lib.hid (o4.out.below b5)
     have kr5 := Lib.hid (kr4.out.trans (KeepR.of_below _ b5))
     clear b5
     go_wp2_with fail
     go_ret3
     exact StPost.mk hD.out hS.out op2.out o5.out B5 kr5.out
    ·have t3 : (b == Z) = false := by rw [beq_eq_false_iff_ne]; exact hbZ
     have hD : Hid (d = RD) := by show _ = _; rw [hRD.out, if_neg (fun h => hbZ h.2)]
     have hS : Hid (strs ++ S1 ++ S2 ++ [9 :: (a ++ b)] = RS) := by show _ = _; rw [hRS.out, if_neg (fun h => hbZ h.2), ← List.append_assoc, ← List.append_assoc]
     clear haZ hbZ hRD hRS
     go_wp2_with fail
     refine (cZ.out _).mono ?_
     rintro e w4 ⟨rfl, b4⟩
     have B4 := B3.trans (b4.mono B3.size)
     have o4 := Lib.hid (o3.out.below b4)
     have kr4 := Lib.hid (kr3.out.trans (KeepR.of_below _ b4))
     clear b4
     go_wp2_with fail
     rw [hcat.out]
     refine (cs.out _).mono ?_
     rintro e w5 ⟨rfl, b5⟩
     have B5 := B4.trans (b5.mono B4.size)
     obtain ⟨v', w', hrun, ho, hBB, hKr⟩ := snocSK w5 W0.heap.size _ _ (9 :: (a ++ b)) (o4.out.below b5) (by have := hn3.out; omega) B5.size
     have hend := Lib.hid (show OS w' W0.heap.size v' (strs ++ S1 ++ S2 ++ [9 :: (a ++ b)]) ∧ Below W0.heap.size W0 w' ∧ KeepR (.slice sa ns sc) v' W w' from ⟨ho, B5.trans hBB, (kr4.out.trans (KeepR.of_below _ b5)).trans hKr⟩)
     clear ho hBB hKr b5
     go_wp2_with (at_builtin; refine wpList_append_runB rfl (.tmp 114) (.tmp 116) 35 rfl (.slice sa2 m2 sc2) (.slice (some ⟨w5.heap.size, 0, none⟩) 1 1) rfl rfl _ _ hrun ?_)
     go_ret3
     exact StPost.mk hD.out hS.out op2.out hend.out.1 hend.out.2.1 hend.out.2.2
   ·have t2 : (a == Z) = false := by rw [beq_eq_false_iff_ne]; exact haZ
    have hD : Hid (d = RD) := by show _ = _; rw [hRD.out, if_neg (fun h => haZ h.1)]
    have hS : Hid (strs ++ S1 ++ S2 ++ [9 :: (a ++ b)] = RS) := by show _ = _; rw [hRS.out, if_neg (fun h => haZ h.1), ← List.append_assoc, ← List.append_assoc]
    clear haZ hRD hRS
    go_wp2_with fail
    rw [hcat.out]
    refine (cs.out _).mono ?_
    rintro e w5 ⟨rfl, b5⟩
    have B5 := B3.trans (b5.mono B3.size)
    obtain ⟨v', w', hrun, ho, hBB, hKr⟩ := snocSK w5 W0.heap.size _ _ (9 :: (a ++ b)) (o3.out.below b5) (by have := hn3.out; omega) B5.size
    have hend := Lib.hid (show OS w' W0.heap.size v' (strs ++ S1 ++ S2 ++ [9 :: (a ++ b)]) ∧ Below W0.heap.size W0 w' ∧ KeepR (.slice sa ns sc) v' W w' from ⟨ho, B5.trans hBB, (kr3.out.trans (KeepR.of_below _ b5)).trans hKr⟩)
    clear ho hBB hKr b5
    go_wp2_with (at_builtin; refine wpList_append_runB rfl (.tmp 114) (.tmp 116) 35 rfl (.slice sa2 m2 sc2) (.slice (some ⟨w5.heap.size, 0, none⟩) 1 1) rfl rfl _ _ hrun ?_)
    go_ret3
    exact StPost.mk hD.out hS.out op2.out hend.out.1 hend.out.2.1 hend.out.2.2
end
end Go.Proofs.YtegahpfmkepfmaaDoor
namespace Go.Proofs.YtegahpfmkepfmaaDoor
open Go.RowKit
def openL (ks : List Int) (vs ps : List Str) : List Str := if formB ks vs ps = true then opL ks vs ps else []
set_option maxRecDepth 100000 in
set_option maxHeartbeats 4000000 in
theorem Opened_any (vo : Value) (ks : List Int) (vs ps : List Str) (w : World) {W0 : World} (ho : OpV W0 vo ks vs ps) (hW : W0 = w) (hk : ks.length ≤ 100000) (hKI : ∀ x ∈ ks, I64 x) (hvl : vs.length ≤ 9223372036854775807) (hpl : ps.length ≤ 9223372036854775807) :
  Calls Tryd.prog 32 #[vo] w (HPost (openL ks vs ps) w) := by
 subst hW
 have cF := Lib.hid (show ∀ W, Below W0.heap.size W0 W → _ from fun W B => FormedR_any vo ks vs ps W (ho.below B) rfl hk hKI hvl hpl)
 have cS := Lib.hid (show formB ks vs ps = true → ∀ pv W, SS W0 pv ps → Below W0.heap.size W0 W → Calls Tryd.prog 59 #[vo, .int .i64 0, .int .i64 64, pv, .slice none 0 0] W (StPost W0 W (.slice none 0 0) (standS ks ps (shownV ks vs)) [] (opL ks vs ps)) from fun hf pv W hp B => by
  obtain ⟨f1, f2, f3, f4, f5⟩ := formB_facts ks vs ps hf
  have := stands_any ks vs ps vo W0 ho hf 6 (by omega) 1 0 pv (.slice none 0 0) [] [] W (by omega) (by omega) (by omega) (fun p hp => hp) B (by
   rw [List.append_nil]
   have e := path_map ks ps f4
   unfold closedL at e ⊢
   rw [e]; exact hp) (OwnG.nil _ _) (by simp)
  exact this)
 obtain ⟨a, b, c, rfl, ha, hb, hc⟩ := ho
 have hcs := Lib.hid hc
 obtain ⟨a1, n1, a2, rfl, hN1⟩ := ha.shape'
 obtain ⟨b1, n2, b2, rfl, hN2⟩ := hb.shape'
 obtain ⟨c1, n3, c2, rfl, hN3⟩ := hc.shape'
 clear ha hb hc hKI hk hvl hpl
 cases hf : formB ks vs ps with
 | false =>
  have hr : openL ks vs ps = [] := by unfold openL; rw [hf]; rfl
  rw [hr]
  rw [hf] at cF
  clear hr hf cS
  go_enter Tryd.func32, Tryd.ntmps32
  go_upto_region 1 with (fail)
  obtain ⟨wo, hwo⟩ : ∃ w, w = W0.alloc (.cells #[.slice a1 n1 a2, .slice b1 n2 b2, .slice c1 n3 c2] 37) := ⟨_, rfl⟩
  rw [← hwo]
  obtain ⟨bo, zo, co⟩ := box_world W0 wo _ _ _ 37 hwo
  obtain ⟨g0, g1, g2⟩ := co wo (Below.refl _ _)
  clear hwo zo co
  go_wp2_with fail
  refine (cF.out _ bo).mono ?_
  rintro e w1 ⟨rfl, b1⟩
  have B1 := bo.trans (b1.mono bo.size)
  clear g0 g1 g2
  go_wp2_with fail
  go_ret
  exact ⟨_, rfl, SLG.nil _ _ _, B1⟩
 | true =>
  have hr : openL ks vs ps = opL ks vs ps := by unfold openL; rw [hf]; rfl
  rw [hr]
  have cS := Lib.hid (fun pv => cS.out hf pv)
  rw [hf] at cF
  generalize opL ks vs ps = S at *
  generalize standS ks ps (shownV ks vs) = D at *
  clear hr hf
  rename_i x1; clear x1
  go_enter Tryd.func32, Tryd.ntmps32
  go_upto_region 1 with (fail)
  obtain ⟨wo, hwo⟩ : ∃ w, w = W0.alloc (.cells #[.slice a1 n1 a2, .slice b1 n2 b2, .slice c1 n3 c2] 37) := ⟨_, rfl⟩
  rw [← hwo]
  obtain ⟨bo, zo, co⟩ := box_world W0 wo _ _ _ 37 hwo
  have co := Lib.hid co
  rename_i x1; clear x1 hwo zo
  obtain ⟨g0, g1, g2⟩ := co.out wo (Below.refl _ _)
  go_wp2_with fail
  refine (cF.out _ bo).mono ?_
  rintro e w1 ⟨rfl, b1⟩
  have B1 := bo.trans (b1.mono bo.size)
  clear g0 g1 g2
  obtain ⟨g0, g1, g2⟩ := co.out w1 b1
  go_wp2_with fail
  refine (cS.out _ _ hcs.out B1).mono ?_
  rintro e w2 ⟨pv, sv, rfl, hp, ho, B2, _⟩
  obtain ⟨p4, p5, p6, hpsh, hp5⟩ := hp.shape'
  subst hpsh
  obtain ⟨s4, s6, hsh⟩ := (OwnG.SL eS_len ho).shape
  obtain ⟨s5, hs5⟩ : ∃ n, Hid (n = S.length) := ⟨_, rfl⟩
  rw [← hs5.out] at hsh
  subst hsh
  have hend := Lib.hid (show SS w2 (.slice s4 s5 s6) S ∧ Below W0.heap.size W0 w2 from ⟨OwnG.SL eS_len ho, B2⟩)
  clear g0 g1 g2 ho hp B2
  go_wp2_with fail
  go_ret
  exact ⟨_, rfl, hend.out⟩
set_option maxRecDepth 100000 in
set_option maxHeartbeats 4000000 in
theorem Stands_any (vo : Value) (ks : List Int) (vs ps : List Str) (w : World) {W0 : World} (ho : OpV W0 vo ks vs ps) (hW : W0 = w) (hf : formB ks vs ps = true) :
  Calls Tryd.prog 54 #[vo] w fun e w' => e = .returned (.string ⟨(standS ks ps (shownV ks vs)).toArray⟩) ∧ Below w.heap.size w w' := by
 subst hW
 have cS := Lib.hid (show ∀ pv W, SS W0 pv ps → Below W0.heap.size W0 W → Calls Tryd.prog 59 #[vo, .int .i64 0, .int .i64 64, pv, .slice none 0 0] W (StPost W0 W (.slice none 0 0) (standS ks ps (shownV ks vs)) [] (opL ks vs ps)) from fun pv W hp B => by
  obtain ⟨f1, f2, f3, f4, f5⟩ := formB_facts ks vs ps hf
  have := stands_any ks vs ps vo W0 ho hf 6 (by omega) 1 0 pv (.slice none 0 0) [] [] W (by omega) (by omega) (by omega) (fun p hp => hp) B (by
   rw [List.append_nil]
   have e := path_map ks ps f4
   unfold closedL at e ⊢
   rw [e]; exact hp) (OwnG.nil _ _) (by simp)
  exact this)
 obtain ⟨a, b, c, rfl, ha, hb, hc⟩ := ho
 have hcs := Lib.hid hc
 obtain ⟨a1, n1, a2, rfl, hN1⟩ := ha.shape'
 obtain ⟨b1, n2, b2, rfl, hN2⟩ := hb.shape'
 obtain ⟨c1, n3, c2, rfl, hN3⟩ := hc.shape'
 generalize opL ks vs ps = S at *
 generalize standS ks ps (shownV ks vs) = D at *
 clear ha hb hc hf
 go_enter Tryd.func54, Tryd.ntmps54
 go_upto_region 1 with (fail)
 obtain ⟨wo, hwo⟩ : ∃ w, w = W0.alloc (.cells #[.slice a1 n1 a2, .slice b1 n2 b2, .slice c1 n3 c2] 37) := ⟨_, rfl⟩
 rw [← hwo]
 obtain ⟨bo, zo, co⟩ := box_world W0 wo _ _ _ 37 hwo
 obtain ⟨g0, g1, g2⟩ := co wo (Below.refl _ _)
 clear hwo zo co
 go_wp2_with fail
 refine (cS.out _ _ hcs.out bo).mono ?_
 rintro e w2 ⟨pv, sv, rfl, hp, ho, B2, _⟩
 obtain ⟨p4, p5, p6, hpsh, hp5⟩ := hp.shape'
 subst hpsh
 obtain ⟨s4, s6, hsh⟩ := (OwnG.SL eS_len ho).shape
 obtain ⟨s5, hs5⟩ : ∃ n, Hid (n = S.length) := ⟨_, rfl⟩
 rw [← hs5.out] at hsh
 subst hsh
 have hB := Lib.hid B2
 clear g0 g1 g2 ho hp B2
 go_wp2_with fail
 go_ret
 exact ⟨rfl, hB.out⟩
end Go.Proofs.YtegahpfmkepfmaaDoor
namespace Go.Proofs.YtegahpfmkepfmaaDoor
open Go.RowKit
/-- every block but g stays -/
def Frm (w w' : World) (g : Nat) : Prop := w.heap.size ≤ w'.heap.size ∧ ∀ k, k < w.heap.size → k ≠ g → w'.heap[k]? = w.heap[k]?
theorem Frm.alloc (w : World) (o : Obj) : Frm w (w.alloc o) w.heap.size := ⟨by simp, fun k hk _ => ((Below.refl w.heap.size w).alloc (Nat.le_refl _) o).block k hk⟩
theorem Frm.of_below {w w' : World} (B : Below w.heap.size w w') : Frm w w' w.heap.size := ⟨B.size, fun k hk _ => B.block k hk⟩
def Lit (t : TypeId) (B0 : Nat) (w : World) (g : Nat) : Prop := B0 ≤ g ∧ g < w.heap.size ∧ w.heap[g]? = some (.cells #[] t (0, 0))
theorem Lit.keep {t : TypeId} {B0 : Nat} {w w' : World} {g k : Nat} (h : Lit t B0 w g) (F : Frm w w' k) (hne : g ≠ k) : Lit t B0 w' g := ⟨h.1, Nat.lt_of_lt_of_le h.2.1 F.1, (F.2 g h.2.1 hne).trans h.2.2⟩
theorem Lit.new {t : TypeId} {B0 : Nat} {w : World} (hb : B0 ≤ w.heap.size) : Lit t B0 (w.alloc (.cells #[] t)) w.heap.size := ⟨hb, by simp, heap_alloc_new w _⟩
def Box3 (B0 : Nat) (w : World) (g : Nat) (a b c : Value) : Prop := B0 ≤ g ∧ g < w.heap.size ∧ w.heap[g]? = some (.cells #[a, b, c] 37 (0, 0))
theorem Box3.keep {B0 : Nat} {w w' : World} {g k : Nat} {a b c : Value} (h : Box3 B0 w g a b c) (F : Frm w w' k) (hne : g ≠ k) : Box3 B0 w' g a b c := ⟨h.1, Nat.lt_of_lt_of_le h.2.1 F.1, (F.2 g h.2.1 hne).trans h.2.2⟩
theorem Box3.new {B0 : Nat} {w : World} (hb : B0 ≤ w.heap.size) (a b c : Value) : Box3 B0 (w.alloc (.cells #[a, b, c] 37)) w.heap.size a b c := ⟨hb, by simp, heap_alloc_new w _⟩
def RowK {α : Type} (enc : α → List Value) (t : TypeId) (B0 : Nat) (w : World) (g : Nat) (v : Value) (l : List α) : Prop := B0 ≤ g ∧ g < w.heap.size ∧ OwnG enc 1 t w B0 v l ∧ ∀ k, v.ownBlock = some k → k = g
theorem RowK.keep {α : Type} {enc : α → List Value} {t : TypeId} {B0 : Nat} {w w' : World} {g k : Nat} {v : Value} {l : List α} (h : RowK enc t B0 w g v l) (F : Frm w w' k) (hne : g ≠ k) : RowK enc t B0 w' g v l := by
 refine ⟨h.1, Nat.lt_of_lt_of_le h.2.1 F.1, ?_, h.2.2.2⟩
 have h3 := h.2.2.1
 unfold OwnG at h3 ⊢
 refine ⟨h3.1, ?_⟩
 rcases h3.2 with h5 | ⟨g', cap, cur, h4, h5, h6, h7⟩
 ·exact .inl h5
 ·have e : g' = g := h.2.2.2 g' (by rw [h4]; rfl)
  subst e
  exact .inr ⟨g', cap, cur, h4, h5, (F.2 g' h.2.1 hne).trans h6, h7⟩
/-- append to an empty literal that was made before -/
theorem app_lit {α : Type} {enc : α → List Value} {t : TypeId} (henc : ∀ x, (enc x).length = 1) (hone : ∀ x, ∀ u ∈ enc x, u.oneCell' = true) (T ty : TypeId) {f0 : TypeInfo} {z : Value} {bytes : Nat}
  (hT : Tryd.prog.underlying T = some (.slice t)) (hf : Tryd.prog.info? t = some f0) (hz0 : f0.zero = some z) (hz1 : f0.size = 1) (hz2 : f0.bytes = bytes) (hz3 : z.cells.size = 1) (hby : bytes ≤ 1000)
  (w : World) (B0 g : Nat) (h : Lit t B0 w g) (v : Value) (l : List α) (hv : SLG enc 1 w v l) (hl : l.length ≤ 1000000000) (hB0 : B0 ≤ w.heap.size) :
  ∃ v' w' g', (∃ a k c, v' = .slice a k c) ∧ (Builtin.append_ #[T, T] ty #[.slice (some ⟨g, 0, none⟩) 0 0, v]).run Tryd.prog w = .ok v' w' ∧ RowK enc t B0 w' g' v' l ∧ Below B0 w w' ∧ Frm w w' g ∧ (g' = g ∨ w.heap.size ≤ g') := by
 have hown : World.ownsRow w B0 t 1 (.slice (some ⟨g, 0, none⟩) 0 0) 0 [] := ⟨rfl, .inr ⟨g, 0, #[], rfl, h.1, h.2.2, Nat.le_refl _, by unfold maxLen; omega, rfl, rfl⟩⟩
 rcases hv with ⟨rfl, a, c, rfl⟩ | ⟨h1, b, o, c, rfl, h3, h4, hL⟩
 ·refine ⟨.slice (some ⟨g, 0, none⟩) 0 0, w, g, ⟨_, _, _, rfl⟩, ?_, ⟨h.1, h.2.1, hown, fun k hk => by simpa [Value.ownBlock] using hk.symm⟩, Below.refl _ _, ⟨Nat.le_refl _, fun _ _ _ => rfl⟩, .inl rfl⟩
  have hfn := run_firstCells_none (P := Tryd.prog) (w := w) f0.size 0 0 c
  have hfs := fun a => run_firstCells_some (P := Tryd.prog) w f0.size 0 a 0 c [] (by simp) (by simp)
  have hgg := run_firstCells_some (P := Tryd.prog) w f0.size 0 ⟨g, 0, none⟩ 0 0 [] (by simp) (by simp)
  cases a with
  | none => simp [Builtin.append_, run_underlying hT, sizeOf, typeInfo, zeroValue, hf, hz0, Builtin.lenOf, Question.forced, hfn, storeCells]
  | some x => simp [Builtin.append_, run_underlying hT, sizeOf, typeInfo, zeroValue, hf, hz0, Builtin.lenOf, Question.forced, hfs, storeCells]
 ·have hn : l.length ≠ 0 := fun e => h1 (List.length_eq_zero_iff.1 e)
  have hbb : (0 + l.length) * bytes ≤ 140737488355328 := by
   have : l.length * bytes ≤ l.length * 1000 := Nat.mul_le_mul_left _ hby
   rw [Nat.zero_add]; omega
  obtain ⟨g', cap, w', hr, ho, hg, hat, hlt⟩ := run_append_lies (P := Tryd.prog) w T ty B0 t f0 z 1 bytes hT hf hz0 hz1 hz2 hz3 (by omega) _ 0 [] hown ⟨b, o, none⟩ l.length c (l.flatMap enc) (by simpa using flat_len henc l)
   (fun j u e => by
    have hj := (List.getElem?_eq_some_iff.1 e).1
    rw [flat_len henc] at hj
    have hd : j / 1 < l.length := by simpa using hj
    have hj2 : j = j / 1 * 1 + 0 := by simp
    rw [hj2, flat_at henc l (j / 1) l[j / 1] 0 (List.getElem?_eq_getElem hd) (by omega)] at e
    rw [Addr.add_lit, hj2, ← Nat.add_assoc]
    exact hL (j / 1) _ 0 u (List.getElem?_eq_getElem hd) e) (fun u hu => by obtain ⟨x, _, hx⟩ := List.mem_flatMap.1 hu; exact hone x u hx) (by omega) (by unfold maxLen; omega) hbb hB0 w.heap.size rfl
  have hob : (Value.slice (some ⟨g, 0, none⟩) 0 0).ownBlock = some g := rfl
  rw [hob] at hg hat
  refine ⟨_, w', g', ⟨_, _, _, rfl⟩, hr, ⟨?_, hlt, ?_, fun k hk => by simpa [Value.ownBlock] using hk.symm⟩, (Below.refl B0 w).grown hg hB0 (fun k hk => by cases hk; exact h.1), ⟨hg.size, fun k hk hne => hg.block k hk (fun e => hne (by cases e; rfl))⟩, ?_⟩
  ·rcases hat with e | e
   ·cases e; exact h.1
   ·rw [e]; exact hB0
  ·unfold OwnG
   simpa using ho
  ·rcases hat with e | e
   ·cases e; exact .inl rfl
   ·exact .inr (by omega)
theorem app_litI (w : World) (B0 g : Nat) (h : Lit 3 B0 w g) (v : Value) (l : List Int) (hv : SI w v l) (hl : l.length ≤ 1000000000) (hB0 : B0 ≤ w.heap.size) :
  ∃ v' w' g', (∃ a k c, v' = .slice a k c) ∧ (Builtin.append_ #[24, 24] 24 #[.slice (some ⟨g, 0, none⟩) 0 0, v]).run Tryd.prog w = .ok v' w' ∧ RowK eI 3 B0 w' g' v' l ∧ Below B0 w w' ∧ Frm w w' g ∧ (g' = g ∨ w.heap.size ≤ g') := by
 obtain ⟨i0, hi, hz0, hz1, hz2⟩ := info_parts infoInt
 exact app_lit eI_len eI_one 24 24 Tryd.underlying24 hi hz0 hz1 hz2 rfl (by omega) w B0 g h v l hv hl hB0
theorem app_litS (w : World) (B0 g : Nat) (h : Lit 9 B0 w g) (v : Value) (l : List Str) (hv : SS w v l) (hl : l.length ≤ 1000000000) (hB0 : B0 ≤ w.heap.size) :
  ∃ v' w' g', (∃ a k c, v' = .slice a k c) ∧ (Builtin.append_ #[35, 35] 35 #[.slice (some ⟨g, 0, none⟩) 0 0, v]).run Tryd.prog w = .ok v' w' ∧ RowK eS 9 B0 w' g' v' l ∧ Below B0 w w' ∧ Frm w w' g ∧ (g' = g ∨ w.heap.size ≤ g') := by
 obtain ⟨i0, hi, hz0, hz1, hz2⟩ := info_parts info9
 exact app_lit eS_len eS_one 35 35 Tryd.underlying35 hi hz0 hz1 hz2 rfl (by omega) w B0 g h v l hv hl hB0
end Go.Proofs.YtegahpfmkepfmaaDoor
namespace Go.Proofs.YtegahpfmkepfmaaDoor
open Go.RowKit
theorem Frm.setCell (w : World) (g i : Nat) (u : Value) : Frm w (w.setCell ⟨g, i, none⟩ u) g :=
 ⟨(KeepsWalks.setCell w _ u).size, fun k _ hk => Below.heap_setCell _ _ _ k (fun e => hk (by rw [e]))⟩
theorem Frm.setRow (w : World) (g : Nat) (cs : Array Value) : Frm w (w.setRow g cs) g := by
 have h := grownBy_setRow w g cs
 exact ⟨h.size, fun k hk hne => h.block k hk (fun e => hne (by cases e; rfl))⟩
theorem Frm.trans {w w1 w2 : World} {g : Nat} (h : Frm w w1 g) (k : Frm w1 w2 g) : Frm w w2 g := ⟨Nat.le_trans h.1 k.1, fun b hb hne => (k.2 b (Nat.lt_of_lt_of_le hb h.1) hne).trans (h.2 b hb hne)⟩
theorem Frm.drew (w : World) (g : Nat) : Frm w w.drew g := ⟨(Below.refl w.heap.size w).drew.size, fun k hk _ => (Below.refl w.heap.size w).drew.block k hk⟩
/-- the cells of a row of one's own -/
theorem flat1 {α : Type} (f : α → Value) (l : List α) : (l.flatMap (fun x => [f x])).length = l.length := by
 rw [← List.map_eq_flatMap, List.length_map]
theorem RowK.open {α : Type} {enc : α → List Value} {t : TypeId} {B0 : Nat} {w : World} {g : Nat} {v : Value} {l : List α} (h : RowK enc t B0 w g v l) (hl : 0 < l.length) :
  ∃ c cur, v = .slice (some ⟨g, 0, none⟩) l.length c ∧ l.length ≤ c ∧ w.heap[g]? = some (.cells cur t (0, 0)) ∧ cur.size = c ∧ cur.toList.take l.length = l.flatMap enc := by
 have h3 := h.2.2.1
 unfold OwnG at h3
 rcases h3.2 with ⟨_, h5⟩ | ⟨g', cap, cur, h4, h5, h6, h7, h8, h9, h10⟩
 ·omega
 ·have e : g' = g := h.2.2.2 g' (by rw [h4]; rfl)
  subst e
  exact ⟨cap, cur, h4, h7, h6, by rw [h9, Nat.mul_one], by rw [← h10, Nat.mul_one]⟩
theorem flat_set {α : Type} (f : α → Value) (l : List α) (k : Nat) (x : α) : (l.set k x).flatMap (fun x => [f x]) = (l.flatMap (fun x => [f x])).set k (f x) := by
 rw [← List.map_eq_flatMap, ← List.map_eq_flatMap, List.map_set]
theorem RowK.set {α : Type} {f : α → Value} {t : TypeId} {B0 : Nat} {w : World} {g : Nat} {v : Value} {l : List α} (h : RowK (fun x => [f x]) t B0 w g v l) (k : Nat) (hk : k < l.length) (x : α) :
  RowK (fun x => [f x]) t B0 (w.setCell ⟨g, k, none⟩ (f x)) g v (l.set k x) := by
 obtain ⟨c, cur, rfl, hle, hh, hs, ht⟩ := h.open (by omega)
 have hh2 : (w.setCell ⟨g, k, none⟩ (f x)).heap[g]? = some (.cells (cur.setIfInBounds k (f x)) t (0, 0)) := by
  have hlt : g < w.heap.size := h.2.1
  simp only [World.setCell]
  rw [Array.getElem?_modify]
  simp [hh]
 have h3 := h.2.2.1
 unfold OwnG at h3
 refine ⟨h.1, Nat.lt_of_lt_of_le h.2.1 (Frm.setCell w g k (f x)).1, ?_, h.2.2.2⟩
 unfold OwnG
 have hm : c ≤ maxLen := by
  rcases h3.2 with ⟨h4, _⟩ | ⟨g', cap, cur', h4, h5, h6, h7, h8, h9, h10⟩
  ·cases h4
  ·injection h4 with e1 e2 e3
   rw [e3]; exact h8
 refine ⟨by rw [flat1, Nat.mul_one], .inr ⟨g, c, _, by rw [List.length_set], h.1, hh2, by rw [List.length_set]; exact hle, hm, by simp [hs], ?_⟩⟩
 rw [flat_set, List.length_set, Nat.mul_one, Array.toList_setIfInBounds, List.take_set, ht]
/-- the cell of an element -/
theorem RowK.cell {α : Type} {f : α → Value} {t : TypeId} {B0 : Nat} {w : World} {g : Nat} {v : Value} {l : List α} (h : RowK (fun x => [f x]) t B0 w g v l) (k : Nat) (hk : k < l.length) :
  w.cell? ⟨g, k, none⟩ = some (f l[k]) ∧ w.frozen? ⟨g, k, none⟩ = false := by
 obtain ⟨c, cur, rfl, hle, hh, hs, ht⟩ := h.open (by omega)
 refine ⟨?_, free_of_block hh⟩
 rw [cell_of_row _ _ _ _ _ _ hh]
 have h1 : (cur.toList.take l.length)[k]? = some (f l[k]) := by
  rw [ht, ← List.map_eq_flatMap, List.getElem?_map, List.getElem?_eq_getElem hk]; rfl
 rw [List.getElem?_take_of_lt hk] at h1
 simpa using h1
/-- a row that lies in a block from B0 on -/
def SLB {α : Type} (enc : α → List Value) (B0 : Nat) (W : World) (v : Value) (l : List α) : Prop :=
 (l = [] ∧ ∃ a c, v = .slice a 0 c) ∨ (l ≠ [] ∧ ∃ b o c, B0 ≤ b ∧ v = .slice (some ⟨b, o, none⟩) l.length c ∧ l.length ≤ c ∧ b < W.heap.size ∧ LieG enc 1 W b o l)
theorem SLB.SL {α : Type} {enc : α → List Value} {B0 : Nat} {W : World} {v : Value} {l : List α} (h : SLB enc B0 W v l) : SLG enc 1 W v l := by
 rcases h with h | ⟨h1, b, o, c, _, h3⟩
 ·exact .inl h
 ·exact .inr ⟨h1, b, o, c, h3⟩
theorem SLB.frm {α : Type} {enc : α → List Value} {B0 : Nat} {W W' : World} {v : Value} {l : List α} {g : Nat} (h : SLB enc B0 W v l) (F : Frm W W' g) (hg : g < B0 ∨ W.heap.size ≤ g) : SLB enc B0 W' v l := by
 rcases h with h | ⟨h1, b, o, c, h2, h3, h4, h5, h6⟩
 ·exact .inl h
 ·refine .inr ⟨h1, b, o, c, h2, h3, h4, Nat.lt_of_lt_of_le h5 F.1, fun j x i u e1 e2 => ?_⟩
  have := h6 j x i u e1 e2
  rw [← this]
  exact World.cell?_of_block (F.2 b h5 (by omega))
theorem RowK.SLB {α : Type} {enc : α → List Value} (henc : ∀ x, (enc x).length = 1) {t : TypeId} {B0 : Nat} {w : World} {g : Nat} {v : Value} {l : List α} (h : RowK enc t B0 w g v l) : SLB enc B0 w v l := by
 rcases OwnG.SL henc h.2.2.1 with h1 | ⟨h1, b, o, c, h2, h3⟩
 ·exact .inl h1
 ·refine .inr ⟨h1, b, o, c, ?_, h2, h3⟩
  have := h.2.2.2 b (by rw [h2]; rfl)
  rw [this]; exact h.1
theorem SLB.tail {B0 : Nat} {W : World} {b o c n : Nat} {x : Str} {rest : List Str} (h : SLB eS B0 W (.slice (some ⟨b, o, none⟩) n c) (x :: rest)) (hn : n = rest.length + 1) : SLB eS B0 W (.slice (if c = 1 then some ⟨b, o, none⟩ else some ⟨b, o + 1, none⟩) (n - 1) (c - 1)) rest := by
 rcases h with ⟨h, _⟩ | ⟨_, b', o', c', hB, e, hle, hb, hL⟩
 ·cases h
 ·injection e with e1 e2 e3
  injection e1 with e1
  injection e1 with e4 e5
  subst e3 e4 e5
  subst hn
  by_cases h0 : rest = []
  ·subst h0
   exact .inl ⟨rfl, _, _, rfl⟩
  ·have hr : 0 < rest.length := List.length_pos_iff.2 h0
   simp only [List.length_cons] at hle
   rw [if_neg (by omega)]
   refine .inr ⟨h0, b, o + 1, c - 1, hB, rfl, by omega, hb, fun j y i u e1 e2 => ?_⟩
   have := hL (j + 1) y i u (by simpa using e1) e2
   have e : o + (j + 1) * 1 + i = o + 1 + j * 1 + i := by omega
   rwa [e] at this
/-- append(l[:k:k], l[k+1:]...), the second slice as it lies in memory -/
theorem cut_out {α : Type} {f : α → Value} {t : TypeId} (T : TypeId) {f0 : TypeInfo} {z : Value} {bytes : Nat}
  (hT : Tryd.prog.underlying T = some (.slice t)) (hf : Tryd.prog.info? t = some f0) (hz0 : f0.zero = some z) (hz1 : f0.size = 1) (hz2 : f0.bytes = bytes) (hz3 : z.cells.size = 1) (hby : bytes ≤ 1000)
  {B0 : Nat} {w : World} {g : Nat} {v : Value} {l : List α} (h : RowK (fun x => [f x]) t B0 w g v l) (k : Nat) (hk : k < l.length) (hl : l.length ≤ 1000000000) (u : Value) (hu : SLG (fun x => [f x]) 1 w u (l.drop (k + 1))) :
  ∃ v' w', (∃ a n c, v' = .slice a n c ∧ n = l.length - 1) ∧ (Builtin.append_ #[T, T] T #[.slice (some ⟨g, 0, none⟩) k k, u]).run Tryd.prog w = .ok v' w' ∧ SLB (fun x => [f x]) B0 w' v' (l.eraseIdx k) ∧ Below w.heap.size w w' ∧ (∀ b, v'.ownBlock = some b → b = g ∨ w.heap.size ≤ b) := by
 obtain ⟨c, cur, rfl, hle, hh, hs, ht⟩ := h.open (by omega)
 have hec : l.eraseIdx k = l.take k ++ l.drop (k + 1) := List.eraseIdx_eq_take_drop_succ _ _
 rw [hec]
 rcases hu with ⟨hnil, a, c', rfl⟩ | ⟨h1, b, o, c', rfl, h3, h4, hL⟩
 ·rw [hnil, List.append_nil]
  have hkl : k = l.length - 1 := by
   have := congrArg List.length hnil
   simp at this; omega
  refine ⟨.slice (some ⟨g, 0, none⟩) k k, w, ⟨_, _, _, rfl, hkl⟩, ?_, ?_, Below.refl _ _, fun b hb => .inl (by simpa [Value.ownBlock] using hb.symm)⟩
  ·have hfn := run_firstCells_none (P := Tryd.prog) (w := w) f0.size 0 0 c'
   have hfs := fun a => run_firstCells_some (P := Tryd.prog) w f0.size 0 a 0 c' [] (by simp) (by simp)
   cases a with
   | none => simp [Builtin.append_, run_underlying hT, sizeOf, typeInfo, zeroValue, hf, hz0, Builtin.lenOf, Question.forced, hfn, storeCells]
   | some x => simp [Builtin.append_, run_underlying hT, sizeOf, typeInfo, zeroValue, hf, hz0, Builtin.lenOf, Question.forced, hfs, storeCells]
  ·by_cases hk0 : k = 0
   ·subst hk0; exact .inl ⟨rfl, _, _, rfl⟩
   ·have hlen : (l.take k).length = k := by rw [List.length_take]; omega
    refine .inr ⟨fun e => by rw [e] at hlen; simp at hlen; omega, g, 0, k, h.1, by rw [hlen], by rw [hlen]; exact Nat.le_refl _, h.2.1, fun j x i u e1 e2 => ?_⟩
    have hj : j < k := by have := (List.getElem?_eq_some_iff.1 e1).1; omega
    rw [List.getElem?_take_of_lt hj] at e1
    obtain ⟨hj2, e1⟩ := List.getElem?_eq_some_iff.1 e1
    match i, e2 with
    | 0, e2 =>
     have := (h.cell j hj2).1
     rw [e1] at this
     simp at e2
     subst e2
     simpa using this
    | i + 1, e2 => simp at e2
 ·have hm : (l.drop (k + 1)).length ≠ 0 := fun e => h1 (List.length_eq_zero_iff.1 e)
  have hlen : (l.take k).length = k := by rw [List.length_take]; omega
  have hbb : (k + (l.drop (k + 1)).length) * bytes ≤ 140737488355328 := by
   have h5 : k + (l.drop (k + 1)).length ≤ 1000000000 := by rw [List.length_drop]; omega
   have : (k + (l.drop (k + 1)).length) * bytes ≤ 1000000000 * 1000 := Nat.mul_le_mul h5 hby
   omega
  obtain ⟨v', w', hr, ho, hg⟩ := run_append_arg_grows (P := Tryd.prog) w T T t f0 z 1 bytes hT hf hz0 hz1 hz2 hz3 (by omega) ⟨g, 0, none⟩ k k ((l.take k).flatMap (fun x => [f x])) (by rw [flat1, hlen, Nat.mul_one])
   (fun j u e => by
    have hj := (List.getElem?_eq_some_iff.1 e).1
    rw [flat1, hlen] at hj
    rw [← List.map_eq_flatMap, List.getElem?_map, List.getElem?_take_of_lt hj, List.getElem?_eq_getElem (by omega)] at e
    have := (h.cell j (by omega)).1
    simp at e
    rw [Addr.add_lit, Nat.zero_add, this, e]) ⟨b, o, none⟩ (l.drop (k + 1)).length c' ((l.drop (k + 1)).flatMap (fun x => [f x])) (by rw [flat1, Nat.mul_one])
   (fun j u e => by
    have hj := (List.getElem?_eq_some_iff.1 e).1
    rw [flat1] at hj
    rw [← List.map_eq_flatMap, List.getElem?_map, List.getElem?_eq_getElem hj] at e
    rw [Addr.add_lit]
    have := hL j _ 0 u (List.getElem?_eq_getElem hj) (by simpa using e)
    simpa using this) (by omega) (by unfold maxLen; rw [List.length_drop]; omega) hbb
  have hn : k + (l.drop (k + 1)).length = l.length - 1 := by rw [List.length_drop]; omega
  have hOw : OwnG (fun x => [f x]) 1 t w' w.heap.size v' (l.take k ++ l.drop (k + 1)) := by
   unfold OwnG
   rw [List.length_append, hlen, List.flatMap_append]
   exact ho
  have hSL := OwnG.SL (enc := fun x => [f x]) (sz := 1) (fun _ => rfl) hOw
  have hSB : SLB (fun x => [f x]) B0 w' v' (l.take k ++ l.drop (k + 1)) := by
   rcases hSL with h1 | ⟨h1, b, o, c, h2, h3⟩
   ·exact .inl h1
   ·refine .inr ⟨h1, b, o, c, ?_, h2, h3⟩
    have h4 := hOw.base b (by rw [h2]; rfl)
    have := h.1; have := h.2.1; omega
  obtain ⟨a9, c9, hsh⟩ := hSL.shape
  refine ⟨v', w', ⟨a9, _, c9, hsh, by rw [List.length_append, hlen]; exact hn⟩, hr, hSB, (Below.refl w.heap.size w).grown hg (Nat.le_refl _) (fun k hk => by cases hk), fun b hb => .inr (hOw.base b hb)⟩
/-- the sizes of an opening -/
def OBd (ks : List Int) (vs ps : List Str) : Prop := ks.length ≤ 64 ∧ vs.length = ks.length ∧ ps.length ≤ 64 ∧ (∀ x ∈ ks, I64 x) ∧ (∀ s ∈ vs, List.length s ≤ 65536) ∧ (∀ s ∈ ps, List.length s ≤ 65536)
theorem mem_set {α : Type} {l : List α} {k : Nat} {x y : α} {p : α → Prop} (h : ∀ z ∈ l, p z) (hx : p x) (hy : y ∈ l.set k x) : p y := by
 rcases List.mem_or_eq_of_mem_set hy with h1 | h1
 ·exact h y h1
 ·rw [h1]; exact hx
theorem OBd.setK {ks : List Int} {vs ps : List Str} (h : OBd ks vs ps) (k : Nat) (y : Int) (hy : I64 y) : OBd (ks.set k y) vs ps :=
 ⟨by rw [List.length_set]; exact h.1, by rw [List.length_set]; exact h.2.1, h.2.2.1, fun _ hx => mem_set h.2.2.2.1 hy hx, h.2.2.2.2.1, h.2.2.2.2.2⟩
theorem OBd.setV {ks : List Int} {vs ps : List Str} (h : OBd ks vs ps) (k : Nat) (y : Str) (hy : y.length ≤ 65536) : OBd ks (vs.set k y) ps :=
 ⟨h.1, by rw [List.length_set]; exact h.2.1, h.2.2.1, h.2.2.2.1, fun _ hx => mem_set (p := fun s => List.length s ≤ 65536) h.2.2.2.2.1 hy hx, h.2.2.2.2.2⟩
theorem OBd.setP {ks : List Int} {vs ps : List Str} (h : OBd ks vs ps) (k : Nat) (y : Str) (hy : y.length ≤ 65536) : OBd ks vs (ps.set k y) :=
 ⟨h.1, h.2.1, by rw [List.length_set]; exact h.2.2.1, h.2.2.2.1, h.2.2.2.2.1, fun _ hx => mem_set (p := fun s => List.length s ≤ 65536) h.2.2.2.2.2 hy hx⟩
theorem OBd.tail {ks : List Int} {vs ps : List Str} {x : Str} (h : OBd ks vs (x :: ps)) : OBd ks vs ps :=
 ⟨h.1, h.2.1, by have := h.2.2.1; simp at this; omega, h.2.2.2.1, h.2.2.2.2.1, fun s hs => h.2.2.2.2.2 s (List.mem_cons_of_mem _ hs)⟩
theorem OBd.cut {ks : List Int} {vs ps : List Str} (h : OBd ks vs ps) (k : Nat) (hk : k < ks.length) : OBd (ks.eraseIdx k) (vs.eraseIdx k) ps :=
 ⟨by rw [List.length_eraseIdx]; have := h.1; split <;> omega, by rw [List.length_eraseIdx, List.length_eraseIdx, h.2.1], h.2.2.1, fun x hx => h.2.2.2.1 x (List.mem_of_mem_eraseIdx hx), fun x hx => h.2.2.2.2.1 x (List.mem_of_mem_eraseIdx hx), h.2.2.2.2.2⟩
theorem RowK.setI {B0 : Nat} {w : World} {g : Nat} {v : Value} {l : List Int} (h : RowK eI 3 B0 w g v l) (k : Nat) (hk : k < l.length) (x : Int) : RowK eI 3 B0 (w.setCell ⟨g, k, none⟩ (.int .i64 x)) g v (l.set k x) := RowK.set (f := fun (x : Int) => Value.int .i64 x) h k hk x
theorem RowK.setS {B0 : Nat} {w : World} {g : Nat} {v : Value} {l : List Str} (h : RowK eS 9 B0 w g v l) (k : Nat) (hk : k < l.length) (x : Str) : RowK eS 9 B0 (w.setCell ⟨g, k, none⟩ (.string ⟨x.toArray⟩)) g v (l.set k x) := RowK.set (f := fun (x : Str) => Value.string ⟨x.toArray⟩) h k hk x
theorem RowK.cellI {B0 : Nat} {w : World} {g : Nat} {v : Value} {l : List Int} (h : RowK eI 3 B0 w g v l) (k : Nat) (hk : k < l.length) : w.cell? ⟨g, k, none⟩ = some (.int .i64 l[k]) ∧ w.frozen? ⟨g, k, none⟩ = false := RowK.cell (f := fun (x : Int) => Value.int .i64 x) h k hk
theorem RowK.cellS {B0 : Nat} {w : World} {g : Nat} {v : Value} {l : List Str} (h : RowK eS 9 B0 w g v l) (k : Nat) (hk : k < l.length) : w.cell? ⟨g, k, none⟩ = some (.string ⟨l[k].toArray⟩) ∧ w.frozen? ⟨g, k, none⟩ = false := RowK.cell (f := fun (x : Str) => Value.string ⟨x.toArray⟩) h k hk
theorem RowK.openI {B0 : Nat} {w : World} {g n c : Nat} {a : Option Addr} {l : List Int} (h : RowK eI 3 B0 w g (.slice a n c) l) (hl : 0 < l.length) : a = some ⟨g, 0, none⟩ ∧ n = l.length ∧ n ≤ c := by
 obtain ⟨c', cur, e, hle, _⟩ := RowK.open (enc := eI) h hl
 injection e with e1 e2 e3
 exact ⟨e1, e2, by omega⟩
theorem RowK.openS {B0 : Nat} {w : World} {g n c : Nat} {a : Option Addr} {l : List Str} (h : RowK eS 9 B0 w g (.slice a n c) l) (hl : 0 < l.length) : a = some ⟨g, 0, none⟩ ∧ n = l.length ∧ n ≤ c := by
 obtain ⟨c', cur, e, hle, _⟩ := RowK.open (enc := eS) h hl
 injection e with e1 e2 e3
 exact ⟨e1, e2, by omega⟩
theorem cutI {B0 : Nat} {w : World} {g : Nat} {v : Value} {l : List Int} (h : RowK eI 3 B0 w g v l) (k : Nat) (hk : k < l.length) (hl : l.length ≤ 1000000000) (u : Value) (hu : SI w u (l.drop (k + 1))) :
  ∃ v' w', (∃ a n c, v' = .slice a n c ∧ n = l.length - 1) ∧ (Builtin.append_ #[24, 24] 24 #[.slice (some ⟨g, 0, none⟩) k k, u]).run Tryd.prog w = .ok v' w' ∧ SLB eI B0 w' v' (l.eraseIdx k) ∧ Below w.heap.size w w' ∧ (∀ b, v'.ownBlock = some b → b = g ∨ w.heap.size ≤ b) := by
 obtain ⟨i0, hi, hz0, hz1, hz2⟩ := info_parts infoInt
 exact cut_out (f := fun (x : Int) => Value.int .i64 x) 24 Tryd.underlying24 hi hz0 hz1 hz2 rfl (by omega) h k hk hl u hu
theorem cutS {B0 : Nat} {w : World} {g : Nat} {v : Value} {l : List Str} (h : RowK eS 9 B0 w g v l) (k : Nat) (hk : k < l.length) (hl : l.length ≤ 1000000000) (u : Value) (hu : SS w u (l.drop (k + 1))) :
  ∃ v' w', (∃ a n c, v' = .slice a n c ∧ n = l.length - 1) ∧ (Builtin.append_ #[35, 35] 35 #[.slice (some ⟨g, 0, none⟩) k k, u]).run Tryd.prog w = .ok v' w' ∧ SLB eS B0 w' v' (l.eraseIdx k) ∧ Below w.heap.size w w' ∧ (∀ b, v'.ownBlock = some b → b = g ∨ w.heap.size ≤ b) := by
 obtain ⟨i0, hi, hz0, hz1, hz2⟩ := info_parts info9
 exact cut_out (f := fun (x : Str) => Value.string ⟨x.toArray⟩) 35 Tryd.underlying35 hi hz0 hz1 hz2 rfl (by omega) h k hk hl u hu
theorem SLB.frm2 {α : Type} {enc : α → List Value} {B0 : Nat} {W W' : World} {v : Value} {l : List α} {g : Nat} (h : SLB enc B0 W v l) (F : Frm W W' g) (hg : ∀ b, v.ownBlock = some b → b ≠ g) : SLB enc B0 W' v l := by
 rcases h with h | ⟨h1, b, o, c, h2, h3, h4, h5, h6⟩
 ·exact .inl h
 ·refine .inr ⟨h1, b, o, c, h2, h3, h4, Nat.lt_of_lt_of_le h5 F.1, fun j x i u e1 e2 => ?_⟩
  have := h6 j x i u e1 e2
  rw [← this]
  exact World.cell?_of_block (F.2 b h5 (hg b (by rw [h3]; rfl)))
theorem SLG.dropA {α : Type} {enc : α → List Value} {W : World} {g n c : Nat} {l : List α} (h : SLG enc 1 W (.slice (some ⟨g, 0, none⟩) n c) l) (hn : n = l.length) (j : Nat) : SLG enc 1 W (.slice (if c = j then some ⟨g, 0, none⟩ else some ⟨g, j, none⟩) (n - j) (c - j)) (l.drop j) := by
 by_cases h0 : l.drop j = []
 ·rw [h0]
  have : n - j = 0 := by
   have := congrArg List.length h0
   rw [List.length_drop] at this
   simp at this; omega
  rw [this]
  exact .inl ⟨rfl, _, _, rfl⟩
 ·have hj : j < l.length := by
   rcases Nat.lt_or_ge j l.length with h1 | h1
   ·exact h1
   ·exact absurd (List.drop_eq_nil_iff.2 h1) h0
  rcases h with ⟨rfl, _⟩ | ⟨_, b, o, c', e, hle, hb, hL⟩
  ·simp at hj
  ·injection e with e1 e2 e3
   injection e1 with e1
   injection e1 with e4 e5
   subst e3 e4 e5
   rw [if_neg (by omega)]
   refine .inr ⟨h0, g, j, c - j, by rw [List.length_drop, hn], by rw [List.length_drop]; omega, hb, fun i y q u e1 e2 => ?_⟩
   rw [List.getElem?_drop] at e1
   have := hL (j + i) y q u e1 e2
   have e : 0 + (j + i) * 1 + q = j + i * 1 + q := by omega
   rwa [e] at this
theorem SLB.bel {α : Type} {enc : α → List Value} {B0 : Nat} {W W' : World} {v : Value} {l : List α} (h : SLB enc B0 W v l) (B : Below W.heap.size W W') : SLB enc B0 W' v l := by
 rcases h with h | ⟨h1, b, o, c, h2, h3, h4, h5, h6⟩
 ·exact .inl h
 ·exact .inr ⟨h1, b, o, c, h2, h3, h4, Nat.lt_of_lt_of_le h5 B.size, LieG.below h6 h5 B⟩
end Go.Proofs.YtegahpfmkepfmaaDoor
