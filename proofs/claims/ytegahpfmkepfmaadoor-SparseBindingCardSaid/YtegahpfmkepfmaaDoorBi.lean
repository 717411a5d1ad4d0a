/- SparseBinding: whatever Read accepts for the root of a map is what the map has, or there is a way out. -/
import Derived.Test.YtegahpfmkepfmaaDoorBt
import Derived.Test.YtegahpfmkepfmaaDoorRx
import Derived.Test.YtegahpfmkepfmaaDoorPY
import Derived.Test.YtegahpfmkepfmaaDoorSan
import Derived.Test.YtegahpfmkepfmaaDoorSom
import Derived.BigQuiet
namespace Go.Proofs.YtegahpfmkepfmaaDoor
open Go.ChangeShapes Go.WideShapes Go.ChangeAt Go.RowKit
theorem RootC (l : List Ent) (v : Value) (W : World) (hl : Mp l) (hv : SE W v l) (hT : Tab W) : Calls Tryd.prog 13 #[v] W (RootPost (rootL l) 0 W) := Root_ok v l W hv ((mapB_iff l).2 hl) hT
theorem ProveC (l : List Ent) (ks : List Int) (v vk : Value) (W : World) (hl : Mp l) (hk : ascB (-1) ks = true) (hv : SE W v l) (hvk : SI W vk ks) (hT : Tab W) : Calls Tryd.prog 18 #[v, vk] W (PP ks (valsL l ks) (pathL l ks) W) :=
 Prove_ok v vk l ks W rfl hv hvk ((mapB_iff l).2 hl) hk hT
theorem min_runB (x m : Nat) (ts : Array TypeId) (t : TypeId) (w : World) (c : Int) (hc : c = m) : (Builtin.min_ ts t #[.int .i64 (x : Int), .int .i64 c]).run Tryd.prog w = .ok (.int .i64 ((min x m : Nat) : Int)) w := by
 rw [run_min_int2]
 subst hc
 congr 2
 split <;> omega
theorem SLG.take {α : Type} {enc : α → List Value} {sz : Nat} {W : World} {a : Option Addr} {N c m : Nat} {l : List α} (h : SLG enc sz W (.slice a N c) l) (hm : m ≤ l.length) : SLG enc sz W (.slice a m c) (l.take m) := by
 by_cases h0 : m = 0
 ·subst h0; exact .inl ⟨rfl, _, _, rfl⟩
 ·rcases h with ⟨rfl, _⟩ | ⟨h1, b, o, c', e, hle, hb, hL⟩
  ·simp at hm; omega
  ·injection e with e1 e2 e3
   subst e1 e3
   have hl : (l.take m).length = m := by rw [List.length_take]; omega
   refine .inr ⟨fun e => by rw [e] at hl; simp at hl; omega, b, o, c, by rw [hl], by rw [hl]; omega, hb, fun j x i u e1 e2 => ?_⟩
   have hj : j < m := by have := (List.getElem?_eq_some_iff.1 e1).1; omega
   rw [List.getElem?_take_of_lt hj] at e1
   exact hL j x i u e1 e2
set_option maxRecDepth 100000 in
theorem open_tri2 {H : Type} {enc : TypeId × Value → H} {W : World} {base : Nat} {r : Reach} {b0 : Nat} {spare : Bool} {held : Nat → Bool} {v : Value} {d : DataW H} {p : List MemPlace}
  (hv : Value.okWide Tryd.prog W r b0 43 v) (h : DataW.Trod enc Tryd.prog W base held spare 43 v d p) : ∃ a b c x y z : Int, v = .agg #[.int .i64 a, .int .i64 b, .int .i64 c, .int .i64 x, .int .i64 y, .int .i64 z] ∧ (I64 a ∧ I64 b ∧ I64 c) ∧ I64 x ∧ I64 y ∧ I64 z := by
 obtain ⟨cs, rfl, hsz, _⟩ : ∃ cs, v = .agg cs ∧ cs.size = Tryd.prog.cellsOf 43 ∧ Row.okWide Tryd.prog W r b0 43 cs := by simpa [Value.okWide, Tryd.underlying43] using hv
 rw [show Tryd.prog.cellsOf 43 = 6 by kernel_rfl] at hsz
 obtain ⟨c0, c1, c2, c3, c4, c5, rfl⟩ : ∃ c0 c1 c2 c3 c4 c5, cs = #[c0, c1, c2, c3, c4, c5] := by
  obtain ⟨l⟩ := cs
  match l, hsz with
  | [c0, c1, c2, c3, c4, c5], _ => exact ⟨c0, c1, c2, c3, c4, c5, rfl⟩
 obtain ⟨fuel, hf⟩ := h
 obtain ⟨xs, m, _, _, _, hl, hi⟩ := DataW.trod_array Tryd.underlying43 hf
 have h0 := hi 0 (by omega)
 have h1 := hi 1 (by omega)
 rw [show Tryd.prog.cellsOf 42 = 3 by kernel_rfl] at h0 h1
 rw [List.getElem?_eq_getElem (by omega)] at h0 h1
 simp [Value.cells] at h0 h1
 have key : ∀ (a b c : Value) (y : DataW H × List MemPlace) (n : Nat), DataW.trod enc Tryd.prog W base held spare n 42 [a, b, c] = some y → ∃ p q r : Int, a = .int .i64 p ∧ b = .int .i64 q ∧ c = .int .i64 r ∧ I64 p ∧ I64 q ∧ I64 r := by
  intro a b c y n hh
  obtain ⟨xs, m, _, _, _, hl, hi⟩ := DataW.trod_array Tryd.underlying42 hh
  have g0 := hi 0 (by omega)
  have g1 := hi 1 (by omega)
  have g2 := hi 2 (by omega)
  rw [show Tryd.prog.cellsOf 3 = 1 by kernel_rfl] at g0 g1 g2
  rw [List.getElem?_eq_getElem (by omega)] at g0 g1 g2
  simp at g0 g1 g2
  obtain ⟨s0, e0, _, l0⟩ := DataW.trod_int Tryd.underlying3 g0
  obtain ⟨s1, e1, _, l1⟩ := DataW.trod_int Tryd.underlying3 g1
  obtain ⟨s2, e2, _, l2⟩ := DataW.trod_int Tryd.underlying3 g2
  simp at e0 e1 e2
  exact ⟨s0, s1, s2, e0, e1, e2, wf_i64 l0, wf_i64 l1, wf_i64 l2⟩
 obtain ⟨p0, q0, r0, rfl, rfl, rfl, a1, a2, a3⟩ := key _ _ _ _ _ h0
 obtain ⟨p1, q1, r1, rfl, rfl, rfl, b1, b2, b3⟩ := key _ _ _ _ _ h1
 exact ⟨_, _, _, _, _, _, rfl, ⟨a1, a2, a3⟩, b1, b2, b3⟩
theorem obd_proved (L : List Ent) (ks : List Int) (hm : Mp L) (hk : ascB (-1) ks = true) : OBd ks (valsL L ks) (pathL L ks) := by
 have h1 := ascB_len ks (-1) (by omega) (by omega) hk
 have h2 := ascB_bd ks (-1) (by omega) hk
 refine ⟨by omega, by simp [valsL, tN], ?_, fun x hx => by have := h2 x hx; unfold I64; omega, fun s hs => ?_, fun s hs => ?_⟩
 ·unfold pathL; rw [List.length_map]; exact clF_size (tN ks) 6 1
 ·simp only [valsL, List.mem_map] at hs
  obtain ⟨k, _, rfl⟩ := hs
  exact mapV_small L hm k
 ·simp only [pathL, List.mem_map] at hs
  obtain ⟨p, hp, rfl⟩ := hs
  have : (partV L p).length = 32 := E_len sha sha_len _ p (closedL_bd _ p hp).1
  omega
def okE (L : List Ent) (e : Ent) : Bool := lookE L e.1 == e.2
def okA (L : List Ent) (k : Int) : Bool := lookE L k == []
theorem all_snoc {α : Type} (p : α → Bool) (l : List α) (i : Nat) (h : i < l.length) : (l.take (i + 1)).all p = ((l.take i).all p && p l[i]) := by
 rw [List.take_succ_eq_append_getElem h, List.all_append]; simp
theorem openL_small (ks : List Int) (vs ps : List Str) : (∀ s ∈ openL ks vs ps, List.length s ≤ 1000000) ∧ (openL ks vs ps).length ≤ 1000 := by
 unfold openL
 split
 ·exact opL_small ks vs ps (by assumption)
 ·simp
theorem SLG.setRaw {α : Type} {enc : α → List Value} {sz : Nat} {W : World} {v : Value} {l : List α} {g : Nat} {t : TypeId} (_ : 0 < sz) (h : SLG enc sz W v l) {a1 b1 c1 : Option Addr} {a2 a3 b2 b3 c2 c3 : Nat}
  (hg : W.heap[g]? = some (.cells #[.slice a1 a2 a3, .slice b1 b2 b3, .slice c1 c2 c3] t (0, 0))) (henc : ∀ x, ∃ u r, enc x = u :: r ∧ ∀ p q s, u ≠ .slice p q s) (i : Nat) (u : Value) : SLG enc sz (W.setCell ⟨g, i, none⟩ u) v l := by
 rcases h with h | ⟨h1, b, o, c, h2, h3, h4, hL⟩
 ·exact .inl h
 ·have hne : b ≠ g := by
   rintro rfl
   obtain ⟨x, t, rfl⟩ : ∃ x t, l = x :: t := by
    cases l with
    | nil => exact absurd rfl h1
    | cons x t => exact ⟨x, t, rfl⟩
   obtain ⟨u0, r, e, hu⟩ := henc x
   have := hL 0 x 0 u0 rfl (by rw [e]; rfl)
   rw [cell_of_row _ _ _ _ _ _ hg] at this
   obtain ⟨hlt, he⟩ := Array.getElem?_eq_some_iff.1 this
   have : o + 0 * sz + 0 = 0 ∨ o + 0 * sz + 0 = 1 ∨ o + 0 * sz + 0 = 2 := by simp at hlt; omega
   rcases this with e0 | e0 | e0 <;> (simp only [e0] at he; exact hu _ _ _ he.symm)
  refine .inr ⟨h1, b, o, c, h2, h3, Nat.lt_of_lt_of_le h4 (Frm.setCell W g i u).1, fun j x k y e1 e2 => ?_⟩
  rw [← hL j x k y e1 e2]
  exact World.cell?_of_block ((Frm.setCell W g i u).2 b h4 hne)
theorem OpV.setRaw {W : World} {v : Value} {ks : List Int} {vs ps : List Str} (h : OpV W v ks vs ps) {g : Nat} {t : TypeId} {a1 b1 c1 : Option Addr} {a2 a3 b2 b3 c2 c3 : Nat}
  (hg : W.heap[g]? = some (.cells #[.slice a1 a2 a3, .slice b1 b2 b3, .slice c1 c2 c3] t (0, 0))) (i : Nat) (u : Value) : OpV (W.setCell ⟨g, i, none⟩ u) v ks vs ps := by
 obtain ⟨a, b, c, rfl, ha, hb, hc⟩ := h
 exact ⟨a, b, c, rfl, SLG.setRaw (by omega) ha hg (fun x => ⟨_, _, rfl, fun _ _ _ h => by cases h⟩) i u, SLG.setRaw (by omega) hb hg (fun x => ⟨_, _, rfl, fun _ _ _ h => by cases h⟩) i u, SLG.setRaw (by omega) hc hg (fun x => ⟨_, _, rfl, fun _ _ _ h => by cases h⟩) i u⟩
set_option linter.unusedSimpArgs false in
set_option maxRecDepth 100000 in
set_option maxHeartbeats 40000000 in
theorem Bind_any (v u vs : Value) (x y : List (Int × Int)) (sm : List Int) (A B C : Value) (rks : List Int) (rvs rps : List Str) (q0 q1 q2 q3 q4 q5 : Int) (w : World) (hv : ArgP w v x) (hu : ArgP w u y) (hs : ArgI w vs sm)
  (hA : ArgI w A rks) (hB : ArgS w B rvs) (hC : ArgS w C rps) (hq : (I64 q0 ∧ I64 q1 ∧ I64 q2) ∧ I64 q3 ∧ I64 q4 ∧ I64 q5) (hT0 : Tab w) :
  Calls Tryd.prog 6 #[v, u, vs, .agg #[A, B, C], .agg #[.int .i64 q0, .int .i64 q1, .int .i64 q2, .int .i64 q3, .int .i64 q4, .int .i64 q5]] w fun e w' => e = .returned (.bool true) ∧ Below w.heap.size w w' := by
 have hT := Lib.hid hT0
 have cSane := Lib.hid (show ∀ W, Below w.heap.size w W → _ from fun W B => sane_any W (hT0.below B))
 have cMade := Lib.hid (show ∀ W, Below w.heap.size w W → _ from fun W B => Made_any v x W ⟨hv.1.below B, hv.2⟩ rfl)
 have cMade2 := Lib.hid (show ∀ W, Below w.heap.size w W → _ from fun W B => Made_any u y W ⟨hu.1.below B, hu.2⟩ rfl)
 have cSome := Lib.hid (show ∀ vl L W, Below w.heap.size w W → SE W vl L → Mp L → _ from fun vl L W B h1 h2 => Some_any vl vs L sm W h1 h2 ⟨hs.1.below B, hs.2⟩ rfl)
 have fA := Lib.hid (fun W (B' : Below w.heap.size w W) => hA.1.below B')
 have fB := Lib.hid (fun W (B' : Below w.heap.size w W) => hB.1.below B')
 have fC := Lib.hid (fun W (B' : Below w.heap.size w W) => hC.1.below B')
 have hAI := Lib.hid hA.2.2
 have hAl := hA.2.1
 have hBl := Lib.hid hB.2.1
 have hCl := Lib.hid hC.2.1
 have hcap : ∀ (a : Option Addr) (n c : Nat), A = .slice a n c → rks.length ≤ c := fun a n c e => by
  rcases hA.1 with ⟨h, a', c', e'⟩ | ⟨h1, b, o, c', e', hle, _, _⟩
  ·rw [h]; exact Nat.zero_le _
  ·rw [e] at e'; injection e' with e1 e2 e3
   rw [e3]; exact hle
 obtain ⟨ra, rn, rc, rfl, hrn⟩ := hA.1.shape'
 obtain ⟨rd, rv, re, rfl, hrv⟩ := hB.1.shape'
 obtain ⟨rf, rp, rg, rfl, hrp⟩ := hC.1.shape'
 have hcap := hcap ra rn rc rfl
 rw [← hrn.out] at hcap hAl
 obtain ⟨m, hm, m1, m2⟩ : ∃ m, Hid (m = min rn 8) ∧ m ≤ rn ∧ m ≤ 8 := ⟨_, rfl, by omega, by omega⟩
 have m3 : m ≤ rc := by omega
 have m4 : (0 : Int) ≤ (m : Int) := by omega
 have m5 : (m : Int) ≤ (rc : Int) := by omega
 have rmin : ∀ ts ty w, (Builtin.min_ ts ty #[.int .i64 (rn : Int), .int .i64 8]).run Tryd.prog w = .ok (.int .i64 (m : Int)) w := fun ts ty w => by rw [hm.out]; exact min_runB _ 8 _ _ _ _ rfl
 clear hv hu hs hA hB hC hT0 hcap
 go_enter Tryd.func6, Tryd.ntmps6
 go_upto_region 1 with (fail)
 obtain ⟨wA, hwA⟩ : ∃ W, W = (w.alloc (.cells #[.slice ra rn rc, .slice rd rv re, .slice rf rp rg] 37)).alloc (.cells #[.int .i64 q0, .int .i64 q1, .int .i64 q2, .int .i64 q3, .int .i64 q4, .int .i64 q5] 43) := ⟨_, rfl⟩
 rw [← hwA]
 have kw := Lib.hid (show Below w.heap.size w wA by rw [hwA]; exact ((Below.refl _ _).alloc (Nat.le_refl _) _).alloc (by simp only [World.size_alloc]; omega) _)
 have zA := Lib.hid (show wA.heap.size = w.heap.size + 2 by rw [hwA]; simp)
 have bR := Lib.hid (show wA.heap[w.heap.size]? = some (.cells #[.slice ra rn rc, .slice rd rv re, .slice rf rp rg] 37 (0, 0)) by rw [hwA]; exact ((((Below.refl (w.heap.size + 1) _).alloc (by simp) _).block w.heap.size (by omega)).trans (heap_alloc_new w _)))
 have bH := Lib.hid (show wA.heap[w.heap.size + 1]? = some (.cells #[.int .i64 q0, .int .i64 q1, .int .i64 q2, .int .i64 q3, .int .i64 q4, .int .i64 q5] 43 (0, 0)) by rw [hwA]; have := heap_alloc_new (w.alloc (.cells #[.slice ra rn rc, .slice rd rv re, .slice rf rp rg] 37)) (.cells #[.int .i64 q0, .int .i64 q1, .int .i64 q2, .int .i64 q3, .int .i64 q4, .int .i64 q5] 43); simpa using this)
 clear hwA
 obtain ⟨gR, hgR⟩ : ∃ g, w.heap.size = g := ⟨_, rfl⟩
 have hgRh := Lib.hid hgR
 rw [hgR] at bR bH ⊢
 clear hgR
 have kA := Lib.hid (Below.refl wA.heap.size wA)
 go_wp2_with fail
 with_reducible refine (cSane.out _ kw.out).mono ?_
 rintro e w1 ⟨rfl, b⟩
 replace kw := Lib.hid (kw.out.trans (b.mono kw.out.size))
 replace kA := Lib.hid (kA.out.trans (b.mono kA.out.size))
 clear b
 go_wp2_with fail
 with_reducible refine (cMade.out _ kw.out).mono ?_
 rintro e w2 ⟨vl, L, rfl, ol, hmp, hll, b⟩
 replace kw := Lib.hid (kw.out.trans (b.mono kw.out.size))
 replace kA := Lib.hid (kA.out.trans (b.mono kA.out.size))
 clear b
 obtain ⟨l1, l2, hlsh⟩ := (OwnG.SL eE_len ol).shape
 have fL := Lib.hid (fun W (B : Below w2.heap.size w2 W) => (OwnG.SL eE_len ol).below B)
 obtain ⟨nL, hnL⟩ : ∃ n, Hid (L.length = n) := ⟨_, rfl⟩
 rw [hnL.out] at hlsh
 subst hlsh
 have hmph := Lib.hid hmp
 have hlh := Lib.hid hll
 clear hmp ol hll
 have kL := Lib.hid (Below.refl w2.heap.size w2)
 obtain ⟨RL, hRL⟩ : ∃ R, Hid (R = rootL L) := ⟨_, rfl⟩
 have cRt := Lib.hid (show ∀ W, Below w.heap.size w W → SE W (.slice l1 nL l2) L → Calls Tryd.prog 13 #[.slice l1 nL l2] W (RootPost RL 0 W) from fun W B' h => by rw [hRL.out]; exact RootC L _ W hmph.out h (hT.out.below B'))
 go_wp2_with fail
 with_reducible refine (cRt.out _ kw.out (fL.out _ kL.out)).mono ?_
 rintro e w3 ⟨rfl, b⟩
 replace kw := Lib.hid (kw.out.trans (b.mono kw.out.size))
 replace kA := Lib.hid (kA.out.trans (b.mono kA.out.size))
 replace kL := Lib.hid (kL.out.trans (b.mono kL.out.size))
 clear b
 go_wp2_with fail
 with_reducible refine (cSome.out _ L _ kw.out (fL.out _ kL.out) hmph.out).mono ?_
 rintro e w4 ⟨vk, ks, rfl, ok, hasc, b⟩
 replace kw := Lib.hid (kw.out.trans (b.mono kw.out.size))
 replace kA := Lib.hid (kA.out.trans (b.mono kA.out.size))
 replace kL := Lib.hid (kL.out.trans (b.mono kL.out.size))
 clear b
 obtain ⟨k1, k2, hksh⟩ := (OwnG.SL eI_len ok).shape
 have sks := Lib.hid (OwnG.SL eI_len ok)
 obtain ⟨nK, hnK⟩ : ∃ n, Hid (ks.length = n) := ⟨_, rfl⟩
 rw [hnK.out] at hksh
 subst hksh
 have hasch := Lib.hid hasc
 clear ok hasc
 have cPr := Lib.hid (show ∀ (M : List Ent) (ks : List Int) v vk W, Mp M → ascB (-1) ks = true → Below w.heap.size w W → SE W v M → SI W vk ks → Calls Tryd.prog 18 #[v, vk] W (PP ks (valsL M ks) (pathL M ks) W) from fun M ks v vk W h1 h2 B' h3 h4 => ProveC M ks v vk W h1 h2 h3 h4 (hT.out.below B'))
 go_wp2_with fail
 with_reducible refine (cPr.out L ks _ _ _ hmph.out hasch.out kw.out (fL.out _ kL.out) sks.out).mono ?_
 rintro e w5 ⟨oo, rfl, hoo, b⟩
 replace kw := Lib.hid (kw.out.trans (b.mono kw.out.size))
 replace kA := Lib.hid (kA.out.trans (b.mono kA.out.size))
 replace kL := Lib.hid (kL.out.trans (b.mono kL.out.size))
 clear b
 obtain ⟨ooK, hooK⟩ : ∃ n, Hid ((ks).length = n) := ⟨_, rfl⟩
 obtain ⟨ooV, hooV⟩ : ∃ n, Hid ((valsL L ks).length = n) := ⟨_, rfl⟩
 obtain ⟨ooP, hooP⟩ : ∃ n, Hid ((pathL L ks).length = n) := ⟨_, rfl⟩
 obtain ⟨oo1, oo2, oo3, oo4, oo5, oo6, rfl⟩ := hoo.form ooK ooV ooP hooK.out hooV.out hooP.out
 have hooh := Lib.hid hoo
 clear hoo
 go_upto_region 6 with (fail)
 obtain ⟨w6, hw6⟩ : ∃ W, W = w5.alloc (.cells #[.slice oo1 ooK oo2, .slice oo3 ooV oo4, .slice oo5 ooP oo6] 37) := ⟨_, rfl⟩
 rw [← hw6]
 have b : Below w5.heap.size w5 w6 := by rw [hw6]; exact (Below.refl _ _).alloc (Nat.le_refl _) _
 have boo := Lib.hid (show w6.heap[w5.heap.size]? = some (.cells #[.slice oo1 ooK oo2, .slice oo3 ooV oo4, .slice oo5 ooP oo6] 37 (0, 0)) by rw [hw6]; exact heap_alloc_new _ _)
 have foo := Lib.hid (hooh.out.below b)
 have zoo := Lib.hid (show wA.heap.size ≤ w5.heap.size from kA.out.size)
 clear hw6 hooh
 replace kw := Lib.hid (kw.out.trans (b.mono kw.out.size))
 replace kA := Lib.hid (kA.out.trans (b.mono kA.out.size))
 replace kL := Lib.hid (kL.out.trans (b.mono kL.out.size))
 clear b
 obtain ⟨go, hgo⟩ : ∃ g, w5.heap.size = g := ⟨_, rfl⟩
 rw [hgo] at boo zoo ⊢
 clear hgo
 have koo := Lib.hid (Below.refl w6.heap.size w6)
 go_wp2_with fail
 with_reducible refine (cMade2.out _ kw.out).mono ?_
 rintro e w7 ⟨vM, M, rfl, oM, hmpM, hlM, b⟩
 replace kw := Lib.hid (kw.out.trans (b.mono kw.out.size))
 replace kA := Lib.hid (kA.out.trans (b.mono kA.out.size))
 replace kL := Lib.hid (kL.out.trans (b.mono kL.out.size))
 replace koo := Lib.hid (koo.out.trans (b.mono koo.out.size))
 clear b
 obtain ⟨e1, e2, hMsh⟩ := (OwnG.SL eE_len oM).shape
 have fM := Lib.hid (fun W (B : Below w7.heap.size w7 W) => (OwnG.SL eE_len oM).below B)
 obtain ⟨nM, hnM⟩ : ∃ n, Hid (M.length = n) := ⟨_, rfl⟩
 rw [hnM.out] at hMsh
 subst hMsh
 have hmpMh := Lib.hid hmpM
 clear hmpM oM hlM
 have kM := Lib.hid (Below.refl w7.heap.size w7)
 go_wp2_with fail
 with_reducible refine (cSome.out _ L _ kw.out (fL.out _ kL.out) hmph.out).mono ?_
 rintro e w8 ⟨vk2, ks2, rfl, ok, hasc, b⟩
 replace kw := Lib.hid (kw.out.trans (b.mono kw.out.size))
 replace kA := Lib.hid (kA.out.trans (b.mono kA.out.size))
 replace kL := Lib.hid (kL.out.trans (b.mono kL.out.size))
 replace koo := Lib.hid (koo.out.trans (b.mono koo.out.size))
 replace kM := Lib.hid (kM.out.trans (b.mono kM.out.size))
 clear b
 obtain ⟨j1, j2, hksh⟩ := (OwnG.SL eI_len ok).shape
 have sks2 := Lib.hid (OwnG.SL eI_len ok)
 obtain ⟨nJ, hnJ⟩ : ∃ n, Hid (ks2.length = n) := ⟨_, rfl⟩
 rw [hnJ.out] at hksh
 subst hksh
 have hasch2 := Lib.hid hasc
 clear ok hasc
 go_wp2_with fail
 with_reducible refine (cPr.out M ks2 _ _ _ hmpMh.out hasch2.out kw.out (fM.out _ kM.out) sks2.out).mono ?_
 rintro e w9 ⟨tt, rfl, htt, b⟩
 replace kw := Lib.hid (kw.out.trans (b.mono kw.out.size))
 replace kA := Lib.hid (kA.out.trans (b.mono kA.out.size))
 replace kL := Lib.hid (kL.out.trans (b.mono kL.out.size))
 replace koo := Lib.hid (koo.out.trans (b.mono koo.out.size))
 clear b
 obtain ⟨ttK, httK⟩ : ∃ n, Hid ((ks2).length = n) := ⟨_, rfl⟩
 obtain ⟨ttV, httV⟩ : ∃ n, Hid ((valsL M ks2).length = n) := ⟨_, rfl⟩
 obtain ⟨ttP, httP⟩ : ∃ n, Hid ((pathL M ks2).length = n) := ⟨_, rfl⟩
 obtain ⟨tt1, tt2, tt3, tt4, tt5, tt6, rfl⟩ := htt.form ttK ttV ttP httK.out httV.out httP.out
 have htth := Lib.hid htt
 clear htt
 go_upto_region 7 with (fail)
 obtain ⟨w10, hw10⟩ : ∃ W, W = w9.alloc (.cells #[.slice tt1 ttK tt2, .slice tt3 ttV tt4, .slice tt5 ttP tt6] 37) := ⟨_, rfl⟩
 rw [← hw10]
 have b : Below w9.heap.size w9 w10 := by rw [hw10]; exact (Below.refl _ _).alloc (Nat.le_refl _) _
 have btt := Lib.hid (show w10.heap[w9.heap.size]? = some (.cells #[.slice tt1 ttK tt2, .slice tt3 ttV tt4, .slice tt5 ttP tt6] 37 (0, 0)) by rw [hw10]; exact heap_alloc_new _ _)
 have ftt := Lib.hid (htth.out.below b)
 have ztt := Lib.hid (show wA.heap.size ≤ w9.heap.size from kA.out.size)
 clear hw10 htth
 replace kw := Lib.hid (kw.out.trans (b.mono kw.out.size))
 replace kA := Lib.hid (kA.out.trans (b.mono kA.out.size))
 replace kL := Lib.hid (kL.out.trans (b.mono kL.out.size))
 replace koo := Lib.hid (koo.out.trans (b.mono koo.out.size))
 clear b
 obtain ⟨gt, hgt⟩ : ∃ g, w9.heap.size = g := ⟨_, rfl⟩
 rw [hgt] at btt ztt ⊢
 clear hgt
 have ktt := Lib.hid (Below.refl w10.heap.size w10)
 have bR0 := (kA.out.block gR (by have := zA.out; have := hgRh.out; omega)).trans bR.out
 have cR0 := cell_of_row _ _ 0 _ 37 (0, 0) bR0
 have fR0 := free_of_block (i := 0) bR0
 have hLs := Lib.hid (SLG.setRaw (by omega) (fL.out _ kL.out) bR0 (fun x => ⟨_, _, rfl, fun _ _ _ h => by cases h⟩) 0 (.slice ra m rc))
 have hOs := Lib.hid (OpV.setRaw (foo.out.below koo.out) bR0 0 (.slice ra m rc))
 have hTs := Lib.hid (OpV.setRaw ftt.out bR0 0 (.slice ra m rc))
 have bRs := Lib.hid (set_field (i := 0) (v := (.slice ra m rc : Value)) bR0)
 have bHs := Lib.hid (show (w10.setCell ⟨gR, 0, none⟩ (.slice ra m rc)).heap[gR + 1]? = some (.cells #[.int .i64 q0, .int .i64 q1, .int .i64 q2, .int .i64 q3, .int .i64 q4, .int .i64 q5] 43 (0, 0)) from (heap_set_ne (by omega)).trans ((kA.out.block (gR + 1) (by have := zA.out; have := hgRh.out; omega)).trans bH.out))
 have bOs := Lib.hid (show (w10.setCell ⟨gR, 0, none⟩ (.slice ra m rc)).heap[go]? = some (.cells #[.slice oo1 ooK oo2, .slice oo3 ooV oo4, .slice oo5 ooP oo6] 37 (0, 0)) from (heap_set_ne (by have := zoo.out; have := zA.out; have := hgRh.out; omega)).trans ((koo.out.block go (by exact (Array.getElem?_eq_some_iff.1 boo.out).1)).trans boo.out))
 have bTs := Lib.hid (show (w10.setCell ⟨gR, 0, none⟩ (.slice ra m rc)).heap[gt]? = some (.cells #[.slice tt1 ttK tt2, .slice tt3 ttV tt4, .slice tt5 ttP tt6] 37 (0, 0)) from (heap_set_ne (by have := ztt.out; have := zA.out; have := hgRh.out; omega)).trans btt.out)
 have hBs := Lib.hid (show Below w.heap.size w (w10.setCell ⟨gR, 0, none⟩ (.slice ra m rc)) from kw.out.setCell (by have := hgRh.out; simpa using Nat.le_of_eq this) _)
 have cR1 := cell_of_row _ _ 1 _ 37 (0, 0) bR0
 have cR2 := cell_of_row _ _ 2 _ 37 (0, 0) bR0
 clear bR bH boo btt kA kL koo kM ktt foo ftt fL fM zoo ztt kw sks sks2 bR0 zA
 go_upto_region 10 with (fail)
 obtain ⟨ws, hws⟩ : ∃ W, W = w10.setCell ⟨gR, 0, none⟩ (.slice ra m rc) := ⟨_, rfl⟩
 rw [← hws] at hLs hOs hTs bRs bHs bOs bTs hBs ⊢
 clear hws cR0 fR0 cR1 cR2
 have sK := Lib.hid (show ∀ W, Below ws.heap.size ws W → W.cell? ⟨go, 0, none⟩ = some (.slice oo1 ooK oo2) ∧ W.cell? ⟨go, 1, none⟩ = some (.slice oo3 ooV oo4) ∧ W.cell? ⟨go, 2, none⟩ = some (.slice oo5 ooP oo6) ∧ W.cell? ⟨gt, 0, none⟩ = some (.slice tt1 ttK tt2) ∧ W.cell? ⟨gt, 1, none⟩ = some (.slice tt3 ttV tt4) ∧ W.cell? ⟨gt, 2, none⟩ = some (.slice tt5 ttP tt6) ∧ W.cell? ⟨gR, 0, none⟩ = some (.slice ra m rc) ∧ W.cell? ⟨gR, 1, none⟩ = some (.slice rd rv re) ∧ W.cell? ⟨gR, 2, none⟩ = some (.slice rf rp rg) ∧ W.cell? ⟨gR + 1, 0, none⟩ = some (.int .i64 q0) ∧ W.cell? ⟨gR + 1, 1, none⟩ = some (.int .i64 q1) ∧ W.cell? ⟨gR + 1, 2, none⟩ = some (.int .i64 q2) ∧ W.cell? ⟨gR + 1, 3, none⟩ = some (.int .i64 q3) ∧ W.cell? ⟨gR + 1, 4, none⟩ = some (.int .i64 q4) ∧ W.cell? ⟨gR + 1, 5, none⟩ = some (.int .i64 q5) from fun W BW => ⟨cell_of_row _ _ 0 _ 37 (0, 0) ((BW.block _ (Array.getElem?_eq_some_iff.1 bOs.out).1).trans bOs.out), cell_of_row _ _ 1 _ 37 (0, 0) ((BW.block _ (Array.getElem?_eq_some_iff.1 bOs.out).1).trans bOs.out), cell_of_row _ _ 2 _ 37 (0, 0) ((BW.block _ (Array.getElem?_eq_some_iff.1 bOs.out).1).trans bOs.out), cell_of_row _ _ 0 _ 37 (0, 0) ((BW.block _ (Array.getElem?_eq_some_iff.1 bTs.out).1).trans bTs.out), cell_of_row _ _ 1 _ 37 (0, 0) ((BW.block _ (Array.getElem?_eq_some_iff.1 bTs.out).1).trans bTs.out), cell_of_row _ _ 2 _ 37 (0, 0) ((BW.block _ (Array.getElem?_eq_some_iff.1 bTs.out).1).trans bTs.out), cell_of_row _ _ 0 _ 37 (0, 0) ((BW.block _ (Array.getElem?_eq_some_iff.1 bRs.out).1).trans bRs.out), cell_of_row _ _ 1 _ 37 (0, 0) ((BW.block _ (Array.getElem?_eq_some_iff.1 bRs.out).1).trans bRs.out), cell_of_row _ _ 2 _ 37 (0, 0) ((BW.block _ (Array.getElem?_eq_some_iff.1 bRs.out).1).trans bRs.out), cell_of_row _ _ 0 _ 43 (0, 0) ((BW.block _ (Array.getElem?_eq_some_iff.1 bHs.out).1).trans bHs.out), cell_of_row _ _ 1 _ 43 (0, 0) ((BW.block _ (Array.getElem?_eq_some_iff.1 bHs.out).1).trans bHs.out), cell_of_row _ _ 2 _ 43 (0, 0) ((BW.block _ (Array.getElem?_eq_some_iff.1 bHs.out).1).trans bHs.out), cell_of_row _ _ 3 _ 43 (0, 0) ((BW.block _ (Array.getElem?_eq_some_iff.1 bHs.out).1).trans bHs.out), cell_of_row _ _ 4 _ 43 (0, 0) ((BW.block _ (Array.getElem?_eq_some_iff.1 bHs.out).1).trans bHs.out), cell_of_row _ _ 5 _ 43 (0, 0) ((BW.block _ (Array.getElem?_eq_some_iff.1 bHs.out).1).trans bHs.out)⟩)
 have hbdO := Lib.hid (obd_proved L ks hmph.out hasch.out)
 have hbdT := Lib.hid (obd_proved M ks2 hmpMh.out hasch2.out)
 have cB0 := Lib.hid (fun vo ks vs ps W ho hb => bent_any vo ks vs ps q0 q1 q2 W ho rfl hb hq.1.1 hq.1.2.1 hq.1.2.2)
 have cB1 := Lib.hid (fun vo ks vs ps W ho hb => bent_any vo ks vs ps q3 q4 q5 W ho rfl hb hq.2.1 hq.2.2.1 hq.2.2.2)
 have hAm : Hid (rks.take m = rks.take m) := rfl
 have hRs := Lib.hid (show ∀ W, Below ws.heap.size ws W → OpV W (.agg #[.slice ra m rc, .slice rd rv re, .slice rf rp rg]) (rks.take m) rvs rps from fun W BW => ⟨_, _, _, rfl, SLG.take (fA.out W (hBs.out.trans (BW.mono hBs.out.size))) (by rw [← hrn.out]; omega), fB.out W (hBs.out.trans (BW.mono hBs.out.size)), fC.out W (hBs.out.trans (BW.mono hBs.out.size))⟩)
 clear bRs bHs bOs bTs hq fA fB fC rmin m3 m4 m5
 refine wp_region_held_drew (S := (fun w' : World => w'.cell? ⟨go, 0, none⟩ = some (.slice oo1 ooK oo2) ∧ w'.cell? ⟨go, 1, none⟩ = some (.slice oo3 ooV oo4) ∧ w'.cell? ⟨go, 2, none⟩ = some (.slice oo5 ooP oo6) ∧ w'.cell? ⟨gt, 0, none⟩ = some (.slice tt1 ttK tt2) ∧ w'.cell? ⟨gt, 1, none⟩ = some (.slice tt3 ttV tt4) ∧ w'.cell? ⟨gt, 2, none⟩ = some (.slice tt5 ttP tt6) ∧ w'.cell? ⟨gR, 0, none⟩ = some (.slice ra m rc) ∧ w'.cell? ⟨gR, 1, none⟩ = some (.slice rd rv re) ∧ w'.cell? ⟨gR, 2, none⟩ = some (.slice rf rp rg) ∧ w'.cell? ⟨gR + 1, 0, none⟩ = some (.int .i64 q0) ∧ w'.cell? ⟨gR + 1, 1, none⟩ = some (.int .i64 q1) ∧ w'.cell? ⟨gR + 1, 2, none⟩ = some (.int .i64 q2) ∧ w'.cell? ⟨gR + 1, 3, none⟩ = some (.int .i64 q3) ∧ w'.cell? ⟨gR + 1, 4, none⟩ = some (.int .i64 q4) ∧ w'.cell? ⟨gR + 1, 5, none⟩ = some (.int .i64 q5))) (by kernel_rfl) (sK.out _ (Below.refl _ ws).drew) (fun hHeld => ?_)
 refine takeH (i := 0) (oi := { dst := some 70, op := .load 37 (.tmp 14), type := _, pos := _, after := _, guard := none }) (v := ?_) rfl (Or.inl ⟨by rfl, ?_⟩) (by assumption) ?_
 rotate_left
 ·(intro w hSw; (try dsimp only at hSw); go_simp) <;> with_reducible rfl
 try simp only [Act.put, zT, z0, zS]
 refine takeH (i := 1) (oi := { dst := some 71, op := .indexAddr 43 (.tmp 9) ((Operand.const (Value.int IntKind.i64 0))), type := _, pos := _, after := _, guard := none }) (v := ?_) rfl (Or.inl ⟨by rfl, ?_⟩) (by assumption) ?_
 rotate_left
 ·(intro w hSw; (try dsimp only at hSw); go_simp) <;> with_reducible rfl
 try simp only [Act.put, zT, z0, zS]
 refine takeH (i := 2) (oi := { dst := some 72, op := .load 42 (.tmp 71), type := _, pos := _, after := _, guard := none }) (v := ?_) rfl (Or.inl ⟨by rfl, ?_⟩) (by assumption) ?_
 rotate_left
 ·(intro w hSw; (try dsimp only at hSw); go_simp) <;> with_reducible rfl
 try simp only [Act.put, zT, z0, zS]
 refine takeH (i := 4) (oi := { dst := some 74, op := .load 37 (.tmp 14), type := _, pos := _, after := _, guard := none }) (v := ?_) rfl (Or.inl ⟨by rfl, ?_⟩) (by assumption) ?_
 rotate_left
 ·(intro w hSw; (try dsimp only at hSw); go_simp) <;> with_reducible rfl
 try simp only [Act.put, zT, z0, zS]
 refine takeH (i := 5) (oi := { dst := some 75, op := .indexAddr 43 (.tmp 9) ((Operand.const (Value.int IntKind.i64 0))), type := _, pos := _, after := _, guard := none }) (v := ?_) rfl (Or.inl ⟨by rfl, ?_⟩) (by assumption) ?_
 rotate_left
 ·(intro w hSw; (try dsimp only at hSw); go_simp) <;> with_reducible rfl
 try simp only [Act.put, zT, z0, zS]
 refine takeH (i := 6) (oi := { dst := some 76, op := .load 42 (.tmp 75), type := _, pos := _, after := _, guard := none }) (v := ?_) rfl (Or.inl ⟨by rfl, ?_⟩) (by assumption) ?_
 rotate_left
 ·(intro w hSw; (try dsimp only at hSw); go_simp) <;> with_reducible rfl
 try simp only [Act.put, zT, z0, zS]
 refine takeH (i := 8) (oi := { dst := some 78, op := .indexAddr 43 (.tmp 9) ((Operand.const (Value.int IntKind.i64 1))), type := _, pos := _, after := _, guard := none }) (v := ?_) rfl (Or.inl ⟨by rfl, ?_⟩) (by assumption) ?_
 rotate_left
 ·(intro w hSw; (try dsimp only at hSw); go_simp) <;> with_reducible rfl
 try simp only [Act.put, zT, z0, zS]
 refine takeH (i := 9) (oi := { dst := some 79, op := .load 42 (.tmp 78), type := _, pos := _, after := _, guard := none }) (v := ?_) rfl (Or.inl ⟨by rfl, ?_⟩) (by assumption) ?_
 rotate_left
 ·(intro w hSw; (try dsimp only at hSw); go_simp) <;> with_reducible rfl
 try simp only [Act.put, zT, z0, zS]
 refine takeH (i := 11) (oi := { dst := some 81, op := .load 37 (.tmp 16), type := _, pos := _, after := _, guard := none }) (v := ?_) rfl (Or.inl ⟨by rfl, ?_⟩) (by assumption) ?_
 rotate_left
 ·(intro w hSw; (try dsimp only at hSw); go_simp) <;> with_reducible rfl
 try simp only [Act.put, zT, z0, zS]
 refine takeH (i := 12) (oi := { dst := some 82, op := .load 37 (.tmp 16), type := _, pos := _, after := _, guard := none }) (v := ?_) rfl (Or.inl ⟨by rfl, ?_⟩) (by assumption) ?_
 rotate_left
 ·(intro w hSw; (try dsimp only at hSw); go_simp) <;> with_reducible rfl
 try simp only [Act.put, zT, z0, zS]
 refine takeH (i := 13) (oi := { dst := some 83, op := .indexAddr 43 (.tmp 9) ((Operand.const (Value.int IntKind.i64 0))), type := _, pos := _, after := _, guard := none }) (v := ?_) rfl (Or.inl ⟨by rfl, ?_⟩) (by assumption) ?_
 rotate_left
 ·(intro w hSw; (try dsimp only at hSw); go_simp) <;> with_reducible rfl
 try simp only [Act.put, zT, z0, zS]
 refine takeH (i := 14) (oi := { dst := some 84, op := .load 42 (.tmp 83), type := _, pos := _, after := _, guard := none }) (v := ?_) rfl (Or.inl ⟨by rfl, ?_⟩) (by assumption) ?_
 rotate_left
 ·(intro w hSw; (try dsimp only at hSw); go_simp) <;> with_reducible rfl
 try simp only [Act.put, zT, z0, zS]
 refine takeH (i := 16) (oi := { dst := some 86, op := .load 37 (.tmp 8), type := _, pos := _, after := _, guard := none }) (v := ?_) rfl (Or.inl ⟨by rfl, ?_⟩) (by assumption) ?_
 rotate_left
 ·(intro w hSw; (try dsimp only at hSw); go_simp) <;> with_reducible rfl
 try simp only [Act.put, zT, z0, zS]
 refine takeH (i := 19) (oi := { dst := some 89, op := .move ((Operand.const (Value.int IntKind.i64 0))), type := _, pos := _, after := _, guard := none }) (v := ?_) rfl (Or.inl ⟨by rfl, ?_⟩) (by assumption) ?_
 rotate_left
 ·(intro w hSw; (try dsimp only at hSw); go_simp) <;> with_reducible rfl
 try simp only [Act.put, zT, z0, zS]
 refine wpAnyH_ready (rs := [3]) (by kernel_rfl) (by simp) ?_
 refine AllReadyH.cons (o := { dst := some 73, op := .call { callee := .value (.func 22), args := #[(.tmp 70), (.tmp 72)], argTypes := #[37, 42] }, type := _, pos := _, after := _, guard := none }) rfl (fun K hK => ?_) ?_
 ·skip
  go_simp
  with_reducible refine (cB0.out _ _ _ _ ws.drew (hOs.out.below (Below.refl _ ws).drew) hbdO.out).mono ?_
  rintro e x1 ⟨bav, bak, bas, bap, rfl, bao, bad, b⟩
  have kx1 : Below ws.heap.size ws x1 := (Below.refl ws.heap.size ws).drew.trans b
  obtain ⟨bank, hbak⟩ : ∃ n, Hid (bak.length = n) := ⟨_, rfl⟩
  obtain ⟨bans, hbas⟩ : ∃ n, Hid (bas.length = n) := ⟨_, rfl⟩
  obtain ⟨banp, hbap⟩ : ∃ n, Hid (bap.length = n) := ⟨_, rfl⟩
  obtain ⟨ba1, ba2, ba3, ba4, ba5, ba6, rfl⟩ := bao.form bank bans banp hbak.out hbas.out hbap.out
  have bah := Lib.hid bao
  have bab := Lib.hid bad
  have x1to := Lib.hid (Below.refl x1.heap.size x1)
  clear bao bad b
  go_wp2_with fail
  refine hK.out _ _ ?_ (fun hHeld => ?_)
  ·exact sK.out _ kx1
  clear hK K
  try simp only [Act.put, zT, z0, zS]
  refine wpAnyH_ready (rs := [7]) (by kernel_rfl) (by simp) ?_
  refine AllReadyH.cons (o := { dst := some 77, op := .call { callee := .value (.func 22), args := #[(.tmp 74), (.tmp 76)], argTypes := #[37, 42] }, type := _, pos := _, after := _, guard := none }) rfl (fun K hK => ?_) ?_
  ·skip
   go_simp
   with_reducible refine (cB0.out _ _ _ _ x1 (hOs.out.below kx1) hbdO.out).mono ?_
   rintro e x2 ⟨bbv, bbk, bbs, bbp, rfl, bbo, bbd, b⟩
   have kx2 : Below ws.heap.size ws x2 := kx1.trans (b.mono kx1.size)
   obtain ⟨bbnk, hbbk⟩ : ∃ n, Hid (bbk.length = n) := ⟨_, rfl⟩
   obtain ⟨bbns, hbbs⟩ : ∃ n, Hid (bbs.length = n) := ⟨_, rfl⟩
   obtain ⟨bbnp, hbbp⟩ : ∃ n, Hid (bbp.length = n) := ⟨_, rfl⟩
   obtain ⟨bb1, bb2, bb3, bb4, bb5, bb6, rfl⟩ := bbo.form bbnk bbns bbnp hbbk.out hbbs.out hbbp.out
   have bbh := Lib.hid bbo
   have bbb := Lib.hid bbd
   replace x1to := Lib.hid (x1to.out.trans (b.mono x1to.out.size))
   clear bbo bbd b
   go_wp2_with fail
   refine hK.out _ _ ?_ (fun hHeld => ?_)
   ·exact sK.out _ kx2
   clear hK K
   try simp only [Act.put, zT, z0, zS]
   refine wpAnyH_ready (rs := [10]) (by kernel_rfl) (by simp) ?_
   refine AllReadyH.cons (o := { dst := some 80, op := .call { callee := .value (.func 22), args := #[(.tmp 77), (.tmp 79)], argTypes := #[37, 42] }, type := _, pos := _, after := _, guard := none }) rfl (fun K hK => ?_) ?_
   ·skip
    go_simp
    with_reducible refine (cB1.out _ _ _ _ x2 bbh.out bbb.out).mono ?_
    rintro e x3 ⟨bcv, bck, bcs, bcp, rfl, bco, bcd, b⟩
    have kx3 : Below ws.heap.size ws x3 := kx2.trans (b.mono kx2.size)
    obtain ⟨bcnk, hbck⟩ : ∃ n, Hid (bck.length = n) := ⟨_, rfl⟩
    obtain ⟨bcns, hbcs⟩ : ∃ n, Hid (bcs.length = n) := ⟨_, rfl⟩
    obtain ⟨bcnp, hbcp⟩ : ∃ n, Hid (bcp.length = n) := ⟨_, rfl⟩
    obtain ⟨bc1, bc2, bc3, bc4, bc5, bc6, rfl⟩ := bco.form bcnk bcns bcnp hbck.out hbcs.out hbcp.out
    have bch := Lib.hid bco
    have bcb := Lib.hid bcd
    replace x1to := Lib.hid (x1to.out.trans (b.mono x1to.out.size))
    have x3to := Lib.hid (Below.refl x3.heap.size x3)
    clear bco bcd b
    go_wp2_with fail
    refine hK.out _ _ ?_ (fun hHeld => ?_)
    ·exact sK.out _ kx3
    clear hK K
    try simp only [Act.put, zT, z0, zS]
    refine wpAnyH_ready (rs := [15]) (by kernel_rfl) (by simp) ?_
    refine AllReadyH.cons (o := { dst := some 85, op := .call { callee := .value (.func 22), args := #[(.tmp 82), (.tmp 84)], argTypes := #[37, 42] }, type := _, pos := _, after := _, guard := none }) rfl (fun K hK => ?_) ?_
    ·skip
     go_simp
     with_reducible refine (cB0.out _ _ _ _ x3 (hTs.out.below kx3) hbdT.out).mono ?_
     rintro e x4 ⟨bdv, bdk, bds, bdp, rfl, bdo, bdd, b⟩
     have kx4 : Below ws.heap.size ws x4 := kx3.trans (b.mono kx3.size)
     obtain ⟨bdnk, hbdk⟩ : ∃ n, Hid (bdk.length = n) := ⟨_, rfl⟩
     obtain ⟨bdns, hbds⟩ : ∃ n, Hid (bds.length = n) := ⟨_, rfl⟩
     obtain ⟨bdnp, hbdp⟩ : ∃ n, Hid (bdp.length = n) := ⟨_, rfl⟩
     obtain ⟨bd1, bd2, bd3, bd4, bd5, bd6, rfl⟩ := bdo.form bdnk bdns bdnp hbdk.out hbds.out hbdp.out
     have bdh := Lib.hid bdo
     have bdb := Lib.hid bdd
     replace x1to := Lib.hid (x1to.out.trans (b.mono x1to.out.size))
     replace x3to := Lib.hid (x3to.out.trans (b.mono x3to.out.size))
     clear bdo bdd b
     go_wp2_with fail
     refine hK.out _ _ ?_ (fun hHeld => ?_)
     ·exact sK.out _ kx4
     clear hK K
     try simp only [Act.put, zT, z0, zS]
     refine wpAnyH_ready (rs := [17]) (by kernel_rfl) (by simp) ?_
     refine AllReadyH.cons (o := { dst := some 87, op := .buildSlice 48 5 #[(0, (.tmp 73)), (1, (.tmp 80)), (2, (.tmp 81)), (3, (.tmp 85)), (4, (.tmp 86))], type := _, pos := _, after := _, guard := none }) rfl (fun K hK => ?_) ?_
     ·skip
      go_simp
      go_wp2_with fail
      refine hK.out _ _ ?_ (fun hHeld => ?_)
      ·exact sK.out _ (kx4.alloc kx4.size _)
      clear hK K
      try simp only [Act.put, zT, z0, zS]
      refine takeH (i := 18) (oi := { dst := some 88, op := .call { callee := .builtin .len, args := #[(.tmp 87)], argTypes := #[48] }, type := _, pos := _, after := _, guard := none }) (v := ?_) rfl (Or.inl ⟨by rfl, ?_⟩) (by assumption) ?_
      rotate_left
      ·(intro w hSw; (try dsimp only at hSw); go_simp) <;> with_reducible rfl
      try simp only [Act.put, zT, z0, zS]
      refine wpAnyH_done (by kernel_rfl) ?_ _
      obtain ⟨wz, hwz⟩ : ∃ W, W = x4.alloc (.cells #[.slice ba1 bank ba2, .slice ba3 bans ba4, .slice ba5 banp ba6, .slice bc1 bcnk bc2, .slice bc3 bcns bc4, .slice bc5 bcnp bc6, .slice tt1 ttK tt2, .slice tt3 ttV tt4, .slice tt5 ttP tt6, .slice bd1 bdnk bd2, .slice bd3 bdns bd4, .slice bd5 bdnp bd6, .slice ra m rc, .slice rd rv re, .slice rf rp rg] 37) := ⟨_, rfl⟩
      rw [← hwz]
      have bz : Below x4.heap.size x4 wz := by rw [hwz]; exact (Below.refl _ _).alloc (Nat.le_refl _) _
      have hz : wz.heap[x4.heap.size]? = some (.cells #[.slice ba1 bank ba2, .slice ba3 bans ba4, .slice ba5 banp ba6, .slice bc1 bcnk bc2, .slice bc3 bcns bc4, .slice bc5 bcnp bc6, .slice tt1 ttK tt2, .slice tt3 ttV tt4, .slice tt5 ttP tt6, .slice bd1 bdnk bd2, .slice bd3 bdns bd4, .slice bd5 bdnp bd6, .slice ra m rc, .slice rd rv re, .slice rf rp rg] 37 (0, 0)) := by rw [hwz]; exact heap_alloc_new _ _
      have hzs : x4.heap.size < wz.heap.size := by rw [hwz]; simp
      have kz := kx4.trans (bz.mono kx4.size)
      have obx : ∀ {ks : List Int} {vs ps : List Str}, OBd ks vs ps → ks.length ≤ 64 ∧ (∀ x ∈ ks, I64 x) ∧ vs.length ≤ 9223372036854775807 ∧ ps.length ≤ 9223372036854775807 := fun h => ⟨h.1, h.2.2.2.1, by rw [h.2.1]; have := h.1; omega, by have := h.2.2.1; omega⟩
      have key := Lib.hid (show ∀ k : Nat, k < 5 → ∃ a1 a2 a3 b1 b2 b3 c1 c2 c3, ∃ (kk : List Int) (kv kp : List Str), (∀ W, Below wz.heap.size wz W → W.cell? ⟨x4.heap.size, k * 3, none⟩ = some (.slice a1 a2 a3) ∧ W.cell? ⟨x4.heap.size, k * 3 + 1, none⟩ = some (.slice b1 b2 b3) ∧ W.cell? ⟨x4.heap.size, k * 3 + 2, none⟩ = some (.slice c1 c2 c3)) ∧ (∀ W, Below wz.heap.size wz W → OpV W (.agg #[.slice a1 a2 a3, .slice b1 b2 b3, .slice c1 c2 c3]) kk kv kp) ∧ (kk.length ≤ 64 ∧ (∀ x ∈ kk, I64 x) ∧ kv.length ≤ 9223372036854775807 ∧ kp.length ≤ 9223372036854775807) from fun k hk => by
       have hB : ∀ W, Below wz.heap.size wz W → W.heap[x4.heap.size]? = some (.cells #[.slice ba1 bank ba2, .slice ba3 bans ba4, .slice ba5 banp ba6, .slice bc1 bcnk bc2, .slice bc3 bcns bc4, .slice bc5 bcnp bc6, .slice tt1 ttK tt2, .slice tt3 ttV tt4, .slice tt5 ttP tt6, .slice bd1 bdnk bd2, .slice bd3 bdns bd4, .slice bd5 bdnp bd6, .slice ra m rc, .slice rd rv re, .slice rf rp rg] 37 (0, 0)) := fun W B => (B.block _ hzs).trans hz
       have hcell : ∀ W, Below wz.heap.size wz W → ∀ i, W.cell? ⟨x4.heap.size, i, none⟩ = (#[.slice ba1 bank ba2, .slice ba3 bans ba4, .slice ba5 banp ba6, .slice bc1 bcnk bc2, .slice bc3 bcns bc4, .slice bc5 bcnp bc6, .slice tt1 ttK tt2, .slice tt3 ttV tt4, .slice tt5 ttP tt6, .slice bd1 bdnk bd2, .slice bd3 bdns bd4, .slice bd5 bdnp bd6, .slice ra m rc, .slice rd rv re, .slice rf rp rg] : Array Value)[i]? := fun W B i => cell_of_row _ _ _ _ _ _ (hB W B)
       match k, hk with
        | 0, _ => exact ⟨ba1, bank, ba2, ba3, bans, ba4, ba5, banp, ba6, bak, bas, bap, fun W B => ⟨hcell W B 0, hcell W B 1, hcell W B 2⟩, fun W B => ((bah.out.below (x1to.out)).below (bz.trans (B.mono bz.size))), obx bab.out⟩
        | 1, _ => exact ⟨bc1, bcnk, bc2, bc3, bcns, bc4, bc5, bcnp, bc6, bck, bcs, bcp, fun W B => ⟨hcell W B 3, hcell W B 4, hcell W B 5⟩, fun W B => ((bch.out.below x3to.out).below (bz.trans (B.mono bz.size))), obx bcb.out⟩
        | 2, _ => exact ⟨tt1, ttK, tt2, tt3, ttV, tt4, tt5, ttP, tt6, ks2, valsL M ks2, pathL M ks2, fun W B => ⟨hcell W B 6, hcell W B 7, hcell W B 8⟩, fun W B => hTs.out.below (kz.trans (B.mono kz.size)), obx hbdT.out⟩
        | 3, _ => exact ⟨bd1, bdnk, bd2, bd3, bdns, bd4, bd5, bdnp, bd6, bdk, bds, bdp, fun W B => ⟨hcell W B 9, hcell W B 10, hcell W B 11⟩, fun W B => (bdh.out.below (bz.trans (B.mono bz.size))), obx bdb.out⟩
        | 4, _ => exact ⟨ra, m, rc, rd, rv, re, rf, rp, rg, rks.take m, rvs, rps, fun W B => ⟨hcell W B 12, hcell W B 13, hcell W B 14⟩, fun W B => hRs.out W (kz.trans (B.mono kz.size)), ⟨by rw [List.length_take]; omega, fun x hx => hAI.out x (List.mem_of_mem_take hx), hBl.out, hCl.out⟩⟩)
      have toW := Lib.hid (show ∀ W, Below wz.heap.size wz W → Below w.heap.size w W from fun W B => (hBs.out.trans (kz.mono hBs.out.size)).trans (B.mono (Nat.le_trans hBs.out.size kz.size)))
      have fLz := Lib.hid (show ∀ W, Below wz.heap.size wz W → SE W (.slice l1 nL l2) L from fun W B => hLs.out.below (kz.trans (B.mono kz.size)))
      have cAt := Lib.hid (show ∀ W key, SE W (.slice l1 nL l2) L → Calls Tryd.prog 29 #[.slice l1 nL l2, .int .i64 key] W fun e w' => e = .returned (.string ⟨(lookE L key).toArray⟩) ∧ W = w' from fun W key h => At_any _ L key W h rfl (by have := hlh.out; omega))
      have cHs := Lib.hid (show ∀ W, Below wz.heap.size wz W → Calls Tryd.prog 31 #[.slice l1 nL l2] W (HPost (hsL L) W) from fun W B' => HashedC _ L W (fLz.out W B') hmph.out)
      have hsm := Lib.hid (hsL_small L hmph.out)
      obtain ⟨HL, hHL⟩ : ∃ S, Hid (S = hsL L) := ⟨hsL L, Lib.hid (Eq.refl _)⟩
      rw [← hHL.out] at cHs hsm
      clear hwz hz hzs bz kz kx1 kx2 kx3 kx4 hOs hTs hRs hLs bah bbh bch bdh bab bbb bcb bdb hBs sK hHeld x1to x3to
      obtain ⟨bz, hbz⟩ : ∃ g, x4.heap.size = g := ⟨_, rfl⟩
      rw [hbz] at key ⊢
      clear hbz
      go_wp2_with fail
      go_loopw [89] (fun iv wr => ∃ k : Nat, k ≤ 5 ∧ iv = .int .i64 k ∧ Below wz.heap.size wz wr) (fun iv _ => 5 - (intOf iv).toNat)
      case atStart => exact ⟨0, by omega, rfl, Below.refl _ _⟩
      case round =>
       obtain ⟨k, hk, rfl, B⟩ := hrel
       by_cases hlt : k < 5
       ·have i0 : (0 : Int) ≤ (k : Int) := by omega
        have i1 : (k : Int) < 5 := by omega
        obtain ⟨a1, a2, a3, b1, b2, b3, c1, c2, c3, kk, kv, kp, hc, hOp, hb1, hbI, hb2, hb3⟩ := key.out k hlt
        obtain ⟨c0, c1', c2'⟩ := hc wr B
        have hOph := Lib.hid hOp
        have hbIh := Lib.hid hbI
        have cRd := Lib.hid (show ∀ W, Below wz.heap.size wz W → Calls Tryd.prog 23 #[.string ⟨RL.toArray⟩, .agg #[.slice a1 a2 a3, .slice b1 b2 b3, .slice c1 c2 c3]] W (ReadPost RL kk kv kp W) from fun W B' => ReadX_any RL _ kk kv kp W rfl (hOp W B') (by omega) hb2 hb3 (hT.out.below (toW.out W B')))
        have cOp := Lib.hid (show ∀ W, Below wz.heap.size wz W → Calls Tryd.prog 32 #[.agg #[.slice a1 a2 a3, .slice b1 b2 b3, .slice c1 c2 c3]] W (HPost (openL kk kv kp) W) from fun W B' => Opened_any _ kk kv kp W (hOp W B') rfl (by omega) hbI hb2 hb3)
        clear hc hOp hbI hb2 hb3
        go_upto_region 13 with (fail)
        obtain ⟨wb, hwb⟩ : ∃ W, W = wr.alloc (.cells #[.slice a1 a2 a3, .slice b1 b2 b3, .slice c1 c2 c3] 37) := ⟨_, rfl⟩
        rw [← hwb]
        obtain ⟨bb, zb, hbx⟩ := box_world wr wb _ _ _ 37 hwb
        have Bb := B.trans (bb.mono B.size)
        have hbx := Lib.hid hbx
        rename_i xo; clear xo hwb bb zb c0 c1' c2'
        obtain ⟨gX, hgX⟩ : ∃ g, wr.heap.size = g := ⟨_, rfl⟩
        rw [hgX] at hbx ⊢
        clear hgX
        obtain ⟨d0, d1, d2⟩ := hbx.out wb (Below.refl _ _)
        go_wp2_with fail
        with_reducible refine (cRd.out _ Bb).mono ?_
        rintro e w6 hpost
        clear d0 d1 d2
        rcases hpost with ⟨hsb, rfl, b⟩ | ⟨hsb, tv, av, rfl, ht, ha, b⟩
        ·have B6 := Bb.trans (b.mono Bb.size)
         clear hsb b
         go_wp2_with fail
         go_roundw
         case rel => exact ⟨k + 1, by omega, by go_num, B6⟩
         case measure => simp [intOf]; omega
        ·have B6 := Bb.trans (b.mono Bb.size)
         have hbx := Lib.hid (show ∀ W, Below w6.heap.size w6 W → _ from fun W BW => hbx.out W (b.trans (BW.mono b.size)))
         obtain ⟨E, hE⟩ : ∃ E, Hid (E = rdE (shownV kk kv) kk) := ⟨_, Lib.hid (Eq.refl _)⟩
         obtain ⟨AA, hAA⟩ : ∃ E, Hid (E = rdA (shownV kk kv) kk) := ⟨_, Lib.hid (Eq.refl _)⟩
         rw [← hE.out] at ht
         rw [← hAA.out] at ha
         have hEa := Lib.hid (show ∀ (k : Nat) (hk : k < E.length), _ from fun k hk => SE.at ht k hk)
         have hAa := Lib.hid (show ∀ (k : Nat) (hk : k < AA.length), _ from fun k hk => SI.at ha k hk)
         have hEl : E.length ≤ 64 := by rw [hE.out]; have := rdE_len (shownV kk kv) kk; omega
         have hAl : AA.length ≤ 64 := by rw [hAA.out]; have := rdA_len (shownV kk kv) kk; omega
         obtain ⟨t1, nE, t3, rfl, hnE⟩ := ht.shape'
         obtain ⟨v1, nA, v3, rfl, hnA⟩ := ha.shape'
         rw [← hnE.out] at hEl
         rw [← hnA.out] at hAl
         have hto := Lib.hid (show ∀ W, Below w6.heap.size w6 W → Below wz.heap.size wz W from fun W BW => B6.trans (BW.mono B6.size))
         have hfin : Hid (∀ r : Bool, r = (E.all (okE L) && AA.all (okA L)) → r = false → outQ HL (openL kk kv kp) = true) := fun r hr hrf => by
          obtain ⟨s1, s2⟩ : formB kk kv kp = true ∧ standS kk kp (shownV kk kv) = RL := by
           unfold shownB at hsb
           rw [Bool.and_eq_true, beq_iff_eq] at hsb
           exact hsb
          cases ho : outQ HL (openL kk kv kp) with
          | true => rfl
          | false =>
           have hop : openL kk kv kp = opL kk kv kp := by unfold openL; rw [if_pos s1]
           rw [hop, hHL.out] at ho
           have hbr := binding_right L kk kv kp hmph.out s1 (by rw [s2, hRL.out]) ho
           have h1 : E.all (okE L) = true := by
            rw [hE.out, List.all_eq_true]
            intro e he
            unfold rdE at he
            obtain ⟨x, hx, rfl⟩ := List.mem_map.1 he
            have hxk := (List.mem_filter.1 hx).1
            unfold okE
            rw [beq_iff_eq]
            exact (hbr x hxk).symm
           have h2 : AA.all (okA L) = true := by
            rw [hAA.out, List.all_eq_true]
            intro x hx
            unfold rdA at hx
            obtain ⟨hxk, hxe⟩ := List.mem_filter.1 hx
            unfold okA
            rw [beq_iff_eq, ← hbr x hxk]
            simpa using hxe
           rw [h1, h2] at hr
           rw [hr] at hrf
           cases hrf
         have cOu := Lib.hid (fun va vb W h1 h2 => Out_any va vb HL (openL kk kv kp) W h1 h2 (by have := hsm.out.2; omega) (by have := (openL_small kk kv kp).2; omega) hsm.out.1 (openL_small kk kv kp).1)
         have hO0 : Hid (openL kk kv kp = openL kk kv kp) := rfl
         generalize openL kk kv kp = OL at *
         have toz := Lib.hid hto.out
         clear ht ha hsb b cRd hOph hbIh hE hAA hO0 B hsm
         go_wp2_with fail
         go_loopw [23, 24] (fun rv iv wi => ∃ (i : Nat) (r : Bool), i ≤ nE ∧ iv = .int .i64 i ∧ rv = .bool r ∧ Hid (r = (E.take i).all (okE L)) ∧ Below w6.heap.size w6 wi) (fun _ iv _ => nE - (intOf iv).toNat)
         case atStart => exact ⟨0, true, by omega, rfl, rfl, rfl, Below.refl _ _⟩
         case round =>
          obtain ⟨i, r, hi, rfl, rfl, hr, Bi⟩ := hrel
          by_cases hli : i < nE
          ·have hil : i < E.length := by rw [← hnE.out]; exact hli
           obtain ⟨gb1, go1, y3, he, hcell⟩ := hEa.out i hil
           injection he with he1 he2 he3
           subst he1
           clear he2 he3
           have hsn := Lib.hid (all_snoc (okE L) E i hil)
           have hoke : Hid (okE L E[i] = (lookE L E[i].1 == E[i].2)) := rfl
           have hcellh := Lib.hid hcell
           clear hcell
           generalize E[i] = ee at *
           obtain ⟨ek, es⟩ := ee
           dsimp only at hcellh hoke
           have hS0 := Lib.hid (show _ ∧ _ from hcellh.out (World.drew _) (Bi.drew))
           have cc := hcellh.out _ Bi
           have i2 : (0 : Int) ≤ (i : Int) := by omega
           have i3 : (i : Int) < (nE : Int) := by omega
           cases r with
           | false =>
            have hnew : Hid (false = (E.take (i + 1)).all (okE L)) := by show _ = _; rw [hsn.out, ← hr.out]; rfl
            clear hr hsn hoke cc hcellh
            go_wp2_with fail
            refine wp_region_held_drew (S := (fun w' : World => w'.cell? ⟨gb1, go1 + i * 2, none⟩ = some (.int .i64 ek) ∧ w'.cell? ⟨gb1, go1 + i * 2 + 1, none⟩ = some (.string ⟨es.toArray⟩))) (by kernel_rfl) hS0.out (fun hHeld => ?_)
            refine takeH (i := 0) (oi := { dst := some 108, op := .move (.tmp 23), type := _, pos := _, after := _, guard := none }) (v := ?_) rfl (Or.inl ⟨by rfl, ?_⟩) (by assumption) ?_
            rotate_left
            ·(intro w hSw; (try dsimp only at hSw); go_simp) <;> with_reducible rfl
            try simp only [Act.put, zT, z0, zS]
            refine takeH (i := 1) (oi := { dst := some 109, op := .move (.tmp 108), type := _, pos := _, after := _, guard := none }) (v := ?_) rfl (Or.inl ⟨by rfl, ?_⟩) (by assumption) ?_
            rotate_left
            ·(intro w hSw; (try dsimp only at hSw); go_simp) <;> with_reducible rfl
            try simp only [Act.put, zT, z0, zS]
            refine takeH (i := 2) (oi := { dst := some 110, op := .move (.tmp 11), type := _, pos := _, after := _, guard := some (1, true) }) (v := undef) rfl (Or.inr ⟨by rfl, rfl⟩) (by assumption) ?_
            try simp only [Act.put, zT, z0, zS]
            refine takeH (i := 3) (oi := { dst := some 111, op := .move (.tmp 20), type := _, pos := _, after := _, guard := some (1, true) }) (v := undef) rfl (Or.inr ⟨by rfl, rfl⟩) (by assumption) ?_
            try simp only [Act.put, zT, z0, zS]
            refine takeH (i := 4) (oi := { dst := some 112, op := .move (.tmp 24), type := _, pos := _, after := _, guard := some (1, true) }) (v := undef) rfl (Or.inr ⟨by rfl, rfl⟩) (by assumption) ?_
            try simp only [Act.put, zT, z0, zS]
            refine takeH (i := 5) (oi := { dst := some 113, op := .indexAddr 23 (.tmp 111) (.tmp 112), type := _, pos := _, after := _, guard := some (1, true) }) (v := undef) rfl (Or.inr ⟨by rfl, rfl⟩) (by assumption) ?_
            try simp only [Act.put, zT, z0, zS]
            refine takeH (i := 6) (oi := { dst := some 114, op := .fieldAddr 46 (.tmp 113) 0, type := _, pos := _, after := _, guard := some (1, true) }) (v := undef) rfl (Or.inr ⟨by rfl, rfl⟩) (by assumption) ?_
            try simp only [Act.put, zT, z0, zS]
            refine takeH (i := 7) (oi := { dst := some 115, op := .load 3 (.tmp 114), type := _, pos := _, after := _, guard := some (1, true) }) (v := undef) rfl (Or.inr ⟨by rfl, rfl⟩) (by assumption) ?_
            try simp only [Act.put, zT, z0, zS]
            refine takeH (i := 9) (oi := { dst := some 117, op := .move (.tmp 20), type := _, pos := _, after := _, guard := some (1, true) }) (v := undef) rfl (Or.inr ⟨by rfl, rfl⟩) (by assumption) ?_
            try simp only [Act.put, zT, z0, zS]
            refine takeH (i := 10) (oi := { dst := some 118, op := .move (.tmp 24), type := _, pos := _, after := _, guard := some (1, true) }) (v := undef) rfl (Or.inr ⟨by rfl, rfl⟩) (by assumption) ?_
            try simp only [Act.put, zT, z0, zS]
            refine takeH (i := 11) (oi := { dst := some 119, op := .indexAddr 23 (.tmp 117) (.tmp 118), type := _, pos := _, after := _, guard := some (1, true) }) (v := undef) rfl (Or.inr ⟨by rfl, rfl⟩) (by assumption) ?_
            try simp only [Act.put, zT, z0, zS]
            refine takeH (i := 12) (oi := { dst := some 120, op := .fieldAddr 46 (.tmp 119) 1, type := _, pos := _, after := _, guard := some (1, true) }) (v := undef) rfl (Or.inr ⟨by rfl, rfl⟩) (by assumption) ?_
            try simp only [Act.put, zT, z0, zS]
            refine takeH (i := 13) (oi := { dst := some 121, op := .load 9 (.tmp 120), type := _, pos := _, after := _, guard := some (1, true) }) (v := undef) rfl (Or.inr ⟨by rfl, rfl⟩) (by assumption) ?_
            try simp only [Act.put, zT, z0, zS]
            refine takeH (i := 8) (oi := { dst := some 116, op := .call { callee := .value (.func 29), args := #[(.tmp 110), (.tmp 115)], argTypes := #[23, 3] }, type := _, pos := _, after := _, guard := some (1, true) }) (v := undef) rfl (Or.inr ⟨by rfl, rfl⟩) (by assumption) ?_
            try simp only [Act.put, zT, z0, zS]
            refine takeH (i := 14) (oi := { dst := some 122, op := .binOp BinOp.eql 9 (.tmp 116) (.tmp 121) 9, type := _, pos := _, after := _, guard := some (1, true) }) (v := undef) rfl (Or.inr ⟨by rfl, rfl⟩) (by assumption) ?_
            try simp only [Act.put, zT, z0, zS]
            refine takeH (i := 15) (oi := { dst := some 123, op := .pick (.tmp 109) (.tmp 122) ((Operand.const (Value.bool false))), type := _, pos := _, after := _, guard := none }) (v := ?_) rfl (Or.inl ⟨by rfl, ?_⟩) (by assumption) ?_
            rotate_left
            ·(intro w hSw; (try dsimp only at hSw); go_simp) <;> with_reducible rfl
            try simp only [Act.put, zT, z0, zS]
            refine takeH (i := 16) (oi := { dst := some 23, op := .assign (.tmp 123), type := _, pos := _, after := _, guard := none }) (v := ?_) rfl (Or.inl ⟨by rfl, ?_⟩) (by assumption) ?_
            rotate_left
            ·(intro w hSw; (try dsimp only at hSw); go_simp) <;> with_reducible rfl
            try simp only [Act.put, zT, z0, zS]
            refine wpAnyH_done (by kernel_rfl) ?_ _
            go_wp2_with fail
            go_roundw
            case rel => exact ⟨i + 1, false, by omega, by go_num, rfl, hnew, Bi.drew⟩
            case measure => simp [intOf]; omega
           | true =>
            cases hk : (lookE L ek == es) with
            | false =>
             have hnew : Hid (false = (E.take (i + 1)).all (okE L)) := by show _ = _; rw [hsn.out, ← hr.out, hoke.out, hk]; rfl
             clear hr hsn hoke cc hcellh
             go_wp2_with fail
             refine wp_region_held_drew (S := (fun w' : World => w'.cell? ⟨gb1, go1 + i * 2, none⟩ = some (.int .i64 ek) ∧ w'.cell? ⟨gb1, go1 + i * 2 + 1, none⟩ = some (.string ⟨es.toArray⟩))) (by kernel_rfl) hS0.out (fun hHeld => ?_)
             refine takeH (i := 0) (oi := { dst := some 108, op := .move (.tmp 23), type := _, pos := _, after := _, guard := none }) (v := ?_) rfl (Or.inl ⟨by rfl, ?_⟩) (by assumption) ?_
             rotate_left
             ·(intro w hSw; (try dsimp only at hSw); go_simp) <;> with_reducible rfl
             try simp only [Act.put, zT, z0, zS]
             refine takeH (i := 1) (oi := { dst := some 109, op := .move (.tmp 108), type := _, pos := _, after := _, guard := none }) (v := ?_) rfl (Or.inl ⟨by rfl, ?_⟩) (by assumption) ?_
             rotate_left
             ·(intro w hSw; (try dsimp only at hSw); go_simp) <;> with_reducible rfl
             try simp only [Act.put, zT, z0, zS]
             refine takeH (i := 2) (oi := { dst := some 110, op := .move (.tmp 11), type := _, pos := _, after := _, guard := some (1, true) }) (v := ?_) rfl (Or.inl ⟨by rfl, ?_⟩) (by assumption) ?_
             rotate_left
             ·(intro w hSw; (try dsimp only at hSw); go_simp) <;> with_reducible rfl
             try simp only [Act.put, zT, z0, zS]
             refine takeH (i := 3) (oi := { dst := some 111, op := .move (.tmp 20), type := _, pos := _, after := _, guard := some (1, true) }) (v := ?_) rfl (Or.inl ⟨by rfl, ?_⟩) (by assumption) ?_
             rotate_left
             ·(intro w hSw; (try dsimp only at hSw); go_simp) <;> with_reducible rfl
             try simp only [Act.put, zT, z0, zS]
             refine takeH (i := 4) (oi := { dst := some 112, op := .move (.tmp 24), type := _, pos := _, after := _, guard := some (1, true) }) (v := ?_) rfl (Or.inl ⟨by rfl, ?_⟩) (by assumption) ?_
             rotate_left
             ·(intro w hSw; (try dsimp only at hSw); go_simp) <;> with_reducible rfl
             try simp only [Act.put, zT, z0, zS]
             refine takeH (i := 5) (oi := { dst := some 113, op := .indexAddr 23 (.tmp 111) (.tmp 112), type := _, pos := _, after := _, guard := some (1, true) }) (v := ?_) rfl (Or.inl ⟨by rfl, ?_⟩) (by assumption) ?_
             rotate_left
             ·(intro w hSw; (try dsimp only at hSw); go_simp) <;> with_reducible rfl
             try simp only [Act.put, zT, z0, zS]
             refine takeH (i := 6) (oi := { dst := some 114, op := .fieldAddr 46 (.tmp 113) 0, type := _, pos := _, after := _, guard := some (1, true) }) (v := ?_) rfl (Or.inl ⟨by rfl, ?_⟩) (by assumption) ?_
             rotate_left
             ·(intro w hSw; (try dsimp only at hSw); go_simp) <;> with_reducible rfl
             try simp only [Act.put, zT, z0, zS]
             refine takeH (i := 7) (oi := { dst := some 115, op := .load 3 (.tmp 114), type := _, pos := _, after := _, guard := some (1, true) }) (v := ?_) rfl (Or.inl ⟨by rfl, ?_⟩) (by assumption) ?_
             rotate_left
             ·(intro w hSw; (try dsimp only at hSw); go_simp) <;> with_reducible rfl
             try simp only [Act.put, zT, z0, zS]
             refine takeH (i := 9) (oi := { dst := some 117, op := .move (.tmp 20), type := _, pos := _, after := _, guard := some (1, true) }) (v := ?_) rfl (Or.inl ⟨by rfl, ?_⟩) (by assumption) ?_
             rotate_left
             ·(intro w hSw; (try dsimp only at hSw); go_simp) <;> with_reducible rfl
             try simp only [Act.put, zT, z0, zS]
             refine takeH (i := 10) (oi := { dst := some 118, op := .move (.tmp 24), type := _, pos := _, after := _, guard := some (1, true) }) (v := ?_) rfl (Or.inl ⟨by rfl, ?_⟩) (by assumption) ?_
             rotate_left
             ·(intro w hSw; (try dsimp only at hSw); go_simp) <;> with_reducible rfl
             try simp only [Act.put, zT, z0, zS]
             refine takeH (i := 11) (oi := { dst := some 119, op := .indexAddr 23 (.tmp 117) (.tmp 118), type := _, pos := _, after := _, guard := some (1, true) }) (v := ?_) rfl (Or.inl ⟨by rfl, ?_⟩) (by assumption) ?_
             rotate_left
             ·(intro w hSw; (try dsimp only at hSw); go_simp) <;> with_reducible rfl
             try simp only [Act.put, zT, z0, zS]
             refine takeH (i := 12) (oi := { dst := some 120, op := .fieldAddr 46 (.tmp 119) 1, type := _, pos := _, after := _, guard := some (1, true) }) (v := ?_) rfl (Or.inl ⟨by rfl, ?_⟩) (by assumption) ?_
             rotate_left
             ·(intro w hSw; (try dsimp only at hSw); go_simp) <;> with_reducible rfl
             try simp only [Act.put, zT, z0, zS]
             refine takeH (i := 13) (oi := { dst := some 121, op := .load 9 (.tmp 120), type := _, pos := _, after := _, guard := some (1, true) }) (v := ?_) rfl (Or.inl ⟨by rfl, ?_⟩) (by assumption) ?_
             rotate_left
             ·(intro w hSw; (try dsimp only at hSw); go_simp) <;> with_reducible rfl
             try simp only [Act.put, zT, z0, zS]
             refine wpAnyH_ready (rs := [8]) (by kernel_rfl) (by simp) ?_
             refine AllReadyH.cons (o := { dst := some 116, op := .call { callee := .value (.func 29), args := #[(.tmp 110), (.tmp 115)], argTypes := #[23, 3] }, type := _, pos := _, after := _, guard := some (1, true) }) rfl (fun K hK => ?_) ?_
             ·skip
              go_simp
              with_reducible refine (cAt.out _ ek (fLz.out _ (hto.out _ Bi.drew))).mono ?_
              rintro e w' ⟨rfl, rfl⟩
              go_wp2_with fail
              refine hK.out _ _ ?_ (fun hHeld => ?_)
              ·exact hHeld
              clear hK K
              try simp only [Act.put, zT, z0, zS]
              refine takeH (i := 14) (oi := { dst := some 122, op := .binOp BinOp.eql 9 (.tmp 116) (.tmp 121) 9, type := _, pos := _, after := _, guard := some (1, true) }) (v := ?_) rfl (Or.inl ⟨by rfl, ?_⟩) (by assumption) ?_
              rotate_left
              ·(intro w hSw; (try dsimp only at hSw); go_simp) <;> with_reducible rfl
              try simp only [Act.put, zT, z0, zS]
              refine takeH (i := 15) (oi := { dst := some 123, op := .pick (.tmp 109) (.tmp 122) ((Operand.const (Value.bool false))), type := _, pos := _, after := _, guard := none }) (v := ?_) rfl (Or.inl ⟨by rfl, ?_⟩) (by assumption) ?_
              rotate_left
              ·(intro w hSw; (try dsimp only at hSw); go_simp) <;> with_reducible rfl
              try simp only [Act.put, zT, z0, zS]
              refine takeH (i := 16) (oi := { dst := some 23, op := .assign (.tmp 123), type := _, pos := _, after := _, guard := none }) (v := ?_) rfl (Or.inl ⟨by rfl, ?_⟩) (by assumption) ?_
              rotate_left
              ·(intro w hSw; (try dsimp only at hSw); go_simp) <;> with_reducible rfl
              try simp only [Act.put, zT, z0, zS]
              refine wpAnyH_done (by kernel_rfl) ?_ _
              go_wp2_with fail
              go_roundw
              case rel => exact ⟨i + 1, _, by omega, by go_num, rfl, hnew, Bi.drew⟩
              case measure => simp [intOf]; omega
             exact AllReadyH.nil
            | true =>
             have hnew : Hid (true = (E.take (i + 1)).all (okE L)) := by show _ = _; rw [hsn.out, ← hr.out, hoke.out, hk]; rfl
             clear hr hsn hoke cc hcellh
             go_wp2_with fail
             refine wp_region_held_drew (S := (fun w' : World => w'.cell? ⟨gb1, go1 + i * 2, none⟩ = some (.int .i64 ek) ∧ w'.cell? ⟨gb1, go1 + i * 2 + 1, none⟩ = some (.string ⟨es.toArray⟩))) (by kernel_rfl) hS0.out (fun hHeld => ?_)
             refine takeH (i := 0) (oi := { dst := some 108, op := .move (.tmp 23), type := _, pos := _, after := _, guard := none }) (v := ?_) rfl (Or.inl ⟨by rfl, ?_⟩) (by assumption) ?_
             rotate_left
             ·(intro w hSw; (try dsimp only at hSw); go_simp) <;> with_reducible rfl
             try simp only [Act.put, zT, z0, zS]
             refine takeH (i := 1) (oi := { dst := some 109, op := .move (.tmp 108), type := _, pos := _, after := _, guard := none }) (v := ?_) rfl (Or.inl ⟨by rfl, ?_⟩) (by assumption) ?_
             rotate_left
             ·(intro w hSw; (try dsimp only at hSw); go_simp) <;> with_reducible rfl
             try simp only [Act.put, zT, z0, zS]
             refine takeH (i := 2) (oi := { dst := some 110, op := .move (.tmp 11), type := _, pos := _, after := _, guard := some (1, true) }) (v := ?_) rfl (Or.inl ⟨by rfl, ?_⟩) (by assumption) ?_
             rotate_left
             ·(intro w hSw; (try dsimp only at hSw); go_simp) <;> with_reducible rfl
             try simp only [Act.put, zT, z0, zS]
             refine takeH (i := 3) (oi := { dst := some 111, op := .move (.tmp 20), type := _, pos := _, after := _, guard := some (1, true) }) (v := ?_) rfl (Or.inl ⟨by rfl, ?_⟩) (by assumption) ?_
             rotate_left
             ·(intro w hSw; (try dsimp only at hSw); go_simp) <;> with_reducible rfl
             try simp only [Act.put, zT, z0, zS]
             refine takeH (i := 4) (oi := { dst := some 112, op := .move (.tmp 24), type := _, pos := _, after := _, guard := some (1, true) }) (v := ?_) rfl (Or.inl ⟨by rfl, ?_⟩) (by assumption) ?_
             rotate_left
             ·(intro w hSw; (try dsimp only at hSw); go_simp) <;> with_reducible rfl
             try simp only [Act.put, zT, z0, zS]
             refine takeH (i := 5) (oi := { dst := some 113, op := .indexAddr 23 (.tmp 111) (.tmp 112), type := _, pos := _, after := _, guard := some (1, true) }) (v := ?_) rfl (Or.inl ⟨by rfl, ?_⟩) (by assumption) ?_
             rotate_left
             ·(intro w hSw; (try dsimp only at hSw); go_simp) <;> with_reducible rfl
             try simp only [Act.put, zT, z0, zS]
             refine takeH (i := 6) (oi := { dst := some 114, op := .fieldAddr 46 (.tmp 113) 0, type := _, pos := _, after := _, guard := some (1, true) }) (v := ?_) rfl (Or.inl ⟨by rfl, ?_⟩) (by assumption) ?_
             rotate_left
             ·(intro w hSw; (try dsimp only at hSw); go_simp) <;> with_reducible rfl
             try simp only [Act.put, zT, z0, zS]
             refine takeH (i := 7) (oi := { dst := some 115, op := .load 3 (.tmp 114), type := _, pos := _, after := _, guard := some (1, true) }) (v := ?_) rfl (Or.inl ⟨by rfl, ?_⟩) (by assumption) ?_
             rotate_left
             ·(intro w hSw; (try dsimp only at hSw); go_simp) <;> with_reducible rfl
             try simp only [Act.put, zT, z0, zS]
             refine takeH (i := 9) (oi := { dst := some 117, op := .move (.tmp 20), type := _, pos := _, after := _, guard := some (1, true) }) (v := ?_) rfl (Or.inl ⟨by rfl, ?_⟩) (by assumption) ?_
             rotate_left
             ·(intro w hSw; (try dsimp only at hSw); go_simp) <;> with_reducible rfl
             try simp only [Act.put, zT, z0, zS]
             refine takeH (i := 10) (oi := { dst := some 118, op := .move (.tmp 24), type := _, pos := _, after := _, guard := some (1, true) }) (v := ?_) rfl (Or.inl ⟨by rfl, ?_⟩) (by assumption) ?_
             rotate_left
             ·(intro w hSw; (try dsimp only at hSw); go_simp) <;> with_reducible rfl
             try simp only [Act.put, zT, z0, zS]
             refine takeH (i := 11) (oi := { dst := some 119, op := .indexAddr 23 (.tmp 117) (.tmp 118), type := _, pos := _, after := _, guard := some (1, true) }) (v := ?_) rfl (Or.inl ⟨by rfl, ?_⟩) (by assumption) ?_
             rotate_left
             ·(intro w hSw; (try dsimp only at hSw); go_simp) <;> with_reducible rfl
             try simp only [Act.put, zT, z0, zS]
             refine takeH (i := 12) (oi := { dst := some 120, op := .fieldAddr 46 (.tmp 119) 1, type := _, pos := _, after := _, guard := some (1, true) }) (v := ?_) rfl (Or.inl ⟨by rfl, ?_⟩) (by assumption) ?_
             rotate_left
             ·(intro w hSw; (try dsimp only at hSw); go_simp) <;> with_reducible rfl
             try simp only [Act.put, zT, z0, zS]
             refine takeH (i := 13) (oi := { dst := some 121, op := .load 9 (.tmp 120), type := _, pos := _, after := _, guard := some (1, true) }) (v := ?_) rfl (Or.inl ⟨by rfl, ?_⟩) (by assumption) ?_
             rotate_left
             ·(intro w hSw; (try dsimp only at hSw); go_simp) <;> with_reducible rfl
             try simp only [Act.put, zT, z0, zS]
             refine wpAnyH_ready (rs := [8]) (by kernel_rfl) (by simp) ?_
             refine AllReadyH.cons (o := { dst := some 116, op := .call { callee := .value (.func 29), args := #[(.tmp 110), (.tmp 115)], argTypes := #[23, 3] }, type := _, pos := _, after := _, guard := some (1, true) }) rfl (fun K hK => ?_) ?_
             ·skip
              go_simp
              with_reducible refine (cAt.out _ ek (fLz.out _ (hto.out _ Bi.drew))).mono ?_
              rintro e w' ⟨rfl, rfl⟩
              go_wp2_with fail
              refine hK.out _ _ ?_ (fun hHeld => ?_)
              ·exact hHeld
              clear hK K
              try simp only [Act.put, zT, z0, zS]
              refine takeH (i := 14) (oi := { dst := some 122, op := .binOp BinOp.eql 9 (.tmp 116) (.tmp 121) 9, type := _, pos := _, after := _, guard := some (1, true) }) (v := ?_) rfl (Or.inl ⟨by rfl, ?_⟩) (by assumption) ?_
              rotate_left
              ·(intro w hSw; (try dsimp only at hSw); go_simp) <;> with_reducible rfl
              try simp only [Act.put, zT, z0, zS]
              refine takeH (i := 15) (oi := { dst := some 123, op := .pick (.tmp 109) (.tmp 122) ((Operand.const (Value.bool false))), type := _, pos := _, after := _, guard := none }) (v := ?_) rfl (Or.inl ⟨by rfl, ?_⟩) (by assumption) ?_
              rotate_left
              ·(intro w hSw; (try dsimp only at hSw); go_simp) <;> with_reducible rfl
              try simp only [Act.put, zT, z0, zS]
              refine takeH (i := 16) (oi := { dst := some 23, op := .assign (.tmp 123), type := _, pos := _, after := _, guard := none }) (v := ?_) rfl (Or.inl ⟨by rfl, ?_⟩) (by assumption) ?_
              rotate_left
              ·(intro w hSw; (try dsimp only at hSw); go_simp) <;> with_reducible rfl
              try simp only [Act.put, zT, z0, zS]
              refine wpAnyH_done (by kernel_rfl) ?_ _
              go_wp2_with fail
              go_roundw
              case rel => exact ⟨i + 1, _, by omega, by go_num, rfl, hnew, Bi.drew⟩
              case measure => simp [intOf]; omega
             exact AllReadyH.nil
          ·have hr2 : Hid (r = E.all (okE L)) := by
            show _ = _
            rw [hr.out, List.take_of_length_le (by rw [← hnE.out]; omega)]
           have i3 : ¬ (i : Int) < (nE : Int) := by omega
           clear hr
           obtain ⟨r1, hr1⟩ : ∃ r', r' = r := ⟨_, rfl⟩
           go_wp2_with fail
           go_loopw [23, 25] (fun rv iv wi => ∃ (i : Nat) (r' : Bool), i ≤ nA ∧ iv = .int .i64 i ∧ rv = .bool r' ∧ Hid (r' = (E.all (okE L) && (AA.take i).all (okA L))) ∧ Below w6.heap.size w6 wi) (fun _ iv _ => nA - (intOf iv).toNat)
           case atStart => exact ⟨0, r, by omega, rfl, rfl, by show _ = _; rw [hr2.out]; simp, Bi⟩
           case round =>
            clear hr2 hli i3 hi Bi hr1
            obtain ⟨i, r, hi, rfl, rfl, hr, Bi⟩ := hrel
            by_cases hli : i < nA
            ·have hil : i < AA.length := by rw [← hnA.out]; exact hli
             obtain ⟨gb1, go1, y3, he, hcell⟩ := hAa.out i hil
             injection he with he1 he2 he3
             subst he1
             clear he2 he3
             have hsn := Lib.hid (all_snoc (okA L) AA i hil)
             have hoke : Hid (okA L AA[i] = (lookE L AA[i] == [])) := rfl
             have hcellh := Lib.hid hcell
             clear hcell
             generalize AA[i] = ek at *
             have hS0 := Lib.hid (hcellh.out (World.drew _) (Bi.drew))
             have cc := hcellh.out _ Bi
             have i2 : (0 : Int) ≤ (i : Int) := by omega
             have i3 : (i : Int) < (nA : Int) := by omega
             cases r with
             | false =>
              have hnew : Hid (false = (E.all (okE L) && (AA.take (i + 1)).all (okA L))) := by show _ = _; rw [hsn.out, ← Bool.and_assoc, ← hr.out]; rfl
              clear hr hsn hoke hcellh
              go_wp2_with fail
              go_roundw
              case rel => exact ⟨i + 1, false, by omega, by go_num, rfl, hnew, Bi⟩
              case measure => simp [intOf]; omega
             | true =>
              cases hk : (lookE L ek == []) with
              | false =>
               have hnew : Hid (false = (E.all (okE L) && (AA.take (i + 1)).all (okA L))) := by show _ = _; rw [hsn.out, ← Bool.and_assoc, ← hr.out, hoke.out, hk]; rfl
               clear hr hsn hoke hcellh
               go_wp2_with fail
               with_reducible refine (cAt.out _ ek (fLz.out _ (hto.out _ Bi))).mono ?_
               rintro e w' ⟨rfl, rfl⟩
               go_wp2_with fail
               go_roundw
               case rel => exact ⟨i + 1, _, by omega, by go_num, rfl, hnew, Bi⟩
               case measure => simp [intOf]; omega
              | true =>
               have hnew : Hid (true = (E.all (okE L) && (AA.take (i + 1)).all (okA L))) := by show _ = _; rw [hsn.out, ← Bool.and_assoc, ← hr.out, hoke.out, hk]; rfl
               clear hr hsn hoke hcellh
               go_wp2_with fail
               with_reducible refine (cAt.out _ ek (fLz.out _ (hto.out _ Bi))).mono ?_
               rintro e w' ⟨rfl, rfl⟩
               go_wp2_with fail
               go_roundw
               case rel => exact ⟨i + 1, _, by omega, by go_num, rfl, hnew, Bi⟩
               case measure => simp [intOf]; omega
            ·have hr2 : r = (E.all (okE L) && AA.all (okA L)) := by
              rw [hr.out, List.take_of_length_le (by rw [← hnA.out]; omega)]
             have hQ := Lib.hid (hfin.out r hr2)
             have Bj := Bi
             have i3 : ¬ (i : Int) < (nA : Int) := by omega
             clear hr hr2
             cases r with
             | true =>
              clear hQ
              go_wp2_with fail
              refine wp_region_held_drew (S := (fun _ => True)) (by kernel_rfl) trivial (fun hHeld => ?_)
              refine takeH (i := 0) (oi := { dst := some 140, op := .move (.tmp 23), type := _, pos := _, after := _, guard := none }) (v := ?_) rfl (Or.inl ⟨by rfl, ?_⟩) (by assumption) ?_
              rotate_left
              ·(intro w hSw; (try dsimp only at hSw); go_simp) <;> with_reducible rfl
              try simp only [Act.put, zT, z0, zS]
              refine takeH (i := 1) (oi := { dst := some 141, op := .unOp UnOp.not 4 (.tmp 140), type := _, pos := _, after := _, guard := none }) (v := ?_) rfl (Or.inl ⟨by rfl, ?_⟩) (by assumption) ?_
              rotate_left
              ·(intro w hSw; (try dsimp only at hSw); go_simp) <;> with_reducible rfl
              try simp only [Act.put, zT, z0, zS]
              refine takeH (i := 2) (oi := { dst := some 142, op := .move (.tmp 141), type := _, pos := _, after := _, guard := none }) (v := ?_) rfl (Or.inl ⟨by rfl, ?_⟩) (by assumption) ?_
              rotate_left
              ·(intro w hSw; (try dsimp only at hSw); go_simp) <;> with_reducible rfl
              try simp only [Act.put, zT, z0, zS]
              refine takeH (i := 3) (oi := { dst := some 143, op := .move (.tmp 11), type := _, pos := _, after := _, guard := some (2, true) }) (v := undef) rfl (Or.inr ⟨by rfl, rfl⟩) (by assumption) ?_
              try simp only [Act.put, zT, z0, zS]
              refine takeH (i := 4) (oi := { dst := some 144, op := .call { callee := .value (.func 31), args := #[(.tmp 143)], argTypes := #[23] }, type := _, pos := _, after := _, guard := some (2, true) }) (v := undef) rfl (Or.inr ⟨by rfl, rfl⟩) (by assumption) ?_
              try simp only [Act.put, zT, z0, zS]
              refine takeH (i := 5) (oi := { dst := some 145, op := .load 37 (.tmp 19), type := _, pos := _, after := _, guard := some (2, true) }) (v := undef) rfl (Or.inr ⟨by rfl, rfl⟩) (by assumption) ?_
              try simp only [Act.put, zT, z0, zS]
              refine takeH (i := 6) (oi := { dst := some 146, op := .call { callee := .value (.func 32), args := #[(.tmp 145)], argTypes := #[37] }, type := _, pos := _, after := _, guard := some (2, true) }) (v := undef) rfl (Or.inr ⟨by rfl, rfl⟩) (by assumption) ?_
              try simp only [Act.put, zT, z0, zS]
              refine takeH (i := 7) (oi := { dst := some 147, op := .call { callee := .value (.func 30), args := #[(.tmp 144), (.tmp 146)], argTypes := #[35, 35] }, type := _, pos := _, after := _, guard := some (2, true) }) (v := undef) rfl (Or.inr ⟨by rfl, rfl⟩) (by assumption) ?_
              try simp only [Act.put, zT, z0, zS]
              refine takeH (i := 8) (oi := { dst := some 148, op := .unOp UnOp.not 4 (.tmp 147), type := _, pos := _, after := _, guard := some (2, true) }) (v := undef) rfl (Or.inr ⟨by rfl, rfl⟩) (by assumption) ?_
              try simp only [Act.put, zT, z0, zS]
              refine takeH (i := 9) (oi := { dst := some 149, op := .pick (.tmp 142) (.tmp 148) ((Operand.const (Value.bool false))), type := _, pos := _, after := _, guard := none }) (v := ?_) rfl (Or.inl ⟨by rfl, ?_⟩) (by assumption) ?_
              rotate_left
              ·(intro w hSw; (try dsimp only at hSw); go_simp) <;> with_reducible rfl
              try simp only [Act.put, zT, z0, zS]
              refine wpAnyH_done (by kernel_rfl) ?_ _
              have hBy := Lib.hid (hto.out _ Bj.drew)
              go_wp2_with fail
              go_roundw
              case rel => exact ⟨k + 1, by omega, by go_num, hBy.out⟩
              case measure => simp [intOf]; omega
             | false =>
              have hQ2 := hQ.out rfl
              rw [hQ2] at cOu
              clear hQ hQ2
              go_wp2_with fail
              refine wp_region_held_drew (S := (fun w' : World => w'.cell? ⟨gX, 0, none⟩ = some (.slice a1 a2 a3) ∧ w'.cell? ⟨gX, 1, none⟩ = some (.slice b1 b2 b3) ∧ w'.cell? ⟨gX, 2, none⟩ = some (.slice c1 c2 c3))) (by kernel_rfl) (hbx.out _ Bj.drew) (fun hHeld => ?_)
              refine takeH (i := 0) (oi := { dst := some 140, op := .move (.tmp 23), type := _, pos := _, after := _, guard := none }) (v := ?_) rfl (Or.inl ⟨by rfl, ?_⟩) (by assumption) ?_
              rotate_left
              ·(intro w hSw; (try dsimp only at hSw); go_simp) <;> with_reducible rfl
              try simp only [Act.put, zT, z0, zS]
              refine takeH (i := 1) (oi := { dst := some 141, op := .unOp UnOp.not 4 (.tmp 140), type := _, pos := _, after := _, guard := none }) (v := ?_) rfl (Or.inl ⟨by rfl, ?_⟩) (by assumption) ?_
              rotate_left
              ·(intro w hSw; (try dsimp only at hSw); go_simp) <;> with_reducible rfl
              try simp only [Act.put, zT, z0, zS]
              refine takeH (i := 2) (oi := { dst := some 142, op := .move (.tmp 141), type := _, pos := _, after := _, guard := none }) (v := ?_) rfl (Or.inl ⟨by rfl, ?_⟩) (by assumption) ?_
              rotate_left
              ·(intro w hSw; (try dsimp only at hSw); go_simp) <;> with_reducible rfl
              try simp only [Act.put, zT, z0, zS]
              refine takeH (i := 3) (oi := { dst := some 143, op := .move (.tmp 11), type := _, pos := _, after := _, guard := some (2, true) }) (v := ?_) rfl (Or.inl ⟨by rfl, ?_⟩) (by assumption) ?_
              rotate_left
              ·(intro w hSw; (try dsimp only at hSw); go_simp) <;> with_reducible rfl
              try simp only [Act.put, zT, z0, zS]
              refine takeH (i := 5) (oi := { dst := some 145, op := .load 37 (.tmp 19), type := _, pos := _, after := _, guard := some (2, true) }) (v := ?_) rfl (Or.inl ⟨by rfl, ?_⟩) (by assumption) ?_
              rotate_left
              ·(intro w hSw; (try dsimp only at hSw); go_simp) <;> with_reducible rfl
              try simp only [Act.put, zT, z0, zS]
              refine wpAnyH_ready (rs := [4]) (by kernel_rfl) (by simp) ?_
              refine AllReadyH.cons (o := { dst := some 144, op := .call { callee := .value (.func 31), args := #[(.tmp 143)], argTypes := #[23] }, type := _, pos := _, after := _, guard := some (2, true) }) rfl (fun K hK => ?_) ?_
              ·skip
               go_simp
               with_reducible refine (cHs.out _ (toz.out _ Bj.drew)).mono ?_
               rintro e y1 ⟨hv1, rfl, hh1, b⟩
               have By1 := Bj.drew.trans (b.mono Bj.drew.size)
               obtain ⟨d1, d2, d3, rfl, _⟩ := hh1.shape'
               have hh1 := Lib.hid hh1
               clear b
               go_wp2_with fail
               refine hK.out _ _ ?_ (fun hHeld => ?_)
               ·exact hbx.out _ By1
               clear hK K
               try simp only [Act.put, zT, z0, zS]
               refine wpAnyH_ready (rs := [6]) (by kernel_rfl) (by simp) ?_
               refine AllReadyH.cons (o := { dst := some 146, op := .call { callee := .value (.func 32), args := #[(.tmp 145)], argTypes := #[37] }, type := _, pos := _, after := _, guard := some (2, true) }) rfl (fun K hK => ?_) ?_
               ·skip
                go_simp
                with_reducible refine (cOp.out _ (toz.out _ By1)).mono ?_
                rintro e y2 ⟨hv2, rfl, hh2, b⟩
                have By2 := By1.trans (b.mono By1.size)
                obtain ⟨d4, d5, d6, rfl, _⟩ := hh2.shape'
                have hh2 := Lib.hid hh2
                have hh1 := Lib.hid (hh1.out.below b)
                clear b
                go_wp2_with fail
                refine hK.out _ _ ?_ (fun hHeld => ?_)
                ·exact hbx.out _ By2
                clear hK K
                try simp only [Act.put, zT, z0, zS]
                refine wpAnyH_ready (rs := [7]) (by kernel_rfl) (by simp) ?_
                refine AllReadyH.cons (o := { dst := some 147, op := .call { callee := .value (.func 30), args := #[(.tmp 144), (.tmp 146)], argTypes := #[35, 35] }, type := _, pos := _, after := _, guard := some (2, true) }) rfl (fun K hK => ?_) ?_
                ·skip
                 go_simp
                 with_reducible refine (cOu.out _ _ _ hh1.out hh2.out).mono ?_
                 rintro e y3 ⟨rfl, b⟩
                 have By3 := By2.trans (b.mono By2.size)
                 clear b
                 go_wp2_with fail
                 refine hK.out _ _ ?_ (fun hHeld => ?_)
                 ·exact hbx.out _ By3
                 clear hK K
                 try simp only [Act.put, zT, z0, zS]
                 refine takeH (i := 8) (oi := { dst := some 148, op := .unOp UnOp.not 4 (.tmp 147), type := _, pos := _, after := _, guard := some (2, true) }) (v := ?_) rfl (Or.inl ⟨by rfl, ?_⟩) (by assumption) ?_
                 rotate_left
                 ·(intro w hSw; (try dsimp only at hSw); go_simp) <;> with_reducible rfl
                 try simp only [Act.put, zT, z0, zS]
                 refine takeH (i := 9) (oi := { dst := some 149, op := .pick (.tmp 142) (.tmp 148) ((Operand.const (Value.bool false))), type := _, pos := _, after := _, guard := none }) (v := ?_) rfl (Or.inl ⟨by rfl, ?_⟩) (by assumption) ?_
                 rotate_left
                 ·(intro w hSw; (try dsimp only at hSw); go_simp) <;> with_reducible rfl
                 try simp only [Act.put, zT, z0, zS]
                 refine wpAnyH_done (by kernel_rfl) ?_ _
                 have hBy := Lib.hid (hto.out _ By3)
                 go_wp2_with fail
                 go_roundw
                 case rel => exact ⟨k + 1, by omega, by go_num, hBy.out⟩
                 case measure => simp [intOf]; omega
                exact AllReadyH.nil
               exact AllReadyH.nil
              exact AllReadyH.nil
       ·have i1 : ¬ (k : Int) < 5 := by omega
        have hend := Lib.hid (toW.out _ B)
        go_wp2_with fail
        go_ret
        exact ⟨rfl, hend.out⟩
     exact AllReadyH.nil
    exact AllReadyH.nil
   exact AllReadyH.nil
  exact AllReadyH.nil
 exact AllReadyH.nil
end Go.Proofs.YtegahpfmkepfmaaDoor
