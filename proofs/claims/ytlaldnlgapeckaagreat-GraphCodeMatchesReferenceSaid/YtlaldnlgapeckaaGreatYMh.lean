/- Contracts and facts. -/
import Derived.Test.YtlaldnlgapeckaaGreatYMe
import Derived.Test.YtlaldnlgapeckaaGreatYK
set_option maxRecDepth 100000
set_option maxHeartbeats 4000000
namespace Go.Proofs.YtlaldnlgapeckaaGreat
open Go.RowKit
theorem cEd_set (l : List Ed) : ∀ (p i : Nat) (u : Value) (e' : Ed) (hp : p < l.length), i < 6 → (edCells e').toList = (edCells l[p]).toList.set i u → (cEd l).set (p * 6 + i) u = cEd (l.set p e') := by
 induction l with
 | nil => intro p i u e' hp; simp at hp
 | cons x t ih =>
  intro p i u e' hp hi he;have hx : (edCells x).toList.length = 6 := rfl;cases p with
  | zero =>
   simp only [List.getElem_cons_zero] at he;show ((edCells x).toList ++ cEd t).set (0 * 6 + i) u = (edCells e').toList ++ cEd t;rw [he, List.set_append_left _ _ (by omega), show 0 * 6 + i = i by omega]
  | succ p =>
   simp only [List.getElem_cons_succ] at he;show ((edCells x).toList ++ cEd t).set ((p + 1) * 6 + i) u = (edCells x).toList ++ cEd (t.set p e');rw [List.set_append_right _ _ (by omega), hx, show (p + 1) * 6 + i - 6 = p * 6 + i by omega, ih p i u e' (by simpa using hp) hi he]
theorem cVx_set (l : List Vx) : ∀ (p i : Nat) (u : Value) (e' : Vx) (hp : p < l.length), i < 2 → (vxCells e').toList = (vxCells l[p]).toList.set i u → (cVx l).set (p * 2 + i) u = cVx (l.set p e') := by
 induction l with
 | nil => intro p i u e' hp; simp at hp
 | cons x t ih =>
  intro p i u e' hp hi he;have hx : (vxCells x).toList.length = 2 := rfl;cases p with
  | zero =>
   simp only [List.getElem_cons_zero] at he;show ((vxCells x).toList ++ cVx t).set (0 * 2 + i) u = (vxCells e').toList ++ cVx t;rw [he, List.set_append_left _ _ (by omega), show 0 * 2 + i = i by omega]
  | succ p =>
   simp only [List.getElem_cons_succ] at he;show ((vxCells x).toList ++ cVx t).set ((p + 1) * 2 + i) u = (vxCells x).toList ++ cVx (t.set p e');rw [List.set_append_right _ _ (by omega), hx, show (p + 1) * 2 + i - 2 = p * 2 + i by omega, ih p i u e' (by simpa using hp) hi he]
/-- a row that is not empty is a block -/
theorem own_slice {W : World} {base n : Nat} {e : TypeId} {size : Nat} {v : Value} {xs : List Value} (h : W.ownsRow base e size v n xs) (hn : n ≠ 0) : ∃ g cap cur, v = .slice (some ⟨g, 0, none⟩) n cap ∧ base ≤ g ∧ W.heap[g]? = some (.cells cur e (0, 0)) ∧ n ≤ cap := by
 rcases h.2 with ⟨_, h0⟩ | ⟨g, cap, cur, h1, h2, h3, h4, _⟩
 ·exact absurd h0 hn
 ·exact ⟨g, cap, cur, h1, h2, h3, h4⟩
theorem DrV.putE {W : World} {B db : Nat} {vv ev dv mv u : Value} {g : Gr} {p i : Nat} {e' : Ed} (h : DrV W B db vv ev dv mv g) (hp : p < g.es.length) (hi : i < 6) (he : (edCells e').toList = (edCells g.es[p]).toList.set i u)
  {eb n cap : Nat} (hev : ev = .slice (some ⟨eb, 0, none⟩) n cap) :
  DrV (W.setCell ⟨eb, p * 6 + i, none⟩ u) B db vv ev dv mv { g with es := g.es.set p e' } ∧ KD B W (W.setCell ⟨eb, p * 6 + i, none⟩ u) := by
 obtain ⟨hB, cur, hc⟩ := own_row h.e eb (by rw [hev]; rfl);have k2 : KD B W (W.setCell ⟨eb, p * 6 + i, none⟩ u) := KD.setCell (p := ⟨eb, p * 6 + i, none⟩) hc rfl hB u;have ne : ∀ {e : TypeId} {v : Value} {n size : Nat} {xs : List Value}, W.ownsRow B e size v n xs → e ≠ 31 → v.ownBlock ≠ some (⟨eb, p * 6 + i, none⟩ : Addr).block := fun hh he e2 => by
  obtain ⟨_, cur', hc'⟩ := own_row hh eb e2; rw [hc] at hc'; simp at hc'; exact he hc'.2.symm
 refine ⟨⟨h.hB, ?_, ownsRow_setCell_other h.v (ne h.v (by decide)) u, ?_, h.d.kd k2, h.m.kd k2⟩, k2⟩
 ·rw [heap_setCell_other _ _ _ _ (fun e => by have e : db = eb := e; have hb := h.box; rw [e, hc] at hb; simp at hb)]; exact h.box
 ·have h2 := h.e;obtain ⟨n', cap', hev'⟩ : ∃ n' cap', n' = g.es.length ∧ ev = .slice (some ⟨eb, 0, none⟩) n' cap' := by
   obtain ⟨a, c, e⟩ := h.e.EL.shape;rw [hev] at e; injection e with e1 e2 e3
   exact ⟨n, cap, e2, hev⟩
  obtain ⟨hn', hev'⟩ := hev';unfold OwnEd at h2 ⊢;rw [hev', hn'] at h2 ⊢;have := h2.stored (p * 6 + i) u;rw [cEd_set g.es p i u e' hp hi he] at this;rw [List.length_set];exact this.1
theorem DrV.putV {W : World} {B db : Nat} {vv ev dv mv u : Value} {g : Gr} {p i : Nat} {e' : Vx} (h : DrV W B db vv ev dv mv g) (hp : p < g.vs.length) (hi : i < 2) (he : (vxCells e').toList = (vxCells g.vs[p]).toList.set i u)
  {eb n cap : Nat} (hev : vv = .slice (some ⟨eb, 0, none⟩) n cap) :
  DrV (W.setCell ⟨eb, p * 2 + i, none⟩ u) B db vv ev dv mv { g with vs := g.vs.set p e' } ∧ KD B W (W.setCell ⟨eb, p * 2 + i, none⟩ u) := by
 obtain ⟨hB, cur, hc⟩ := own_row h.v eb (by rw [hev]; rfl);have k2 : KD B W (W.setCell ⟨eb, p * 2 + i, none⟩ u) := KD.setCell (p := ⟨eb, p * 2 + i, none⟩) hc rfl hB u;have ne : ∀ {e : TypeId} {v : Value} {n size : Nat} {xs : List Value}, W.ownsRow B e size v n xs → e ≠ 29 → v.ownBlock ≠ some (⟨eb, p * 2 + i, none⟩ : Addr).block := fun hh he e2 => by
  obtain ⟨_, cur', hc'⟩ := own_row hh eb e2; rw [hc] at hc'; simp at hc'; exact he hc'.2.symm
 refine ⟨⟨h.hB, ?_, ?_, ownsRow_setCell_other h.e (ne h.e (by decide)) u, h.d.kd k2, h.m.kd k2⟩, k2⟩
 ·rw [heap_setCell_other _ _ _ _ (fun e => by have e : db = eb := e; have hb := h.box; rw [e, hc] at hb; simp at hb)]; exact h.box
 ·have h2 := h.v;obtain ⟨n', cap', hev'⟩ : ∃ n' cap', n' = g.vs.length ∧ vv = .slice (some ⟨eb, 0, none⟩) n' cap' := by
   obtain ⟨a, c, e⟩ := h.v.VL.shape;rw [hev] at e; injection e with e1 e2 e3
   exact ⟨n, cap, e2, hev⟩
  obtain ⟨hn', hev'⟩ := hev';unfold OwnV at h2 ⊢;rw [hev', hn'] at h2 ⊢;have := h2.stored (p * 2 + i) u;rw [cVx_set g.vs p i u e' hp hi he] at this;rw [List.length_set];exact this.1
/-! one end is moved -/
theorem mem_take_succ (l : List Int) (k : Nat) (hk : k < l.length) (x : Int) : x ∈ l.take (k + 1) ↔ x ∈ l.take k ∨ x = l[k] := by
 rw [List.take_succ_eq_append_getElem hk, List.mem_append, List.mem_singleton]
theorem map_getElem_id (l : List Ed) (f : Ed → Ed) (p : Nat) (h : p < (l.map f).length) : (l.map f)[p] = f (l[p]'(by simpa using h)) := by simp
theorem mv_even (l : List Ed) (ends : List Int) (y : Int) (k p : Nat) (hk : k < ends.length) (hp : p < l.length) (ha : Asc (keysE l)) (h : ends[k] = 2 * l[p].id) :
  l.map (mvE (ends.take (k + 1)) y) = (l.map (mvE (ends.take k) y)).set p { (mvE (ends.take k) y l[p]) with src := y } := by
 apply List.ext_getElem
 ·simp
 ·intro j h1 h2;simp only [List.length_map] at h1;simp only [List.getElem_map, List.getElem_set];by_cases hj : p = j
  ·subst hj;rw [if_pos rfl];unfold mvE;simp only [mem_take_succ ends k hk, h, or_true, if_true, Ed.mk.injEq, true_and, and_true];have : (2 * l[p].id + 1 = 2 * l[p].id) = False := eq_false (by omega);simp only [this, or_false]
  ·rw [if_neg hj];have hne : l[j].id ≠ l[p].id := fun e => hj (inj_keyE l ha p j hp h1 e.symm);unfold mvE;simp only [mem_take_succ ends k hk, h, Ed.mk.injEq, true_and, and_true];have e1 : (2 * l[j].id = 2 * l[p].id) = False := eq_false (by omega);have e2 : (2 * l[j].id + 1 = 2 * l[p].id) = False := eq_false (by omega);simp only [e1, e2, or_false, and_self]
theorem mv_odd (l : List Ed) (ends : List Int) (y : Int) (k p : Nat) (hk : k < ends.length) (hp : p < l.length) (ha : Asc (keysE l)) (h : ends[k] = 2 * l[p].id + 1) :
  l.map (mvE (ends.take (k + 1)) y) = (l.map (mvE (ends.take k) y)).set p { (mvE (ends.take k) y l[p]) with dst := y } := by
 apply List.ext_getElem
 ·simp
 ·intro j h1 h2;simp only [List.length_map] at h1;simp only [List.getElem_map, List.getElem_set];by_cases hj : p = j
  ·subst hj;rw [if_pos rfl];unfold mvE;simp only [mem_take_succ ends k hk, h, or_true, if_true, Ed.mk.injEq, true_and, and_true];have : (2 * l[p].id = 2 * l[p].id + 1) = False := eq_false (by omega);simp only [this, or_false]
  ·rw [if_neg hj];have hne : l[j].id ≠ l[p].id := fun e => hj (inj_keyE l ha p j hp h1 e.symm);unfold mvE;simp only [mem_take_succ ends k hk, h, Ed.mk.injEq, true_and, and_true];have e1 : (2 * l[j].id = 2 * l[p].id + 1) = False := eq_false (by omega);have e2 : (2 * l[j].id + 1 = 2 * l[p].id + 1) = False := eq_false (by omega);simp only [e1, e2, or_false, and_self]
/-- the ends are moved, one after the other -/
theorem move_any (B db : Nat) (vv ev dv mv : Value) (g : Gr) (vends : Value) (ends : List Int) (y : Int) (w : World) (h : DrV w B db vv ev dv mv g) (hv : ∀ W, KD B w W → DL W vends ends) (hn : g.es.length ≤ 1000) (hs : Asc (keysE g.es))
  (hm : ends.length ≤ 1000000) (hin : ∀ n ∈ ends, 0 ≤ n ∧ n ≤ 1000000 ∧ n / 2 ∈ keysE g.es) :
  Calls Tryz.prog 132 #[.pointer (some ⟨db, 0, none⟩), vends, .int .i64 y] w fun e w' => e = .returned (.tuple #[]) ∧ DrV w' B db vv ev dv mv { g with es := g.es.map (mvE ends y) } ∧ KD B w w' := by
 obtain ⟨a2, c2, rfl⟩ := (hv w (KD.refl _ _)).shape;have cellS := Hd (show ∀ (k : Nat) (hk : k < ends.length), ∃ b o, a2 = some ⟨b, o, none⟩ ∧ ∀ W, KD B w W → W.cell? ⟨b, o + k, none⟩ = some (.int .i64 ends[k]) from fun k hk => by
  obtain ⟨b, o, c, he, e1, e2, e3⟩ := (hv w (KD.refl _ _)).own (fun e => by rw [e] at hk; simp at hk);injection he with he
  refine ⟨b, o, he, fun W K => ?_⟩;obtain ⟨b', o', c', he', f1, f2, f3⟩ := (hv W K).own (fun e => by rw [e] at hk; simp at hk);injection he' with he'
  rw [he] at he';injection he' with he'
  injection he' with g1 g2
  subst g1 g2;exact f3 k _ (List.getElem?_eq_getElem hk))
 obtain ⟨N, hN⟩ : ∃ N, Hid (N = ends.length) := ⟨_, rfl⟩;rw [← hN.out] at hm ⊢;have hh := Hd h;have hsh := Hd hs;have hinh := Hd hin;clear hv h hs hin;go_enter Tryz.func132, Tryz.ntmps132;go_wp2_with fail
 go_loopw [12] (fun i wr => ∃ (k : Nat), k ≤ N ∧ i = .int .i64 k ∧ Hid (DrV wr B db vv ev dv mv { g with es := g.es.map (mvE (ends.take k) y) }) ∧ Hid (KD B w wr)) (fun i _ => N - (intOf i).toNat)
 case atStart =>
  refine ⟨0, by omega, rfl, ?_, KD.refl _ _⟩;have e : g.es.map (mvE (ends.take 0) y) = g.es := by
   conv => rhs; rw [← List.map_id g.es]
   exact List.map_congr_left fun u _ => by simp [mvE]
  rw [e]; exact hh.out
 case round =>
  obtain ⟨k, hk, rfl, hD, hK⟩ := hrel;by_cases hlt : k < N
  ·have hkl : k < ends.length := by rw [← hN.out]; exact hlt
   obtain ⟨bv, ov, rfl, cv⟩ := cellS.out k hkl;have d0 := cv wr hK.out;have i0 : (0 : Int) ≤ (k : Int) := by omega
   have i1 : (k : Int) < (N : Int) := by omega
   obtain ⟨n0, n1, n2⟩ := hinh.out _ (List.getElem_mem hkl);have hkeys : keysE (g.es.map (mvE (ends.take k) y)) = keysE g.es := keys_map g.es _ (fun _ => rfl);have hse := Hd (edge_any db ev _ (ends[k] / 2) wr hD.out.cells.2.1 hD.out.e.EL (by simp; omega) (by rw [hkeys]; exact hsh.out));rw [hkeys, decide_eq_true n2] at hse;obtain ⟨hp, hpe⟩ := posE_lt g.es (ends[k] / 2) hsh.out n2;have c1 := hD.out.cells.2.1;have heven := Hd (fun (e : ends[k] = 2 * (g.es[posK (keysE g.es) (ends[k] / 2)]'hp).id) => mv_even g.es ends y k _ hkl hp hsh.out e);have hodd := Hd (fun (e : ends[k] = 2 * (g.es[posK (keysE g.es) (ends[k] / 2)]'hp).id + 1) => mv_odd g.es ends y k _ hkl hp hsh.out e);obtain ⟨eb, cap, cur, hev, _, hcur, hcap⟩ := own_slice hD.out.e (by show (g.es.map _).length ≠ 0; rw [List.length_map]; omega);rw [hev] at c1;have hlen : (g.es.map (mvE (ends.take k) y)).length = g.es.length := by simp
   obtain ⟨p, hpp⟩ : ∃ p, p = posK (keysE g.es) (ends[k] / 2) := ⟨_, rfl⟩;simp only [← hpp] at hse heven hodd hp hpe;have hpl : p < (g.es.map (mvE (ends.take k) y)).length := by rw [hlen]; exact hp
   have hpu := Hd (fun (W : World) (hW : DrV W B db vv ev dv mv { g with es := g.es.map (mvE (ends.take k) y) }) => hW.putE (p := p) (i := 1) (u := .int .i64 y) (e' := { (g.es.map (mvE (ends.take k) y))[p] with src := y }) hpl (by omega) rfl hev);have hpd := Hd (fun (W : World) (hW : DrV W B db vv ev dv mv { g with es := g.es.map (mvE (ends.take k) y) }) => hW.putE (p := p) (i := 2) (u := .int .i64 y) (e' := { (g.es.map (mvE (ends.take k) y))[p] with dst := y }) hpl (by omega) rfl hev);rw [map_getElem_id] at hpu hpd;have hrowf := Hd (fun (W : World) (hb : Below wr.heap.size wr W) (i : Nat) => show W.frozen? ⟨eb, i, none⟩ = false ∧ (i < 6 → (W.cell? ⟨eb, p * 6 + i, none⟩).isSome = true) from by
    have hWd := hD.out.below hb;obtain ⟨eb', cap', cur', hev', _, hcur', hcap'⟩ := own_slice hWd.e (by show (g.es.map _).length ≠ 0; rw [List.length_map]; omega);rw [hev] at hev'; injection hev' with e1; injection e1 with e1; injection e1 with e1; subst e1
    refine ⟨frozen_of_row _ _ _ _ _ hcur', fun hi => ?_⟩;have hEl := hWd.e.EL;obtain ⟨b2, o2, c3, he2, f1, f2, f3⟩ := hEl.own (fun e => by have e : g.es.map (mvE (ends.take k) y) = [] := e; rw [e] at hpl; simp at hpl);rw [hev] at he2; injection he2 with e1; injection e1 with e1; injection e1 with e1 e2; subst e1 e2
    have := f3 p _ (List.getElem?_eq_getElem hpl);obtain ⟨a0, a1, a2, a3, a4, a5⟩ := this;simp only [Nat.zero_add] at a0 a1 a2 a3 a4 a5;rcases (by omega : i = 0 ∨ i = 1 ∨ i = 2 ∨ i = 3 ∨ i = 4 ∨ i = 5) with rfl | rfl | rfl | rfl | rfl | rfl
    ·rw [Nat.add_zero, a0]; rfl
    ·rw [a1]; rfl
    ·rw [a2]; rfl
    ·rw [a3]; rfl
    ·rw [a4]; rfl
    ·rw [a5]; rfl)
   have hq : ends[k].tdiv 2 = ends[k] / 2 := Int.tdiv_eq_ediv_of_nonneg n0;have hm2 : ends[k].tmod 2 = ends[k] % 2 := Int.tmod_eq_emod_of_nonneg n0;have hcol := Hd (fun (W : World) (hb : Below wr.heap.size wr W) => hD.out.below hb);have hkd := Hd (fun (W : World) (hb : Below wr.heap.size wr W) => hK.out.trans (KD.of hb hD.out.base));have hL0 : g.es.length = (g.es.map (mvE (ends.take k) y)).length := hlen.symm;have ipE : (p : Int) < (g.es.length : Int) := by omega
   have ip0 : (0 : Int) ≤ (p : Int) := by omega
   have hcapn : ∃ n, Hid (ev = .slice (some ⟨eb, 0, none⟩) n cap) ∧ n = g.es.length := ⟨_, hev, by simp⟩;obtain ⟨n, hevn, hnn⟩ := hcapn;rw [← hnn] at ipE;have hid2 : ends[k] / 2 = g.es[p].id := hpe.symm;have hq2 : ends[k] / 2 = ends[k].tdiv 2 := hq.symm;by_cases hpar : ends[k] % 2 = 0
   ·have hev2 := Hd (heven.out (by omega));have t1 : (ends[k].tmod 2 == 0) = true := by rw [hm2, hpar]; rfl
    have t2 : (ends[k] % 2 == 0) = true := by rw [hpar]; rfl
    generalize ends[k] = nn at *
    unfold PlacePost at hse;clear hpar heven hodd hcur hpe;generalize g.es[p] = u at *
    clear hid2 hq hq2 hm2 hL0 hlen hkeys hpp hnn hpl hp;go_wp2_with fail;with_reducible refine hse.out.mono ?_
    rintro e w2 ⟨rfl, b2⟩;have c2' : w2.cell? ⟨db, 1, none⟩ = some (.slice (some ⟨eb, 0, none⟩) n cap) := by have := (hcol.out w2 b2).cells.2.1; rw [hevn.out] at this; exact this
    obtain ⟨f1, f2⟩ := hrowf.out w2 b2 1;have f3 := (hrowf.out w2 b2 (p * 6 + 1)).1;obtain ⟨old, hold⟩ := Option.isSome_iff_exists.1 (f2 (by omega));have hnew := Hd (hpu.out w2 (hcol.out w2 b2));have hkd2 := Hd (hkd.out w2 b2);clear f1 f2 b2;go_wp2_with fail
    go_roundw
    case rel => exact ⟨k + 1, by omega, by go_num, by rw [hev2.out]; exact hnew.out.1, hkd2.out.trans hnew.out.2⟩
    case measure => simp [intOf]; omega
   ·have hev2 := Hd (hodd.out (by omega));have t1 : (ends[k].tmod 2 == 0) = false := by rw [hm2]; simpa using hpar
    have t2 : (ends[k] % 2 == 0) = false := by simpa using hpar
    generalize ends[k] = nn at *
    unfold PlacePost at hse;clear hpar heven hodd hcur hpe;generalize g.es[p] = u at *
    clear hid2 hq hq2 hm2 hL0 hlen hkeys hpp hnn hpl hp;go_wp2_with fail;with_reducible refine hse.out.mono ?_
    rintro e w2 ⟨rfl, b2⟩;have c2' : w2.cell? ⟨db, 1, none⟩ = some (.slice (some ⟨eb, 0, none⟩) n cap) := by have := (hcol.out w2 b2).cells.2.1; rw [hevn.out] at this; exact this
    obtain ⟨f1, f2⟩ := hrowf.out w2 b2 2;have f3 := (hrowf.out w2 b2 (p * 6 + 2)).1;obtain ⟨old, hold⟩ := Option.isSome_iff_exists.1 (f2 (by omega));have hnew := Hd (hpd.out w2 (hcol.out w2 b2));have hkd2 := Hd (hkd.out w2 b2);clear f1 f2 b2;go_wp2_with fail
    go_roundw
    case rel => exact ⟨k + 1, by omega, by go_num, by rw [hev2.out]; exact hnew.out.1, hkd2.out.trans hnew.out.2⟩
    case measure => simp [intOf]; omega
  ·have hk2 : k = N := by omega
   have hf : Hid (ends.take k = ends) := by show _ = _; rw [List.take_of_length_le (by rw [hk2, hN.out]; exact Nat.le_refl _)]
   rw [hf.out] at hD;have i1 : ¬ (k : Int) < (N : Int) := by omega
   clear hk2;go_wp2_with fail
   go_end0
   exact ⟨rfl, hD.out, hK.out⟩
end Go.Proofs.YtlaldnlgapeckaaGreat
