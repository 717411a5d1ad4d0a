/- Contracts and facts. -/
import Derived.Test.YthmkmjkbfjhffaaVFP
import Derived.Test.YthmkmjkbfjhffaaVFM
import Derived.Test.YthmkmjkbfjhffaaVNVYQt
import Derived.Test.YthmkmjkbfjhffaaVNVYRc
import Derived.Test.YthmkmjkbfjhffaaVNVYPO
import Derived.Test.YthmkmjkbfjhffaaVNVYR
set_option linter.unusedSimpArgs false
set_option maxRecDepth 100000
set_option maxHeartbeats 4000000
namespace Go.Proofs.Ythmkmjkbfjhffaa
open Go.RowKit
/-- a place as a value -/
def plV (p : Pl) : Value := .agg #[.int .i64 p.root, .int .i64 p.depth, .int .i64 p.edge]
def PMV (W : World) (b : Nat) (m : PM) : Prop := MI.MI W b (fun k => (m k).map plV)
theorem zeroPl (w : World) : (zeroValue 72).run Try.prog w = .ok (plV ⟨0, 0, 0⟩) w := by kernel_rfl
theorem fld0 : ∀ (a b c : Int) (w : World), (Instr.field 72 (.agg #[.int .i64 a, .int .i64 b, .int .i64 c]) 0).run Try.prog w = .ok (.int .i64 a) w := fun a b c w => by kernel_rfl
theorem fld1 : ∀ (a b c : Int) (w : World), (Instr.field 72 (.agg #[.int .i64 a, .int .i64 b, .int .i64 c]) 1).run Try.prog w = .ok (.int .i64 b) w := fun a b c w => by kernel_rfl
theorem fld2 : ∀ (a b c : Int) (w : World), (Instr.field 72 (.agg #[.int .i64 a, .int .i64 b, .int .i64 c]) 2).run Try.prog w = .ok (.int .i64 c) w := fun a b c w => by kernel_rfl
theorem PMV.below {W W' : World} {b n : Nat} {m : PM} (h : PMV W b m) (B : Below n W W') (hb : b < n) : PMV W' b m := MI.MI.below h B hb
theorem PMV.get {W : World} {b : Nat} {m : PM} (h : PMV W b m) (k : Int) : (Instr.lookup 69 (.map (some b)) (.int .i64 k) false).run Try.prog W = .ok (.agg #[.int .i64 (gp m k).root, .int .i64 (gp m k).depth, .int .i64 (gp m k).edge]) W := by
  rw [MI.MI.read Try.underlying69 Try.underlying3 h (zeroPl W) k]
  congr 1
  unfold gp
  cases m k <;> rfl
theorem PMV.getOk {W : World} {b : Nat} {m : PM} (h : PMV W b m) (k : Int) : (Instr.lookup 69 (.map (some b)) (.int .i64 k) true).run Try.prog W = .ok (.tuple #[.agg #[.int .i64 (gp m k).root, .int .i64 (gp m k).depth, .int .i64 (gp m k).edge], .bool (m k).isSome]) W := by
  rw [MI.MI.readOk Try.underlying69 Try.underlying3 h (zeroPl W) k]
  unfold gp
  cases m k <;> rfl
theorem find_at {α : Type} {p : α → Bool} {l : List α} {k : Nat} (hk : k < l.length) (h : (l.take k).find? p = none) (hp : p l[k] = true) : l.find? p = some l[k] := by
  have e := List.find?_append (xs := l.take k) (ys := l.drop k) (p := p)
  rw [List.take_append_drop, h, List.drop_eq_getElem_cons hk] at e
  rw [e, Option.none_or, List.find?_cons_of_pos hp]
theorem find_next {α : Type} {p : α → Bool} {l : List α} {k : Nat} (hk : k < l.length) (h : (l.take k).find? p = none) (hp : p l[k] = false) : (l.take (k + 1)).find? p = none := by
  rw [List.take_succ_eq_append_getElem hk, List.find?_append, h]
  simp [hp]
/-- whether an edge leads up -/
def upP (m : PM) (i : Int) (e : Ed) : Bool := (gp m (otherI e i)).depth == (gp m i).depth - 1
theorem EL.cells {w : World} {b1 : Option Addr} {n c : Nat} {l : List Ed} (hv : EL w (.slice b1 n c) l) : ∀ (k : Nat) (_ : k < l.length), ∃ b o, b1 = some ⟨b, o, none⟩ ∧ ∀ W, Below w.heap.size w W → EdAt W b (o + k * 6) l[k] := fun k hk => by
  obtain ⟨b, o, c, he, e1, e2, e3⟩ := hv.own (fun e => by rw [e] at hk; simp at hk)
  injection he with he1 he2 he3
  exact ⟨b, o, he1, fun W B => (e3.below e2 B) k _ (List.getElem?_eq_getElem hk)⟩
theorem up_any (i : Int) (vl : Value) (l : List Ed) (b : Nat) (m : PM) (w : World) (hl : EL w vl l) (hm : PMV w b m) (hb : b < w.heap.size) (hn : l.length ≤ 1000000000) (hd : -9223372036854775807 ≤ (gp m i).depth ∧ (gp m i).depth ≤ 9223372036854775807) :
    Calls Try.prog 46 #[.int .i64 i, vl, .map (some b)] w fun e w' => e = .returned (.int .i64 (upF m i l)) ∧ Below w.heap.size w w' := by
  have hup : Hid (∀ r, (match l.find? (upP m i) with | some e => e.id | none => -1) = r → upF m i l = r) := fun r h => h
  obtain ⟨R, hR⟩ : ∃ R, Hid (R = upF m i l) := ⟨_, rfl⟩
  rw [← hR.out]
  obtain ⟨b1, b2, rfl⟩ := hl.shape
  have cellE := Lib.hid hl.cells
  have hget := Lib.hid (fun W (B : Below w.heap.size w W) (k : Int) => (hm.below B hb).get k)
  have ho := Lib.hid (fun (e : Ed) w' => Other_any e i w')
  have hsub : Hid (IntKind.i64.wrap ((gp m i).depth - 1) = (gp m i).depth - 1) := IntWalk.i64_in _ (by omega)
  obtain ⟨N, hN⟩ : ∃ N, Hid (N = l.length) := ⟨_, rfl⟩
  rw [← hN.out] at hn ⊢
  clear hl hm hd
  have f1 := fld1
  replace hsub : Hid _ := hsub
  go_enter Try.func46, Try.ntmps46
  go_wp2_with fail
  go_loopw [8, 11] (fun _ iv wr => ∃ k : Nat, k ≤ N ∧ iv = .int .i64 k ∧ (l.take k).find? (upP m i) = none ∧ Below w.heap.size w wr) (fun _ iv _ => N - (intOf iv).toNat)
  case atStart => exact ⟨0, by omega, rfl, by simp, Below.refl _ _⟩
  case round =>
    obtain ⟨k, hk, rfl, hnone, B⟩ := hrel
    have Bs := B.size
    by_cases hlt : k < N
    · have hkl : k < l.length := by rw [← hN.out]; exact hlt
      obtain ⟨bv, ov, rfl, cv⟩ := cellE.out k hkl
      obtain ⟨d0, d1, d2, d3, d4, d5⟩ := cv wr B
      have i0 : (0 : Int) ≤ (k : Int) := by omega
      have i1 : (k : Int) < (N : Int) := by omega
      have Ba : Below w.heap.size w (wr.alloc (.cells (edCells l[k]) 40)) := B.alloc Bs _
      have hE0 : EdAt (wr.alloc (.cells (edCells l[k]) 40)) wr.heap.size 0 l[k] := EdAt.box wr l[k] 40
      have hE := Lib.hid (fun W (q : Below (wr.alloc (.cells (edCells l[k]) 40)).heap.size (wr.alloc (.cells (edCells l[k]) 40)) W) => hE0.below (by simp) q)
      have hBB := Lib.hid (fun W (q : Below (wr.alloc (.cells (edCells l[k]) 40)).heap.size (wr.alloc (.cells (edCells l[k]) 40)) W) => Ba.trans (q.mono Ba.size))
      have hhit : Hid (upP m i l[k] = true → R = l[k].id) := fun h => by rw [hR.out]; exact hup.out _ (by rw [find_at hkl hnone h])
      have hmiss : Hid (upP m i l[k] = false → (l.take (k + 1)).find? (upP m i) = none) := fun h => find_next hkl hnone h
      have hq : Hid (upP m i l[k] = ((gp m (otherI l[k] i)).depth == (gp m i).depth - 1)) := rfl
      clear hE0 cv hnone
      generalize l[k] = u at *
      unfold edCells at hE hBB
      have ho' := Lib.hid (ho.out u)
      unfold Ed.val at ho'
      generalize otherI u i = y at *
      go_upto_region 4 with (fail)
      obtain ⟨w2, hw2⟩ : ∃ w2, w2 = wr.alloc (.cells #[.int .i64 u.id, .int .i64 u.src, .int .i64 u.dst, .bool u.dir, .int .i64 u.wt, .int .i64 u.cap] 40) := ⟨_, rfl⟩
      rw [← hw2] at hE hBB ⊢
      replace hw2 := Lib.hid hw2
      refine q_region (fun W => Below w2.heap.size w2 W) (by kernel_rfl) (by kernel_rfl) ((Below.refl _ w2).drew) ?_
      repeat (first | (refine q_skip (by rfl) ?_; try simp only [Act.put, zT, z0, zS]) | (refine q_take (v := ?_) (by rfl) ?_ ?_; rotate_left; (first | ((intro w h; clear h; go_simp) <;> with_reducible rfl) | ((intro w h; obtain ⟨e0, e1, e2, e3, e4, e5⟩ := hE.out w h; clear h; go_simp) <;> with_reducible rfl) | ((intro w h; have g := hget.out w (hBB.out w h); clear h; go_simp) <;> with_reducible rfl)); try simp only [Act.put, zT, z0, zS]))
      refine q_call (v := _) Try.f13 (by rfl) rfl Try.func13 (by kernel_rfl) (by kernel_rfl) #[.agg #[.int .i64 u.id, .int .i64 u.src, .int .i64 u.dst, .bool u.dir, .int .i64 u.wt, .int .i64 u.cap], .int .i64 i] (by simp [Act.eval]) (fun w h => (ho'.out w).mono fun e w3 ⟨he, hb⟩ => ⟨he, h.trans (hb.mono h.size)⟩) ?_; try simp only [Act.put, zT, z0, zS]
      repeat (first | (refine q_skip (by rfl) ?_; try simp only [Act.put, zT, z0, zS]) | (refine q_take (v := ?_) (by rfl) ?_ ?_; rotate_left; (first | ((intro w h; clear h; go_simp) <;> with_reducible rfl) | ((intro w h; obtain ⟨e0, e1, e2, e3, e4, e5⟩ := hE.out w h; clear h; go_simp) <;> with_reducible rfl) | ((intro w h; have g := hget.out w (hBB.out w h); clear h; go_simp) <;> with_reducible rfl)); try simp only [Act.put, zT, z0, zS]))
      refine q_nil ?_
      intro w3 B3
      have B4 := Lib.hid (hBB.out w3 B3)
      have hE3 := Lib.hid (hE.out w3 B3)
      obtain ⟨e0, e1, e2, e3, e4, e5⟩ := hE3.out
      clear d0 d1 d2 d3 d4 d5
      rcases Bool.eq_false_or_eq_true (upP m i u) with hx | hx
      · have t1 : ((gp m y).depth == IntKind.i64.wrap ((gp m i).depth - 1)) = true := by rw [hsub.out, ← hq.out]; exact hx
        have hr := Lib.hid (hhit.out hx)
        clear hx hq hhit hmiss
        go_wp2_with fail
        go_ret
        exact ⟨ret_int hr.out.symm, B4.out⟩
      · have t1 : ((gp m y).depth == IntKind.i64.wrap ((gp m i).depth - 1)) = false := by rw [hsub.out, ← hq.out]; exact hx
        have hnx := Lib.hid (hmiss.out hx)
        clear hx hq hhit hmiss
        go_wp2_with fail
        go_roundw
        case rel => exact ⟨k + 1, by omega, by go_num, hnx.out, B4.out⟩
        case measure => simp [intOf]; omega
    · have hk2 : k = N := by omega
      have hr : Hid (R = -1) := by
        rw [List.take_of_length_le (by rw [hk2, hN.out]; exact Nat.le_refl _)] at hnone
        show R = -1; rw [hR.out]; exact hup.out _ (by rw [hnone])
      have i1 : ¬ (k : Int) < (N : Int) := by omega
      clear hk2 hnone
      go_wp2_with fail
      go_ret
      exact ⟨ret_int hr.out.symm, B⟩

end Go.Proofs.Ythmkmjkbfjhffaa
/- Contracts and facts. -/
set_option linter.unusedSimpArgs false
set_option maxRecDepth 100000
set_option maxHeartbeats 4000000
namespace Go.Proofs.Ythmkmjkbfjhffaa
open Go.RowKit
theorem gv_shape {W : World} {v : Value} {g : Gr} (h : GV W v g) : ∃ a1 a2 b1 b2 c1 c2, v = .agg #[.slice a1 g.vs.length a2, .slice b1 g.es.length b2, .slice c1 g.ds.length c2] ∧ VL W (.slice a1 g.vs.length a2) g.vs ∧ EL W (.slice b1 g.es.length b2) g.es ∧ DL W (.slice c1 g.ds.length c2) g.ds := by
  obtain ⟨a, b, c, rfl, h1, h2, h3⟩ := h
  obtain ⟨a1, a2, rfl⟩ := h1.shape
  obtain ⟨b1, b2, rfl⟩ := h2.shape
  obtain ⟨c1, c2, rfl⟩ := h3.shape
  exact ⟨a1, a2, b1, b2, c1, c2, rfl, h1, h2, h3⟩
theorem step_any (v : Value) (g : Gr) (a x : Int) (w : World) (hv : GV w v g) (hn : g.es.length ≤ 1000000000) :
    Calls Try.prog 33 #[v, .int .i64 a, .int .i64 x] w fun e w' => e = .returned (.tuple #[.int .i64 (stepF g.es a x).1, .bool (stepF g.es a x).2]) ∧ Below w.heap.size w w' := by
  have hst : Hid (∀ o : Option Ed, (atF g.es a).find? (fun e => e.id == x) = o → stepF g.es a x = match o with | some e => (otherI e a, true) | none => (0, false)) := fun o h => by subst h; rfl
  obtain ⟨R, hR⟩ : ∃ R, Hid (R = stepF g.es a x) := ⟨_, rfl⟩
  obtain ⟨R1, R2⟩ := R
  rw [← hR.out]
  have hA := Lib.hid (fun W (B : Below w.heap.size w W) => At_any v g a W (hv.below B) hn)
  have hlen := Lib.hid (atF_len g.es a)
  generalize atF g.es a = l at *
  obtain ⟨a1, a2, b1, b2, c1, c2, rfl, _, _, _⟩ := gv_shape hv
  generalize g.vs.length = n1 at *
  generalize g.es.length = n2 at *
  generalize g.ds.length = n3 at *
  obtain ⟨w1, hw1⟩ : ∃ w1, w1 = w.alloc (.cells #[.slice a1 n1 a2, .slice b1 n2 b2, .slice c1 n3 c2] 28) := ⟨_, rfl⟩
  obtain ⟨hB, hz, hcell0⟩ := one_box w w1 _ _ _ 28 hw1
  obtain ⟨q0, q1, q2⟩ := hcell0 w1 (Below.refl _ _)
  replace hw1 := Lib.hid hw1
  clear hcell0 hv
  go_enter Try.func33, Try.ntmps33
  go_wp2_with fail
  rw [← hw1.out]
  go_wp2_with fail
  refine (hA.out w1 hB).mono ?_
  rintro e w2 ⟨r, rfl, hl, B2⟩
  have B3 := Lib.hid (hB.trans (B2.mono hB.size))
  obtain ⟨d1, d2, rfl⟩ := hl.shape
  have cellE := Lib.hid hl.cells
  obtain ⟨N, hN⟩ : ∃ N, Hid (N = l.length) := ⟨_, rfl⟩
  rw [← hN.out] at hlen ⊢
  have ho := Lib.hid (fun (e : Ed) w' => Other_any e a w')
  replace hlen := hlen.out
  clear q0 q1 q2 hA hl B2 hB hz
  go_wp2_with fail
  go_loopw [9, 14] (fun _ iv wr => ∃ k : Nat, k ≤ N ∧ iv = .int .i64 k ∧ (l.take k).find? (fun e => e.id == x) = none ∧ Below w2.heap.size w2 wr) (fun _ iv _ => N - (intOf iv).toNat)
  case atStart => exact ⟨0, by omega, rfl, by simp, Below.refl _ _⟩
  case round =>
    obtain ⟨k, hk, rfl, hnone, B⟩ := hrel
    have Bs := B.size
    by_cases hlt : k < N
    · have hkl : k < l.length := by rw [← hN.out]; exact hlt
      obtain ⟨bv, ov, rfl, cv⟩ := cellE.out k hkl
      obtain ⟨d0, d1, d2, d3, d4, d5⟩ := cv wr B
      have i0 : (0 : Int) ≤ (k : Int) := by omega
      have i1 : (k : Int) < (N : Int) := by omega
      have Ba : Below w2.heap.size w2 (wr.alloc (.cells (edCells l[k]) 40)) := B.alloc Bs _
      have hhit : Hid (l[k].id = x → (R1, R2) = (otherI l[k] a, true)) := fun h => by rw [hR.out]; exact hst.out _ (find_at hkl hnone (by simpa using h))
      have hmiss : Hid (¬ l[k].id = x → (l.take (k + 1)).find? (fun e => e.id == x) = none) := fun h => find_next hkl hnone (by simpa using h)
      clear cv hnone
      generalize l[k] = u at *
      have ho' := Lib.hid (ho.out u)
      unfold Ed.val at ho'
      unfold edCells at Ba
      generalize otherI u a = y at *
      by_cases hx : u.id = x
      · have t1 : (u.id == x) = true := by simpa using hx
        have hr := Lib.hid (hhit.out hx)
        clear hx hhit hmiss
        go_wp2_with fail
        refine (ho'.out _).mono ?_
        rintro e w3 ⟨rfl, b3⟩
        have B4 := Lib.hid (B3.out.trans ((Ba.trans (b3.mono Ba.size)).mono B3.out.size))
        go_wp2_with fail
        go_ret2
        obtain ⟨h1, h2⟩ := Prod.mk.inj hr.out
        subst h1 h2
        exact ⟨rfl, B4.out⟩
      · have t1 : (u.id == x) = false := by simpa using hx
        have hnx := Lib.hid (hmiss.out hx)
        clear hx hhit hmiss
        go_wp2_with fail
        go_roundw
        case rel => exact ⟨k + 1, by omega, by go_num, hnx.out, Ba⟩
        case measure => simp [intOf]; omega
    · have hk2 : k = N := by omega
      have hr : Hid ((R1, R2) = (0, false)) := by
        rw [List.take_of_length_le (by rw [hk2, hN.out]; exact Nat.le_refl _)] at hnone
        show (R1, R2) = _; rw [hR.out]; exact hst.out _ hnone
      have i1 : ¬ (k : Int) < (N : Int) := by omega
      have B4 := Lib.hid (B3.out.trans (B.mono B3.out.size))
      clear hk2 hnone
      go_wp2_with fail
      go_ret2
      obtain ⟨h1, h2⟩ := Prod.mk.inj hr.out
      subst h1 h2
      exact ⟨rfl, B4.out⟩

end Go.Proofs.Ythmkmjkbfjhffaa
/- Contracts and facts. -/
set_option linter.unusedSimpArgs false
set_option maxRecDepth 100000
set_option maxHeartbeats 4000000
namespace Go.Proofs.Ythmkmjkbfjhffaa
open Go.RowKit
/-- a queue of integers: a slice anywhere in a row of the call's own -/
def QI (W : World) (base : Nat) (v : Value) (l : List Int) : Prop := (v = .slice none 0 0 ∧ l = []) ∨ ∃ g o cap cur, v = .slice (some ⟨g, o, none⟩) l.length cap ∧ base ≤ g ∧ W.heap[g]? = some (.cells cur 3 (0, 0)) ∧ l.length ≤ cap ∧ cap ≤ 9223372036854775807 ∧ o + cap ≤ cur.size ∧ ∀ j x, l[j]? = some x → W.cell? ⟨g, o + j, none⟩ = some (.int .i64 x)
theorem QI.nil (W : World) (base : Nat) : QI W base (.slice none 0 0) [] := .inl ⟨rfl, rfl⟩
theorem QI.row {W : World} {base : Nat} {v : Value} {l : List Int} (h : QI W base v l) (g : Nat) (hg : v.ownBlock = some g) : base ≤ g ∧ ∃ cur, W.heap[g]? = some (.cells cur 3 (0, 0)) := by
  rcases h with ⟨rfl, _⟩ | ⟨g', o, cap, cur, rfl, h1, h2, _⟩
  · simp [Value.ownBlock] at hg
  · simp [Value.ownBlock] at hg; subst hg; exact ⟨h1, cur, h2⟩
theorem QI.of {W W' : World} {base : Nat} {v : Value} {l : List Int} (h : QI W base v l) (hk : ∀ g cur, base ≤ g → W.heap[g]? = some (.cells cur 3 (0, 0)) → W'.heap[g]? = W.heap[g]?) : QI W' base v l := by
  rcases h with h | ⟨g, o, cap, cur, h1, h2, h3, h4, h5, h6, h7⟩
  · exact .inl h
  · have e := hk g cur h2 h3
    exact .inr ⟨g, o, cap, cur, h1, h2, e.trans h3, h4, h5, h6, fun j x hx => by rw [World.cell?_of_block (a := ⟨g, o + j, none⟩) e]; exact h7 j x hx⟩
theorem QI.below {W W' : World} {base : Nat} {v : Value} {l : List Int} (h : QI W base v l) (B : Below W.heap.size W W') : QI W' base v l := h.of fun g _ _ hg => B.block g (Array.getElem?_eq_some_iff.1 hg).1
theorem QI.ofOwn {W : World} {base base' : Nat} {v : Value} {l : List Int} (h : W.ownsRow base' 3 1 v l.length (cI l)) (hb : base ≤ base') : QI W base v l := by
  rcases h.2 with ⟨rfl, h0⟩ | ⟨g, cap, cur, rfl, hg, hh, hc, hm, hs, ht⟩
  · exact .inl ⟨rfl, List.length_eq_zero_iff.1 h0⟩
  · refine .inr ⟨g, 0, cap, cur, rfl, by omega, hh, hc, by unfold maxLen at hm; omega, by omega, fun j x hx => ?_⟩
    have hj := (List.getElem?_eq_some_iff.1 hx).1
    have h1 : (cI l)[j]? = some (.int .i64 x) := by simp [cI, hx]
    rw [← ht, List.getElem?_take_of_lt (by omega)] at h1
    unfold World.cell?
    rw [show (⟨g, 0 + j, none⟩ : Addr).block = g from rfl, hh]
    simpa using h1
theorem qsnoc (W : World) (base : Nat) (v : Value) (l : List Int) (x : Int) (h : QI W base v l) (hl : l.length ≤ 1000000) (hb : base ≤ W.heap.size) :
    ∃ v' w', (Builtin.append_ #[26, 26] 26 #[v, .slice (some ⟨W.heap.size, 0, none⟩) 1 1]).run Try.prog (W.alloc (.cells #[.int .i64 x] 3)) = .ok v' w' ∧ QI w' base v' (l ++ [x]) ∧ (W.alloc (.cells #[.int .i64 x] 3)).grownBy w' v.ownBlock := by
  obtain ⟨i0, hi, hz0, hz1, hz2⟩ := info_parts info3
  have hnew : (W.alloc (.cells #[.int .i64 x] 3)).heap[W.heap.size]? = some (.cells #[.int .i64 x] 3 (0, 0)) := heap_alloc_new W _
  have hcell := World.news_of_block (cs := #[.int .i64 x]) (t := 3) (fr := (0, 0)) hnew
  rcases h with ⟨rfl, rfl⟩ | ⟨g, o, cap, cur, rfl, h2, h3, h4, h5, h6, h7⟩
  · obtain ⟨g, c, w', hr, ho, hg, _, _⟩ := run_append_lies (P := Try.prog) (W.alloc (.cells #[.int .i64 x] 3)) 26 26 base 3 i0 _ 1 8 Try.underlying26 hi hz0 hz1 hz2 rfl (by omega) (.slice none 0 0) 0 (cI []) ((World.ownsRow_nil W base 3 1).alloc _) ⟨W.heap.size, 0, none⟩ 1 1 [.int .i64 x] rfl hcell (by simp [Value.oneCell']) (by omega) (by unfold maxLen; omega) (by omega) (by simp; omega) (W.heap.size + 1) (by simp)
    exact ⟨_, w', hr, QI.ofOwn (base' := base) (by simpa [cI] using ho) (Nat.le_refl _), hg⟩
  · have hlt := (Array.getElem?_eq_some_iff.1 h3).1
    have h3' : (W.alloc (.cells #[.int .i64 x] 3)).heap[g]? = some (.cells cur 3 (0, 0)) := (Below.heap_alloc _ _ _ hlt).trans h3
    have hold : ∀ j u, (cI l)[j]? = some u → (W.alloc (.cells #[.int .i64 x] 3)).cell? ((⟨g, o, none⟩ : Addr).add j) = some u := fun j u hu => by
      simp only [cI, List.getElem?_map, Option.map_eq_some_iff] at hu
      obtain ⟨y, hy, rfl⟩ := hu
      rw [Addr.add_lit, World.cell?_of_block (a := ⟨g, o + j, none⟩) (Below.heap_alloc W _ _ hlt)]
      exact h7 j y hy
    by_cases hr : l.length + 1 ≤ cap
    · have hin : o + l.length < cur.size := by omega
      have hrun := run_append_room_cells (P := Try.prog) (W.alloc (.cells #[.int .i64 x] 3)) 26 26 3 i0 Try.underlying26 hi g o l.length cap ⟨W.heap.size, 0, none⟩ 1 1 [.int .i64 x] (by rw [hz1]; rfl) hcell (by simp [Value.oneCell']) hr
        (fun j hj => by
          have : j = 0 := by simp at hj; omega
          subst this
          rw [hz1, Nat.mul_one]; unfold World.cell?
          rw [show (⟨g, o + l.length + 0, none⟩ : Addr).block = g from rfl, h3']
          simp [hin])
        (fun j hj => by
          have : j = 0 := by simp at hj; omega
          subst this
          exact frozen_of_row _ g _ _ _ h3')
      rw [hz1, Nat.mul_one] at hrun
      have hh := heap_setCell_same (W.alloc (.cells #[.int .i64 x] 3)) g (o + l.length) cur 3 (.int .i64 x) h3'
      refine ⟨_, _, hrun, .inr ⟨g, o, cap, _, by rw [List.length_append]; rfl, h2, hh, by rw [List.length_append]; exact hr, h5, by simpa using h6, fun j y hy => ?_⟩, ⟨rfl, rfl, rfl, by simp [World.setCells], fun k hk hne => heap_setCell_other _ _ _ _ (fun e => hne (by rw [e]; rfl))⟩⟩
      · unfold World.cell?
        rw [show (⟨g, o + j, none⟩ : Addr).block = g from rfl]
        show (match (World.setCell (W.alloc (.cells #[.int .i64 x] 3)) ⟨g, o + l.length, none⟩ (.int .i64 x)).heap[g]? with | some (.cells cs _ _) => _ | _ => none) = _
        rw [hh]
        by_cases hj : j < l.length
        · rw [List.getElem?_append_left hj] at hy
          have h8 := hold j (.int .i64 y) (by simp [cI, hy])
          rw [Addr.add_lit] at h8
          unfold World.cell? at h8
          rw [show (⟨g, o + j, none⟩ : Addr).block = g from rfl, h3'] at h8
          have hne : ¬ o + l.length = o + j := by omega
          simp only [Array.getElem?_setIfInBounds, if_neg hne]
          simpa using h8
        · have hj2 : j = l.length := by
            have := (List.getElem?_eq_some_iff.1 hy).1
            simp at this; omega
          subst hj2
          simp at hy; subst hy
          simp [hin]
    · obtain ⟨v', w', hrun, ho, hg⟩ := run_append_arg_grows (P := Try.prog) (W.alloc (.cells #[.int .i64 x] 3)) 26 26 3 i0 _ 1 8 Try.underlying26 hi hz0 hz1 hz2 rfl (by omega) ⟨g, o, none⟩ l.length cap (cI l) (by simp [cI]) hold ⟨W.heap.size, 0, none⟩ 1 1 [.int .i64 x] rfl hcell (by omega) (by unfold maxLen; omega) (by omega)
      exact ⟨v', w', hrun, QI.ofOwn (base' := (W.alloc (.cells #[.int .i64 x] 3)).heap.size) (by rw [List.length_append, cI, List.map_append]; exact ho) (by simp; omega), ⟨hg.os, hg.tape, hg.output, hg.size, fun k hk _ => hg.block k hk (by simp)⟩⟩

end Go.Proofs.Ythmkmjkbfjhffaa
/- Contracts and facts. -/
set_option linter.unusedSimpArgs false
set_option maxRecDepth 100000
set_option maxHeartbeats 4000000
namespace Go.Proofs.Ythmkmjkbfjhffaa
open Go.RowKit
theorem QI.shape {W : World} {base : Nat} {v : Value} {l : List Int} (h : QI W base v l) : ∃ a c, v = .slice a l.length c := by
  rcases h with ⟨rfl, rfl⟩ | ⟨g, o, cap, cur, rfl, _⟩
  · exact ⟨_, _, rfl⟩
  · exact ⟨_, _, rfl⟩
structure SpW (w0 W : World) (gcs : Array Value) (b : Nat) (s : St) : Prop where
  gbox : W.heap[b]? = some (.cells gcs 28 (0, 0))
  map : PMV W (b + 1) s.m
  pbox : W.heap[b + 2]? = some (.cells #[.map (some (b + 1))] 69 (0, 0))
  q : ∃ qv, W.heap[b + 3]? = some (.cells #[qv] 26 (0, 0)) ∧ QI W (b + 4) qv s.q
  sz : b + 4 ≤ W.heap.size
  below : Below b w0 W
structure KM (b : Nat) (W W' : World) : Prop where
  size : W.heap.size ≤ W'.heap.size
  keep : ∀ j o, W.heap[j]? = some o → j ≠ b + 1 → j ≠ b + 3 → (b + 4 ≤ j → ∀ cs, o ≠ .cells cs 3 (0, 0)) → W'.heap[j]? = some o
theorem KM.refl (b : Nat) (W : World) : KM b W W := ⟨Nat.le_refl _, fun _ _ h _ _ _ => h⟩
theorem KM.trans {b : Nat} {W W' W'' : World} (h : KM b W W') (k : KM b W' W'') : KM b W W'' := ⟨Nat.le_trans h.size k.size, fun j o a b' c d => k.keep j o (h.keep j o a b' c d) b' c d⟩
theorem KM.of {b : Nat} {W W' : World} (B : Below W.heap.size W W') : KM b W W' := ⟨B.size, fun j _ h _ _ _ => (B.block j (Array.getElem?_eq_some_iff.1 h).1).trans h⟩
theorem SpW.to {w0 W W' : World} {gcs : Array Value} {b : Nat} {s : St} (h : SpW w0 W gcs b s) (B : Below W.heap.size W W') : SpW w0 W' gcs b s := by
  have hs := h.sz
  obtain ⟨qv, q1, q2⟩ := h.q
  exact ⟨(B.block _ (by omega)).trans h.gbox, h.map.below B (by omega), (B.block _ (by omega)).trans h.pbox, ⟨qv, (B.block _ (by omega)).trans q1, q2.below B⟩, Nat.le_trans hs B.size, h.below.trans (B.mono (by omega))⟩
set_option maxRecDepth 100000 in
theorem meet_any (w0 W : World) (gcs : Array Value) (b : Nat) (s : St) (i : Int) (p : Pl) (h : SpW w0 W gcs b s) (hl : s.q.length ≤ 1000000) :
    Calls Try.prog 65 #[.int .i64 i, plV p, .pointer (some ⟨b + 2, 0, none⟩), .pointer (some ⟨b + 3, 0, none⟩)] W fun e w' => e = .returned (.tuple #[]) ∧ SpW w0 w' gcs b (meetF s i p) ∧ KM b W w' := by
  obtain ⟨W1, hW1⟩ : ∃ W1, W1 = W.alloc (.cells #[.int .i64 p.root, .int .i64 p.depth, .int .i64 p.edge] 72) := ⟨_, rfl⟩
  have B1 : Below W.heap.size W W1 := by rw [hW1]; exact (Below.refl _ W).alloc (Nat.le_refl _) _
  have h1 := h.to B1
  have hbx : W1.heap[W.heap.size]? = some (.cells #[.int .i64 p.root, .int .i64 p.depth, .int .i64 p.edge] 72 (0, 0)) := by rw [hW1]; exact heap_alloc_new W _
  obtain ⟨W2, r2, m2, g2, s2⟩ := MI.MI.write Try.underlying69 Try.underlying3 h1.map i (plV p)
  obtain ⟨qv, q1, q2⟩ := h1.q
  have q1' : W2.heap[b + 3]? = some (.cells #[qv] 26 (0, 0)) := (g2.block _ (by have := h1.sz; omega) (by intro e; injection e with e; omega)).trans q1
  have q2' : QI W2 (b + 4) qv s.q := q2.of fun g cur hg hh => g2.block _ (Array.getElem?_eq_some_iff.1 hh).1 (by intro e; injection e with e; omega)
  have hs2 := h1.sz
  obtain ⟨v', w', ra, qa, ga⟩ := qsnoc W2 (b + 4) qv s.q i q2' hl (by omega)
  obtain ⟨va, vc, rfl⟩ := qa.shape
  generalize (s.q ++ [i]).length = vn at *
  have r2' := Lib.hid r2
  have hW1' := Lib.hid hW1
  have c0 : W1.cell? ⟨W.heap.size, 0, none⟩ = some (.int .i64 p.root) := by rw [cell_of_row _ _ _ _ _ _ hbx]; rfl
  have c1 : W1.cell? ⟨W.heap.size, 1, none⟩ = some (.int .i64 p.depth) := by rw [cell_of_row _ _ _ _ _ _ hbx]; rfl
  have c2 : W1.cell? ⟨W.heap.size, 2, none⟩ = some (.int .i64 p.edge) := by rw [cell_of_row _ _ _ _ _ _ hbx]; rfl
  have p0 : W1.cell? ⟨b + 2, 0, none⟩ = some (.map (some (b + 1))) := by rw [cell_of_row _ _ _ _ _ _ h1.pbox]; rfl
  have p1 : W2.cell? ⟨b + 3, 0, none⟩ = some qv := by rw [cell_of_row _ _ _ _ _ _ q1']; rfl
  have ha := Lib.hid ra
  have hs1 := hW1
  have ka : ∀ j o, W2.heap[j]? = some o → (b + 4 ≤ j → ∀ cs, o ≠ .cells cs 3 (0, 0)) → w'.heap[j]? = some o := fun j o hj hn => by
    have hlt := (Array.getElem?_eq_some_iff.1 hj).1
    rw [ga.block j (by simp; omega) (fun e => ?_), Below.heap_alloc _ _ _ hlt]
    · exact hj
    · obtain ⟨h8, cur, h9⟩ := q2'.row j e.symm
      rw [hj] at h9; injection h9 with h9; exact hn h8 _ h9
  have q3 : w'.heap[b + 3]? = some (.cells #[qv] 26 (0, 0)) := ka _ _ q1' (fun e => by omega)
  have kk : KM b W (w'.setCell ⟨b + 3, 0, none⟩ (.slice va vn vc)) := by
    refine ⟨?_, fun j o hj n1 n3 hn => ?_⟩
    · have e1 := B1.size; have e2 := ga.size; simp at e2 ⊢; omega
    · rw [heap_setCell_other _ _ _ _ (by simpa using n3)]
      refine ka j o ?_ hn
      have hlt := (Array.getElem?_eq_some_iff.1 hj).1
      rw [g2.block j (by have := B1.size; omega) (by intro e; injection e with e; omega)]
      exact (B1.block j hlt).trans hj
  have hfin : SpW w0 (w'.setCell ⟨b + 3, 0, none⟩ (.slice va vn vc)) gcs b (meetF s i p) := by
    have hsz : b + 4 ≤ w'.heap.size := by have e2 := ga.size; simp at e2; omega
    refine ⟨?_, ?_, ?_, ⟨.slice va vn vc, heap_setCell_same w' (b + 3) 0 _ 26 (.slice va vn vc) q3, ?_⟩, by simpa using hsz, ?_⟩
    · exact kk.keep b _ h.gbox (by omega) (by omega) (fun e => by omega)
    · have e : (w'.setCell ⟨b + 3, 0, none⟩ (.slice va vn vc)).heap[b + 1]? = W2.heap[b + 1]? := by
        rw [heap_setCell_other _ _ _ _ (by simp)]
        obtain ⟨es, clk, e1, _⟩ := m2
        rw [ka _ _ e1 (fun e => by omega), e1]
      refine MI.MI.congr (MI.MI.of m2 e) (fun k => ?_)
      show (if k = i then some (plV p) else (s.m k).map plV) = (putP s.m i p k).map plV
      unfold putP
      split <;> rfl
    · exact kk.keep (b + 2) _ h.pbox (by omega) (by omega) (fun e => by omega)
    · exact qa.of fun g cur hg hh => heap_setCell_other _ _ _ _ (by show g ≠ b + 3; omega)
    · refine ⟨?_, ?_, ?_, ?_, fun j hj => ?_⟩
      · have e1 := h1.below.os; have e2 := g2.os; have e3 := ga.os; exact e3.trans (e2.trans e1)
      · have e1 := h1.below.tape; have e2 := g2.tape; have e3 := ga.tape; exact e3.trans (e2.trans e1)
      · have e1 := h1.below.output; have e2 := g2.output; have e3 := ga.output; exact e3.trans (e2.trans e1)
      · have e1 := h.below.size; have e2 := kk.size; omega
      · have e1 := h.below.block j hj
        have hlt : j < W.heap.size := by have := h.sz; omega
        have hj2 : W.heap[j]? = some W.heap[j] := Array.getElem?_eq_getElem hlt
        rw [kk.keep j _ hj2 (by omega) (by omega) (fun e => by omega), ← hj2]; exact e1
  have hs3 := Lib.hid hfin
  have hk3 := Lib.hid kk
  have p3 : w'.cell? ⟨b + 3, 0, none⟩ = some qv := by rw [cell_of_row _ _ _ _ _ _ q3]; rfl
  have f3 : w'.frozen? ⟨b + 3, 0, none⟩ = false := frozen_of_row _ _ _ _ _ q3
  clear hfin kk ka q3 ga qa q2' q1' q1 q2 m2 g2 h1 h hbx B1 hs1 hs2
  unfold plV at r2 ⊢
  go_enter Try.func65, Try.ntmps65
  go_upto_region 1 with (fail)
  rw [← hW1]
  clear hW1 hW1' r2' ha s2
  go_wp2_with (at_builtin; refine wpList_append_runB rfl (.tmp 9) (.tmp 11) 26 rfl qv (.slice (some ⟨W2.heap.size, 0, none⟩) 1 1) rfl rfl _ _ ra ?_)
  go_end0
  exact ⟨rfl, hs3.out, hk3.out⟩

end Go.Proofs.Ythmkmjkbfjhffaa
/- Contracts and facts. -/
set_option linter.unusedSimpArgs false
set_option maxRecDepth 100000
set_option maxHeartbeats 4000000
namespace Go.Proofs.Ythmkmjkbfjhffaa
open Go.RowKit
theorem own_mono {W : World} {b b' : Nat} {v : Value} {l : List Ed} (h : OwnEd W b v l) (hb : b' ≤ b) : OwnEd W b' v l := ⟨h.1, h.2.imp id fun ⟨g, cap, cur, h1, h2, h3⟩ => ⟨g, cap, cur, h1, Nat.le_trans hb h2, h3⟩⟩
set_option maxHeartbeats 2000000 in
theorem At_own(v:Value)(g:Gr)(x:Int)(w:World)(hv:GV w v g)(hn:g.es.length<=1000000000):
  Calls Try.prog 12 #[v,.int .i64 x] w fun e w'=>∃r,e= .returned r/\OwnEd w' w.heap.size r (atF g.es x)/\Below w.heap.size w w':=by
 obtain⟨a,b,c,rfl,h1,h2,h3⟩:=hv;obtain⟨w1,hw1⟩:∃w1,w1=w.alloc (.cells #[a,b,c] 28):=⟨_,rfl⟩;obtain⟨hB,hz,hcell0⟩:=one_box w w1 a b c 28 hw1;have hcell:=Hd hcell0;have hB0:=Hd (fun W (B:Below w1.heap.size w1 W)=>hB.trans (B.mono hB.size));have hsz:=Hd hB.size;have hv1:=Hd (h2.below hB);generalize g.es=l at *
 obtain⟨a1,a2,rfl⟩:=h1.shape;obtain⟨b1,b2,rfl⟩:=h2.shape;obtain⟨c1,c2,rfl⟩:=h3.shape;generalize g.vs.length=n1 at *
 generalize g.ds.length=n3 at *
 have hw2:=Hd hw1;clear hw1 hcell0 hB h1 h2 h3;have cellE:=Hd (show ∀(k:Nat) (hk:k<l.length),∃b o,b1=some ⟨b,o,none⟩/\ ∀W,Below w1.heap.size w1 W->EdAt W b (o+k*6) l[k]from fun k hk=>by
  obtain⟨b,o,c,he,e1,e2,e3⟩:=hv1.out.own (fun e=>by rw[e]at hk;simp at hk);injection he with he1 he2 he3
  exact⟨b,o,he1,fun W B=>(e3.below e2 B) k _ (List.getElem?_eq_getElem hk)⟩)
 obtain⟨N,hN⟩:∃N,Hid (N=l.length):=⟨_,rfl⟩;rw[<-hN.out]at hw2 hcell hn;clear hv1;go_enter Try.func12,Try.ntmps12;go_wp2_with fail;rw[<-hN.out,<-hw2.out];obtain⟨q0,q1,q2⟩:=hcell.out w1 (Below.refl _ _);go_wp2_with fail
 go_loopw [5,11] (fun lv i wr=>∃k:Nat,k<=N/\i= .int .i64 k/\OwnEd wr w1.heap.size lv (atF (l.take k) x)/\Below w1.heap.size w1 wr) (fun _ i _=>N-(intOf i).toNat)
 case atStart=>exact⟨0,by omega,rfl,World.ownsRow_nil _ _ _ _,Below.refl _ _⟩
 case round =>
  clear q0 q1 q2;obtain⟨k,hk,rfl,hown,B⟩:=hrel;obtain⟨q0,q1,q2⟩:=hcell.out wr B;have Bs:=B.size;by_cases hlt:k<N
  ·have hkl:k<l.length:=by rw[<-hN.out];exact hlt
   obtain⟨bv,ov,rfl,cv⟩:=cellE.out k hkl;obtain⟨d0,d1,d2,d3,d4,d5⟩:=cv wr B;have hsn:Hid (atF (l.take (k+1)) x=if(l[k].src==x||l[k].dst==x)=true then atF (l.take k) x++[l[k]]else atF (l.take k) x):=atF_snoc l x k hkl;have hlen:=atF_len (l.take k) x;have hlen2:(atF (l.take k) x).length<=1000000000:=by simp at hlen;omega
   have i0:(0:Int)<=(k:Int):=by omega
   have i1:(k:Int)<(N:Int):=by omega
   have Ba:Below w1.heap.size w1 (wr.alloc (.cells (edCells l[k]) 40)):=B.alloc Bs _;obtain⟨v',w',hr,ho,hb⟩:=snocE (wr.alloc (.cells (edCells l[k]) 40)) w1.heap.size _ (atF (l.take k) x) l[k] (show OwnEd _ _ _ _ from(show wr.ownsRow _ _ _ _ _ _ from hown).alloc _) hlen2 (by simp;omega);have hb2:=Hd (hb w1 Ba (Nat.le_refl _) (Nat.le_refl _));have ho2:=Hd ho;have hown2:=Hd hown;clear hb ho hown hlen hlen2 cv;generalize atF (l.take k) x=L at *
   generalize l[k]=u at *
   unfold edCells at hr Ba;simp only[World.size_alloc]at hr;by_cases hs:u.src=x
   ·have t1:(u.src==x)=true:=by simpa using hs
    have hnew:Hid (atF (l.take (k+1)) x=L++[u]):=by show _=_;rw[hsn.out,t1];rfl
    clear hsn hs
    go_wp2_with (at_builtin;refine wpList_append_runB rfl (.tmp 25) (.tmp 27) 25 rfl u5 (.slice (some ⟨wr.heap.size+1,0,none⟩) 1 1) rfl rfl _ _ hr ?_)
    go_roundw
    case rel=>exact⟨k+1,by omega,by go_num,by rw[hnew.out];exact ho2.out,hb2.out⟩
    case measure=>simp[intOf];omega
   ·have t1:(u.src==x)=false:=by simpa using hs
    by_cases hd:u.dst=x
    ·have t2:(u.dst==x)=true:=by simpa using hd
     have hnew:Hid (atF (l.take (k+1)) x=L++[u]):=by show _=_;rw[hsn.out,t2];simp
     clear hsn hs hd
     go_wp2_with (at_builtin;refine wpList_append_runB rfl (.tmp 25) (.tmp 27) 25 rfl u5 (.slice (some ⟨wr.heap.size+1,0,none⟩) 1 1) rfl rfl _ _ hr ?_)
     go_roundw
     case rel=>exact⟨k+1,by omega,by go_num,by rw[hnew.out];exact ho2.out,hb2.out⟩
     case measure=>simp[intOf];omega
    ·have t2:(u.dst==x)=false:=by simpa using hd
     have hnew:Hid (atF (l.take (k+1)) x=L):=by show _=_;rw[hsn.out,t1,t2];rfl
     clear hsn hs hd hr;go_wp2_with fail
     go_roundw
     case rel=>exact⟨k+1,by omega,by go_num,by rw[hnew.out];exact(show wr.ownsRow _ _ _ _ _ _ from hown2.out).alloc _,Ba⟩
     case measure=>simp[intOf];omega
  ·have hk2:k=N:=by omega
   have hfin:Hid (atF (l.take k) x=atF l x):=by show _=_;rw[List.take_of_length_le (by rw[hk2,hN.out];exact Nat.le_refl _)]
   rw[hfin.out]at hown;have hE:=Hd (own_mono hown hsz.out);have i1:¬(k:Int)<(N:Int):=by omega
   clear hk2 hown;go_wp2_with fail;go_ret;exact⟨_,rfl,hE.out,hB0.out _ B⟩
/-- the least number with a property -/
theorem least_ex {P : Nat → Prop} (h : ∃ n, P n) : ∃ n, P n ∧ ∀ m, P m → n ≤ m := by
  obtain ⟨n, hn⟩ := h
  induction n using Nat.strongRecOn with
  | ind n ih =>
    by_cases h2 : ∃ m, m < n ∧ P m
    · obtain ⟨m, hm, hp⟩ := h2; exact ih m hm hp
    · exact ⟨n, hn, fun m hm => Nat.le_of_not_lt fun q => h2 ⟨m, q, hm⟩⟩
open Classical in
noncomputable def least (P : Nat → Prop) : Nat := if h : ∃ n, P n then (least_ex h).choose else 0
theorem least_spec {P : Nat → Prop} (h : ∃ n, P n) : P (least P) := by unfold least; rw [dif_pos h]; exact (least_ex h).choose_spec.1
theorem least_le {P : Nat → Prop} {n : Nat} (h : P n) : least P ≤ n := by
  have h' : ∃ n, P n := ⟨n, h⟩
  unfold least; rw [dif_pos h']; exact (least_ex h').choose_spec.2 n h
end Go.Proofs.Ythmkmjkbfjhffaa
