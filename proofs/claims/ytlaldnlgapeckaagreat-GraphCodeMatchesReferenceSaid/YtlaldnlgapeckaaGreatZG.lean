/- The reference's Decode. -/
import Derived.Test.YtlaldnlgapeckaaGreatZE
import Derived.Test.YtlaldnlgapeckaaGreatYHq
import Derived.Test.YtlaldnlgapeckaaGreatYMw
set_option linter.unusedSimpArgs false
set_option maxRecDepth 100000
set_option maxHeartbeats 4000000
namespace Go.Proofs.YtlaldnlgapeckaaGreat
open Go.RowKit
theorem agr_lst' {α : Type} {s : Int × Bool → α × (Int × Bool)} {one : Nat → Option (α × Nat)} (h : AgrN s one) (L : List UInt8) (most : Int) : Agr (stM s L most) (fun a => rLst one L most a) := by
 have h := Agr.bind (s2 := fun x => stL s x.toNat) (o2 := fun x => rMany one x.toNat) (agr_up L most) fun x => agr_list h x.toNat
 exact h
def stG (L : List UInt8) (q : Int × Bool) : Gr × (Int × Bool) :=
 let p1 := stM (stV L) L 24 q; let p2 := stM (stE L) L 40 p1.2; let p3 := stM (stI L) L 3 p2.2
 (⟨p1.1, p2.1, p3.1⟩, p3.2)
theorem agr_g (L : List UInt8) (a : Int) : (∀ g m, rGr L a = some (g, m) → stG L (a, true) = (g, ((m : Int), true)) ∧ g.ok = true) ∧ (rGr L a = none → (stG L (a, true)).2.2 = false ∨ (stG L (a, true)).1.ok = false) := by
 have h := Agr.bind (s2 := _) (o2 := _) (agr_lst' (agr_v L) L 24) fun x1 => AgrN.bind (s2 := _) (o2 := _) (agr_lst (agr_e L) L 40) fun x2 => (agr_lst (agr_int L).n L 3).map fun x3 => (⟨x1, x2, x3⟩ : Gr)
 have e : rGr L a = (((rLst (fun m => rV L m) L 24 a).bind fun p => (rLst (fun m => rE L m) L 40 p.2).bind fun q => (rLst (fun m => rdI L m) L 3 q.2).map fun r => ((⟨p.1, q.1, r.1⟩ : Gr), r.2)).bind fun p => if p.1.ok = true then some p else none) := by
  unfold rGr
  cases rLst (fun m => rV L m) L 24 a with
  | none => rfl
  | some p =>
   simp only [Option.bind_some]
   cases rLst (fun m => rE L m) L 40 p.2 with
   | none => rfl
   | some q =>
    simp only [Option.bind_some]
    cases rLst (fun m => rdI L m) L 3 q.2 with
    | none => rfl
    | some r => rfl
 have hn := h.none_ a
 have hs := h.some_ a
 rw [e]
 generalize ((rLst (fun m => rV L m) L 24 a).bind fun p => (rLst (fun m => rE L m) L 40 p.2).bind fun q => (rLst (fun m => rdI L m) L 3 q.2).map fun r => ((⟨p.1, q.1, r.1⟩ : Gr), r.2)) = R at *
 cases R with
 | none => exact ⟨fun g m h => (by cases h), fun _ => .inl (hn rfl)⟩
 | some p =>
  obtain ⟨g0, m0⟩ := p
  have h1 : stG L (a, true) = (g0, ((m0 : Int), true)) := hs g0 m0 rfl
  simp only [Option.bind_some]
  cases hk : g0.ok with
  | true =>
   simp only [if_true]
   refine ⟨fun g m h => ?_, fun h => (by cases h)⟩
   injection h with h
   injection h with h2 h3
   subst h2 h3
   exact ⟨h1, hk⟩
  | false =>
   simp only [Bool.false_eq_true, if_false]
   refine ⟨fun g m h => (by cases h), fun _ => .inr ?_⟩
   rw [h1]; exact hk
/-- the reader, the graph that is being read, and the result's block -/
structure GSR (w W : World) (b g : Nat) (s : ByteArray) (q : Int × Bool) (G : Gr) (x y z : Value) : Prop where
 rd : RdC W b s q
 box : W.heap[g]? = some (.cells #[x, y, z] 26 (0, 0))
 res : W.heap[w.heap.size]? = some (.cells zG 26 (0, 0))
 ox : OwnV W (g + 1) x G.vs
 oy : OwnEd W (g + 1) y G.es
 oz : OwnI W (g + 1) z G.ds
 bel : Below w.heap.size w W
 sz : g < W.heap.size
theorem GSR.call {w W W' : World} {b g : Nat} {s : ByteArray} {q q' : Int × Bool} {G : Gr} {x y z : Value} (h : GSR w W b g s q G x y z) (hr : RdC W' b s q') (k : KR b W W') (h1 : b = w.heap.size + 1) (h2 : b < g) : GSR w W' b g s q' G x y z :=
 ⟨hr, (k.keep g (by omega) h.sz).trans h.box, (k.keep _ (by omega) (Array.getElem?_eq_some_iff.1 h.res).1).trans h.res, own_keepR h.ox k (by omega), own_keepR h.oy k (by omega), own_keepR h.oz k (by omega), h.bel.trans (k.below.mono (by omega)), Nat.lt_of_lt_of_le h.sz k.below.size⟩
theorem GSR.setF {w W : World} {b g : Nat} {s : ByteArray} {q : Int × Bool} {G : Gr} {x y z : Value} (h : GSR w W b g s q G x y z) (f : Bool) (h1 : b = w.heap.size + 1) (h2 : b < g) : GSR w (W.setCell ⟨b, 2, none⟩ (.bool f)) b g s (q.1, f) G x y z :=
 h.call (h.rd.setF f).1 (h.rd.setF f).2 h1 h2
theorem GSR.set {w W : World} {b g : Nat} {s : ByteArray} {q : Int × Bool} {G G' : Gr} {x y z x' y' z' : Value} (h : GSR w W b g s q G x y z) (j : Nat) (v : Value) (h1 : b = w.heap.size + 1) (h2 : b < g) (he : (#[x, y, z] : Array Value).setIfInBounds j v = #[x', y', z']) (hx : OwnV W (g + 1) x' G'.vs) (hy : OwnEd W (g + 1) y' G'.es) (hz : OwnI W (g + 1) z' G'.ds) : GSR w (W.setCell ⟨g, j, none⟩ v) b g s q G' x' y' z' := by
 have ho : ∀ k, k ≠ g → (W.setCell ⟨g, j, none⟩ v).heap[k]? = W.heap[k]? := fun k hk => heap_setCell_other W ⟨g, j, none⟩ k v hk
 exact ⟨(ho _ (by omega)).trans h.rd, by rw [← he]; exact heap_setCell_same W g j _ 26 v h.box, (ho _ (by omega)).trans h.res, own_other hx (by omega) ho, own_other hy (by omega) ho, own_other hz (by omega) ho, h.bel.setCell (p := ⟨g, j, none⟩) (by show _ ≤ g; omega) _, by simpa using h.sz⟩
theorem GSR.drew {w W : World} {b g : Nat} {s : ByteArray} {q : Int × Bool} {G : Gr} {x y z : Value} (h : GSR w W b g s q G x y z) : GSR w W.drew b g s q G x y z := ⟨h.rd, h.box, h.res, h.ox, h.oy, h.oz, h.bel.drew, h.sz⟩
theorem GSR.up {w W W' : World} {b g : Nat} {s : ByteArray} {q : Int × Bool} {G : Gr} {x y z : Value} (h : GSR w W b g s q G x y z) (h1 : b = w.heap.size + 1) (h2 : b < g) (ho : ∀ j, j < g + 1 → W'.heap[j]? = W.heap[j]?) (hsz : W.heap.size ≤ W'.heap.size) (hB : Below w.heap.size w W') {G' : Gr} {x' y' z' v : Value} (j : Nat) (he : (#[x, y, z] : Array Value).setIfInBounds j v = #[x', y', z']) (hx : OwnV W' (g + 1) x' G'.vs) (hy : OwnEd W' (g + 1) y' G'.es) (hz : OwnI W' (g + 1) z' G'.ds) :
   RdC W' b s q ∧ W'.heap[g]? = some (.cells #[x, y, z] 26 (0, 0)) ∧ GSR w (W'.setCell ⟨g, j, none⟩ v) b g s q G' x' y' z' := by
 have hr : RdC W' b s q := (ho _ (by omega)).trans h.rd
 have hb := (ho g (by omega)).trans h.box
 have hs := (ho _ (by omega)).trans h.res
 have hq : ∀ k, k ≠ g → (W'.setCell ⟨g, j, none⟩ v).heap[k]? = W'.heap[k]? := fun k hk => heap_setCell_other W' ⟨g, j, none⟩ k v hk
 refine ⟨hr, hb, (hq _ (by omega)).trans hr, by rw [← he]; exact heap_setCell_same W' g j _ 26 v hb, (hq _ (by omega)).trans hs, own_other hx (by omega) hq, own_other hy (by omega) hq, own_other hz (by omega) hq, hB.setCell (p := ⟨g, j, none⟩) (by show _ ≤ g; omega) _, ?_⟩
 have := h.sz
 have : g < W'.heap.size := by omega
 simpa using this
theorem GSR.fin {w W : World} {b g : Nat} {s : ByteArray} {q : Int × Bool} {G : Gr} {x y z : Value} (h : GSR w W b g s q G x y z) (h1 : b = w.heap.size + 1) (h2 : b < g) (cs : Array Value) {B : Nat} (hB : B = w.heap.size) : OwnV (W.setRow B cs) w.heap.size x G.vs ∧ OwnEd (W.setRow B cs) w.heap.size y G.es ∧ OwnI (W.setRow B cs) w.heap.size z G.ds ∧ Below w.heap.size w (W.setRow B cs) := by
 subst hB
 exact ⟨own_le (own_other h.ox (by omega) fun j hj => setRow_other _ _ _ _ hj) (by omega), own_le (own_other h.oy (by omega) fun j hj => setRow_other _ _ _ _ hj) (by omega), own_le (own_other h.oz (by omega) fun j hj => setRow_other _ _ _ _ hj) (by omega), below_setRow' h.bel (Nat.le_refl _) _⟩
theorem box3c {W : World} {g : Nat} {x y z : Value} (h : W.heap[g]? = some (.cells #[x, y, z] 26 (0, 0))) : (W.cell? ⟨g, 0, none⟩ = some x ∧ W.cell? ⟨g, 1, none⟩ = some y ∧ W.cell? ⟨g, 2, none⟩ = some z) ∧ W.frozen? ⟨g, 0, none⟩ = false ∧ W.frozen? ⟨g, 1, none⟩ = false ∧ W.frozen? ⟨g, 2, none⟩ = false := by
 refine ⟨⟨?_, ?_, ?_⟩, frozen_of_row W g 0 _ _ h, frozen_of_row W g 1 _ _ h, frozen_of_row W g 2 _ _ h⟩ <;> (rw [cell_of_row W g _ _ _ _ h]; rfl)
theorem stV_in {L : List UInt8} {q : Int × Bool} (hL : L.length ≤ 1000000) (h : inI q.1) : inI (stV L q).2.1 := (stI_in hL (stI_in hL h).1).1
theorem GSR.grow {w W W' : World} {b g : Nat} {s : ByteArray} {q : Int × Bool} {G : Gr} {x y z : Value} (h : GSR w W b g s q G x y z) {o : Obj} {v : Value} {e k n : Nat} {xs : List Value} (hg : (W.alloc o).grownBy W' v.ownBlock) (ho : W.ownsRow (g + 1) e k v n xs) (h1 : b = w.heap.size + 1) (h2 : b < g) : (∀ j, j < g + 1 → W'.heap[j]? = W.heap[j]?) ∧ W.heap.size ≤ W'.heap.size ∧ Below w.heap.size w W' := by
 have hz := h.sz
 have hb := h.bel.size
 refine ⟨fun j hj => grown_keep hg ho j (by omega) (fun hB => by omega), grown_size hg, (h.bel.alloc (by omega) _).grown hg (by have := (Below.alloc (Below.refl 0 W) (Nat.zero_le _) o).size; omega) (fun j hj => ?_)⟩
 have := (own_row ho j hj).1
 omega
theorem stL_len {α : Type} (one : Int × Bool → α × (Int × Bool)) (N : Nat) : ∀ q, (stL one N q).1.length ≤ N := by
 induction N with
 | zero => intro q; simp [stL]
 | succ k ih =>
  intro q
  unfold stL
  split
  · have := ih (one q).2; simp; omega
  · simp
theorem stM_len {α : Type} (one : Int × Bool → α × (Int × Bool)) (L : List UInt8) (most : Int) (q : Int × Bool) : (stM one L most q).1.length ≤ most.toNat := by
 unfold stM
 by_cases h : (stI L q).1 < 0 ∨ most < (stI L q).1
 · have : stN most (stI L q) = ((stI L q).2.1, false) := by unfold stN; rw [if_pos h]
   rw [this, stL_dead _ _ _ rfl]; simp
 · have := stL_len one (stI L q).1.toNat (stN most (stI L q))
   omega
theorem stL_in {α : Type} {one : Int × Bool → α × (Int × Bool)} (h : ∀ q : Int × Bool, inI q.1 → inI (one q).2.1) (N : Nat) : ∀ q : Int × Bool, inI q.1 → inI (stL one N q).2.1 := by
 induction N with
 | zero => intro q hq; exact hq
 | succ k ih =>
  intro q hq
  unfold stL
  split
  · exact ih _ (h q hq)
  · exact hq
theorem stN_in {most : Int} {p : Int × (Int × Bool)} (h : inI p.2.1) : inI (stN most p).1 := by unfold stN; split; exact h; exact h
theorem DecodeR_any (s : ByteArray) (a : Int) (w : World) (hs : s.size ≤ 1000000) (h1 : inI a) :
   Calls Tryz.prog 39 #[.string s, .int .i64 a] w (DPost s a w) := by
 have hl : s.data.toList.length ≤ 1000000 := by rw [Array.length_toList]; exact hs
 obtain ⟨B, hB⟩ : ∃ B, Hid (B = w.heap.size) := ⟨_, rfl⟩
 obtain ⟨w1, hw1⟩ : ∃ w1, w1 = ((w.alloc (.cells zG 26)).alloc (.cells #[.string s, .int .i64 a, .bool true] 113)).alloc (.cells zG 26) := ⟨_, rfl⟩
 have z1 : w1.heap.size = B + 3 := by rw [hw1, hB.out]; simp
 obtain ⟨i29, hiV, hzV0, hzV1, hzV2⟩ := info_parts info29
 obtain ⟨i31, hiE, hzE0, hzE1, hzE2⟩ := info_parts info31
 obtain ⟨g, hg⟩ : ∃ g, Hid (g = B + 1 + 1) := ⟨_, rfl⟩
 have hbg : Hid (B + 1 < g) := by show _ < _; rw [hg.out]; omega
 have hS : Hid (GSR w w1 (B + 1) g s (a, true) ⟨[], [], []⟩ (.slice none 0 0) (.slice none 0 0) (.slice none 0 0)) := by
  show GSR _ _ _ _ _ _ _ _ _ _
  refine ⟨?_, ?_, ?_, World.ownsRow_nil _ _ _ _, World.ownsRow_nil _ _ _ _, World.ownsRow_nil _ _ _ _, ?_, by rw [hg.out]; omega⟩
  · unfold RdC
    rw [hw1, hB.out]
    refine al_keep ?_
    have := heap_alloc_new (w.alloc (.cells zG 26)) (.cells #[.string s, .int .i64 a, .bool true] 113)
    simpa using this
  · rw [hw1, hg.out, hB.out]
    have := heap_alloc_new ((w.alloc (.cells zG 26)).alloc (.cells #[.string s, .int .i64 a, .bool true] 113)) (.cells zG 26)
    simpa [zG, nilS] using this
  · rw [hw1]; exact al_keep (al_keep (heap_alloc_new w _))
  · rw [hw1]; exact (((Below.refl _ w).alloc (Nat.le_refl _) _).alloc (by simp) _).alloc (by simp; omega) _
 simp only [zG, nilS] at hw1
 have hw1 := Hd hw1
 have z1 := Hd z1
 have hb1 : Hid (B + 1 = w.heap.size + 1) := by show _ = _; rw [hB.out]
 have kI := Hd (fun W q (hr : RdC W (B + 1) s q) (hi : inI q.1) => rint_any (B + 1) s q W hr hs hi)
 have kE := Hd (fun W q (hr : RdC W (B + 1) s q) (hi : inI q.1) => redgeR_any (B + 1) s q W hr hs hi)
 have kM := Hd (fun W q m (hr : RdC W (B + 1) s q) (hi : inI q.1) (hm : m ≤ 1000) => rmanyR_any (B + 1) s q m W hr hs hi hm)
 have hi := Hd (fun q (h : inI q.1) => stI_in (q := q) hl h)
 have hiE' := Hd (fun q (h : inI q.1) => stE_in (q := q) hl h)
 obtain ⟨P1, hP1⟩ : ∃ P, Hid (P = stM (stV s.data.toList) s.data.toList 24 (a, true)) := ⟨_, rfl⟩
 obtain ⟨P2, hP2⟩ : ∃ P, Hid (P = stM (stE s.data.toList) s.data.toList 40 P1.2) := ⟨_, rfl⟩
 obtain ⟨P3, hP3⟩ : ∃ P, Hid (P = stM (stI s.data.toList) s.data.toList 3 P2.2) := ⟨_, rfl⟩
 have hst : stG s.data.toList (a, true) = (⟨P1.1, P2.1, P3.1⟩, P3.2) := by rw [hP3.out, hP2.out, hP1.out]; rfl
 have l1 : Hid (P1.1.length ≤ 24) := by show _ ≤ _; rw [hP1.out]; exact stM_len _ _ 24 _
 have l2 : Hid (P2.1.length ≤ 40) := by show _ ≤ _; rw [hP2.out]; exact stM_len _ _ 40 _
 have l3 : Hid (P3.1.length ≤ 3) := by show _ ≤ _; rw [hP3.out]; exact stM_len _ _ 3 _
 have hag := agr_g s.data.toList a
 rw [hst] at hag
 have hbad : Hid (∀ W, (P3.2.2 = false ∨ (⟨P1.1, P2.1, P3.1⟩ : Gr).ok = false) → Below w.heap.size w W → DPost s a w (.returned (.tuple #[.agg zG, .int .i64 0, .int .i64 30])) W) := fun W hf Bl => by
  unfold DPost
  cases hr : rGr s.data.toList a with
  | none => exact ⟨rfl, Bl⟩
  | some p =>
    have h := hag.1 p.1 p.2 hr
    have e := h.1
    injection e with e1 e2
    rcases hf with hf | hf
    · rw [e2] at hf; cases hf
    · rw [e1, h.2] at hf; cases hf
 have hgood : Hid (∀ W x y z, P3.2.2 = true → (⟨P1.1, P2.1, P3.1⟩ : Gr).ok = true → OwnV W w.heap.size x P1.1 → OwnEd W w.heap.size y P2.1 → OwnI W w.heap.size z P3.1 → Below w.heap.size w W → DPost s a w (.returned (.tuple #[.agg #[x, y, z], .int .i64 P3.2.1, .int .i64 0])) W) := fun W x y z hf hk ox oy oz Bl => by
  unfold DPost
  cases hr : rGr s.data.toList a with
  | none =>
    rcases hag.2 hr with h | h
    · simp only at h; rw [h] at hf; cases hf
    · simp only at h; rw [h] at hk; cases hk
  | some p =>
    obtain ⟨G, m⟩ := p
    have e := (hag.1 G m hr).1
    injection e with e1 e2
    subst e1
    rw [e2]
    exact ⟨x, y, z, rfl, ox, oy, oz, Bl⟩
 clear hag hst
 have i0 := Hd h1
 clear hs h1 hl
 go_enter Tryz.func39, Tryz.ntmps39
 go_wp2_with fail
 rw [← hw1.out, ← hB.out, ← hg.out]
 obtain ⟨n1, hn1⟩ : ∃ p, Hid (p = stI s.data.toList (a, true)) := ⟨_, rfl⟩
 have j1 := Hd (hn1.out ▸ hi.out (a, true) i0.out)
 have c1 := Hd (hn1.out ▸ kI.out w1 (a, true) hS.out.rd i0.out)
 refine c1.out.mono ?_
 rintro e w2 ⟨rfl, r2, k2⟩
 have hS := Hd (hS.out.call r2 k2 hb1.out hbg.out)
 clear r2 k2 c1
 obtain ⟨cc, hcc⟩ : ∃ c : Bool, Hid (c = decide (n1.1 < 0 ∨ 24 < n1.1)) := ⟨_, rfl⟩
 go_upto_region 4 with (fail)
 go_cut [26] from 22 to 26 (fun c wx => c = .bool cc ∧ wx = w2)
 case first =>
  have hc : n1.1 < 0 ∨ (0 ≤ n1.1 ∧ 24 < n1.1) ∨ (0 ≤ n1.1 ∧ n1.1 ≤ 24) := by omega
  rcases hc with h0 | ⟨h0, h1⟩ | ⟨h0, h1⟩
  · have e : cc = true := by rw [hcc.out]; simp [h0]
    subst e
    go_wp2_with fail
    go_meet
    case rel => exact ⟨rfl, rfl⟩
  · have e : cc = true := by rw [hcc.out]; simp [h1]
    subst e
    have d0 : ¬ n1.1 < 0 := by omega
    go_wp2_with fail
    go_meet
    case rel => exact ⟨rfl, rfl⟩
  · have e : cc = false := by rw [hcc.out, decide_eq_false_iff_not]; omega
    subst e
    have d0 : ¬ n1.1 < 0 := by omega
    have d1 : ¬ 24 < n1.1 := by omega
    go_wp2_with fail
    go_meet
    case rel => exact ⟨rfl, rfl⟩
 case rest =>
 obtain ⟨rfl, rfl⟩ := hcut
 go_upto_if 26 with (fail)
 go_cut [] from 27 to 29 (fun wx => GSR w wx (B + 1) g s (stN 24 n1) ⟨[], [], []⟩ (.slice none 0 0) (.slice none 0 0) (.slice none 0 0))
 case first =>
  cases cc with
  | false =>
   have e0 : Hid (stN 24 n1 = n1.2) := by show _ = _; unfold stN; rw [if_neg (of_decide_eq_false hcc.out.symm)]
   go_wp2_with fail
   go_meet
   case rel => rw [e0.out]; exact hS.out
  | true =>
   have e0 : Hid (stN 24 n1 = (n1.2.1, false)) := by show _ = _; unfold stN; rw [if_pos (of_decide_eq_true hcc.out.symm)]
   have fr := frozen_of_row _ (B + 1) 2 _ _ hS.out.rd
   have c2 := hS.out.rd.cells.2.2
   have hS2 := Hd (hS.out.setF false hb1.out hbg.out)
   go_wp2_with fail
   go_meet
   case rel => rw [e0.out]; exact hS2.out
 case rest =>
 clear hS
 have hS := Hd hcut
 have hin0 : Hid (inI (stN 24 n1).1) := stN_in j1.out.1
 have hm1 : Hid (n1.1 ≤ 1000 ∨ (stN 24 n1).2 = false) := by
  show _ ∨ _
  unfold stN
  split
  · exact .inr rfl
  · exact .inl (by omega)
 clear hcut hcc
 go_wp2_with fail
 go_loopw [10] (fun i wr => ∃ (k : Nat) (q' : Int × Bool) (L : List Vx) (x : Value), k ≤ n1.1.toNat ∧ i = .int .i64 k ∧ Hid (P1 = (L ++ (stL (stV s.data.toList) (n1.1.toNat - k) q').1, (stL (stV s.data.toList) (n1.1.toNat - k) q').2)) ∧ L.length = k ∧ Hid (GSR w wr (B + 1) g s q' ⟨L, [], []⟩ x (.slice none 0 0) (.slice none 0 0)) ∧ Hid (inI q'.1) ∧ Hid (n1.1 ≤ 1000 ∨ q'.2 = false)) (fun i _ => n1.1.toNat - (intOf i).toNat)
 case atStart => exact ⟨0, stN 24 n1, [], (.slice none 0 0), Nat.zero_le _, rfl, by show _ = _; rw [hP1.out]; unfold stM; rw [← hn1.out]; simp, rfl, hS, hin0, hm1⟩
 case round =>
  obtain ⟨_, q', L, x, hk, rfl, hrun, rfl, hS1, hin, hm⟩ := hrel
  obtain ⟨k, hkk⟩ : ∃ k, Hid (k = L.length) := ⟨_, rfl⟩
  rw [← hkk.out] at hk hrun ⊢
  have hk := Hd hk
  obtain ⟨xa, xc, hx⟩ := hS1.out.ox.VL.shape
  replace hx : x = .slice xa k xc := by rw [hkk.out]; exact hx
  subst hx
  have c2 := hS1.out.rd.cells.2.2
  obtain ⟨cc, hcc⟩ : ∃ c : Bool, Hid (c = (decide ((k : Int) < n1.1) && q'.2)) := ⟨_, rfl⟩
  go_upto_region 7 with (fail)
  go_cut [38] from 30 to 51 (fun c wx => c = .bool cc ∧ wx = wr)
  case first =>
   cases hd : decide ((k : Int) < n1.1) with
   | false =>
    have e : cc = false := by rw [hcc.out, hd]; rfl
    subst e
    go_wp2_with fail
    go_meet
    case rel => exact ⟨rfl, rfl⟩
   | true =>
    cases hf : q'.2 with
    | false =>
     have e : cc = false := by rw [hcc.out, hd, hf]; rfl
     rw [hf] at c2
     subst e
     clear hf
     go_wp2_with (refine wpList_fa (b := B + 1) (.tmp 35) rfl rfl rfl ?_)
     go_meet
     case rel => exact ⟨rfl, rfl⟩
    | true =>
     have e : cc = true := by rw [hcc.out, hd, hf]; rfl
     rw [hf] at c2
     subst e
     clear hf
     go_wp2_with (refine wpList_fa (b := B + 1) (.tmp 35) rfl rfl rfl ?_)
     go_meet
     case rel => exact ⟨rfl, rfl⟩
  case rest =>
  obtain ⟨rfl, rfl⟩ := hcut
  obtain ⟨wr, rfl⟩ : ∃ wr', wr' = wc := ⟨_, rfl⟩
  clear c2
  cases cc with
  | true =>
   have hcc2 : (k : Int) < n1.1 ∧ q'.2 = true := by have := hcc.out.symm; simpa using this
   have hlt := Hd hcc2.1
   have hal := Hd hcc2.2
   clear hcc hcc2
   have hn : Hid (n1.1 ≤ 1000) := by
    rcases hm.out with h | h
    · exact h
    · rw [hal.out] at h; cases h
   have hkb : (k : Int) < 1000 := by have := hlt.out; have := hn.out; omega
   have hst := Hd (stL_step (stV s.data.toList) n1.1.toNat k q' P1 L (by have := hlt.out; omega) hal.out hrun.out)
   obtain ⟨p, hp⟩ : ∃ p, Hid (p = stI s.data.toList q') := ⟨_, rfl⟩
   have ip := Hd (hp.out ▸ hi.out q' hin.out)
   have cp := Hd (hp.out ▸ kI.out wr q' hS1.out.rd hin.out)
   obtain ⟨p', hp'⟩ : ∃ p', Hid (p' = stI s.data.toList p.2) := ⟨_, rfl⟩
   have ip' := Hd (hp'.out ▸ hi.out p.2 ip.out.1)
   have cp' := Hd (fun W (hr : RdC W (B + 1) s p.2) => hp'.out ▸ kI.out W p.2 hr ip.out.1)
   have hsv : stV s.data.toList q' = (⟨p.1, p'.1⟩, p'.2) := by unfold stV; rw [← hp.out, ← hp'.out]
   rw [hsv] at hst
   clear hsv hp hp' hrun hm hin
   go_wp2_with fail
   refine cp.out.mono ?_
   rintro e w3 ⟨rfl, r3, k3⟩
   have hS2 := Hd (hS1.out.call r3 k3 hb1.out hbg.out)
   clear r3 k3 cp
   go_upto_region 10 with (fail)
   refine wp_region_F (fun W => W.heap[g]? = some (.cells #[.slice xa k xc, .slice none 0 0, .slice none 0 0] 26 (0, 0))) 9 (by kernel_rfl) hS2.out.drew.box (fun hHeld => ?_)
   refine tkP 0 rfl ?_
   refine tkP 1 rfl ?_ (by (intro w h; obtain ⟨⟨u0, u1, u2⟩, _⟩ := box3c h; clear h; go_simp) <;> with_reducible rfl)
   refine tkP 2 rfl ?_
   refine tkP 3 rfl ?_
   refine rdy [4] ?_
   refine arC rfl (fun K hK => ?_) AllReadyF.nil
   go_simp
   refine (cp'.out _ hS2.out.drew.rd).mono ?_
   rintro e w4 ⟨rfl, r4, k4⟩
   have hS3 := Hd (hS2.out.drew.call r4 k4 hb1.out hbg.out)
   clear r4 k4 hS2 cp'
   go_wp2_with fail
   refine hK.out _ _ hS3.out.box (fun hHeld => ?_)
   clear hK K
   try simp only [Act.put, zT, z0, zS]
   refine tkP 5 rfl ?_
   refine rdy [6] ?_
   refine arC rfl (fun K hK => ?_) AllReadyF.nil
   go_simp
   go_wp2_with fail
   refine hK.out _ _ (al_keep hS3.out.box) (fun hHeld => ?_)
   clear hK K
   try simp only [Act.put, zT, z0, zS]
   refine rdy [7] ?_
   refine arC rfl (fun K hK => ?_) AllReadyF.nil
   have hq5 : w4.ownsRow (g + 1) 29 2 (.slice xa k xc) k (cVx L) := by have q := hS3.out.ox; unfold OwnV at q; rw [← hkk.out] at q; exact q
   obtain ⟨ga, cap, w5, hr5, ho5, hg5⟩ := snocX (g + 1) 22 29 i29 _ 2 16 Tryz.underlying22 hiV hzV0 hzV1 hzV2 rfl (by omega) (by omega) w4 (.slice xa k xc) k (cVx L) #[.int .i64 p.1, .int .i64 p'.1] rfl (by simp [Value.oneCell']) hq5 (by omega) hS3.out.sz
   obtain ⟨hold5, hz5, hB5⟩ := hS3.out.grow hg5 hq5 hb1.out hbg.out
   have hox : OwnV w5 (g + 1) (.slice (some ⟨ga, 0, none⟩) (k + 1) cap) (L ++ [⟨p.1, p'.1⟩]) := by
    show World.ownsRow _ _ _ _ _ _ _
    rw [List.length_append, ← hkk.out]
    simpa [cVx, vxCells] using ho5
   obtain ⟨hrd5, hbx5, hS5⟩ := hS3.out.up hb1.out hbg.out hold5 hz5 hB5 (G' := ⟨L ++ [⟨p.1, p'.1⟩], [], []⟩) (v := .slice (some ⟨ga, 0, none⟩) (k + 1) cap) 0 rfl hox (World.ownsRow_nil _ _ _ _) (World.ownsRow_nil _ _ _ _)
   have hS5 := Hd hS5
   obtain ⟨⟨f0, f1, f2⟩, f3, f4, f5⟩ := box3c hbx5
   clear hS3 hB5 hold5 ho5 hz5 hox hg5 hq5
   refine wp_append_run (.tmp 44) (.tmp 49) 22 rfl (.slice xa k xc) (.slice (some ⟨w4.heap.size, 0, none⟩) 1 1) rfl rfl _ _ hr5 ?_
   refine hK.out _ _ hbx5 (fun hHeld => ?_)
   clear hK K
   try simp only [Act.put, zT, z0, zS]
   refine tkP 8 rfl ?_
   refine rdy [9] ?_
   refine AllReadyF.last (o := ⟨none, .store 22 (.tmp 51) (.tmp 50), _, _, _, none⟩) rfl (fun K hK => ?_) AllReadyF.nil
   go_simp
   go_wp2_with fail
   refine hK.out _ _ ?_
   clear hK K hbx5 hrd5 hr5 hHeld
   try simp only [Act.put, zT, z0, zS]
   refine wpAnyF_done (by kernel_rfl) ?_ _
   go_wp2_with fail
   go_roundw
   case rel => exact ⟨k + 1, p'.2, L ++ [⟨p.1, p'.1⟩], _, by have := hlt.out; omega, by go_num, hst, by rw [List.length_append, ← hkk.out]; rfl, hS5, Hd ip'.out.1, Hd (.inl hn.out)⟩
   case measure => have := hlt.out; simp [intOf]; omega
  | false =>
   have hcc2 : n1.1.toNat ≤ k ∨ q'.2 = false := by
    have := hcc.out.symm
    by_cases h : (k : Int) < n1.1
    · right; simpa [h] using this
    · left; omega
   have hfin := Hd (stL_end _ _ _ _ _ _ hcc2 hrun.out)
   clear hcc hcc2 hrun
   obtain ⟨xV, hS⟩ : ∃ xV, Hid (GSR w wr (B + 1) g s P1.2 ⟨P1.1, [], []⟩ xV (.slice none 0 0) (.slice none 0 0)) := ⟨_, by show GSR _ _ _ _ _ _ _ _ _ _; rw [hfin.out]; exact hS1.out⟩
   have hin1 : Hid (inI P1.2.1) := by show inI _; rw [hfin.out]; exact hin.out
   clear hS1 hin hm hk hkk hfin hP1
   go_wp2_with fail
   obtain ⟨n2, hn2⟩ : ∃ p, Hid (p = stI s.data.toList P1.2) := ⟨_, rfl⟩
   have j2 := Hd (hn2.out ▸ hi.out P1.2 hin1.out)
   have c1 := Hd (hn2.out ▸ kI.out wr P1.2 hS.out.rd hin1.out)
   refine c1.out.mono ?_
   rintro e w3 ⟨rfl, r2, k2⟩
   have hS := Hd (hS.out.call r2 k2 hb1.out hbg.out)
   clear r2 k2 c1
   obtain ⟨cc, hcc⟩ : ∃ c : Bool, Hid (c = decide (n2.1 < 0 ∨ 40 < n2.1)) := ⟨_, rfl⟩
   go_upto_region 12 with (fail)
   go_cut [59] from 54 to 59 (fun c wx => c = .bool cc ∧ wx = w3)
   case first =>
    have hc : n2.1 < 0 ∨ (0 ≤ n2.1 ∧ 40 < n2.1) ∨ (0 ≤ n2.1 ∧ n2.1 ≤ 40) := by omega
    rcases hc with h0 | ⟨h0, h1⟩ | ⟨h0, h1⟩
    · have e : cc = true := by rw [hcc.out]; simp [h0]
      subst e
      go_wp2_with fail
      go_meet
      case rel => exact ⟨rfl, rfl⟩
    · have e : cc = true := by rw [hcc.out]; simp [h1]
      subst e
      have d0 : ¬ n2.1 < 0 := by omega
      go_wp2_with fail
      go_meet
      case rel => exact ⟨rfl, rfl⟩
    · have e : cc = false := by rw [hcc.out, decide_eq_false_iff_not]; omega
      subst e
      have d0 : ¬ n2.1 < 0 := by omega
      have d1 : ¬ 40 < n2.1 := by omega
      go_wp2_with fail
      go_meet
      case rel => exact ⟨rfl, rfl⟩
   case rest =>
   obtain ⟨rfl, rfl⟩ := hcut
   go_upto_if 59 with (fail)
   go_cut [] from 60 to 62 (fun wx => GSR w wx (B + 1) g s (stN 40 n2) ⟨P1.1, [], []⟩ xV (.slice none 0 0) (.slice none 0 0))
   case first =>
    cases cc with
    | false =>
     have e0 : Hid (stN 40 n2 = n2.2) := by show _ = _; unfold stN; rw [if_neg (of_decide_eq_false hcc.out.symm)]
     go_wp2_with fail
     go_meet
     case rel => rw [e0.out]; exact hS.out
    | true =>
     have e0 : Hid (stN 40 n2 = (n2.2.1, false)) := by show _ = _; unfold stN; rw [if_pos (of_decide_eq_true hcc.out.symm)]
     have fr := frozen_of_row _ (B + 1) 2 _ _ hS.out.rd
     have c2 := hS.out.rd.cells.2.2
     have hS2 := Hd (hS.out.setF false hb1.out hbg.out)
     go_wp2_with fail
     go_meet
     case rel => rw [e0.out]; exact hS2.out
   case rest =>
   clear hS
   have hS := Hd hcut
   have hinE : Hid (inI (stN 40 n2).1) := stN_in j2.out.1
   have hm2 : Hid (n2.1 ≤ 1000 ∨ (stN 40 n2).2 = false) := by
    show _ ∨ _
    unfold stN
    split
    · exact .inr rfl
    · exact .inl (by omega)
   clear hcut hcc
   go_wp2_with fail
   go_loopw [13] (fun i wr => ∃ (k : Nat) (q' : Int × Bool) (L : List Ed) (x : Value), k ≤ n2.1.toNat ∧ i = .int .i64 k ∧ Hid (P2 = (L ++ (stL (stE s.data.toList) (n2.1.toNat - k) q').1, (stL (stE s.data.toList) (n2.1.toNat - k) q').2)) ∧ L.length = k ∧ Hid (GSR w wr (B + 1) g s q' ⟨P1.1, L, []⟩ xV x (.slice none 0 0)) ∧ Hid (inI q'.1) ∧ Hid (n2.1 ≤ 1000 ∨ q'.2 = false)) (fun i _ => n2.1.toNat - (intOf i).toNat)
   case atStart => exact ⟨0, stN 40 n2, [], (.slice none 0 0), Nat.zero_le _, rfl, by show _ = _; rw [hP2.out]; unfold stM; rw [← hn2.out]; simp, rfl, hS, hinE, hm2⟩
   case round =>
    obtain ⟨_, q', L, x, hk, rfl, hrun, rfl, hS1, hin, hm⟩ := hrel
    obtain ⟨k, hkk⟩ : ∃ k, Hid (k = L.length) := ⟨_, rfl⟩
    rw [← hkk.out] at hk hrun ⊢
    have hk := Hd hk
    obtain ⟨xa, xc, hx⟩ := hS1.out.oy.EL.shape
    replace hx : x = .slice xa k xc := by rw [hkk.out]; exact hx
    subst hx
    have c2 := hS1.out.rd.cells.2.2
    obtain ⟨cc, hcc⟩ : ∃ c : Bool, Hid (c = (decide ((k : Int) < n2.1) && q'.2)) := ⟨_, rfl⟩
    go_upto_region 15 with (fail)
    go_cut [71] from 63 to 80 (fun c wx => c = .bool cc ∧ wx = wr)
    case first =>
     cases hd : decide ((k : Int) < n2.1) with
     | false =>
      have e : cc = false := by rw [hcc.out, hd]; rfl
      subst e
      go_wp2_with fail
      go_meet
      case rel => exact ⟨rfl, rfl⟩
     | true =>
      cases hf : q'.2 with
      | false =>
       have e : cc = false := by rw [hcc.out, hd, hf]; rfl
       rw [hf] at c2
       subst e
       clear hf
       go_wp2_with (refine wpList_fa (b := B + 1) (.tmp 68) rfl rfl rfl ?_)
       go_meet
       case rel => exact ⟨rfl, rfl⟩
      | true =>
       have e : cc = true := by rw [hcc.out, hd, hf]; rfl
       rw [hf] at c2
       subst e
       clear hf
       go_wp2_with (refine wpList_fa (b := B + 1) (.tmp 68) rfl rfl rfl ?_)
       go_meet
       case rel => exact ⟨rfl, rfl⟩
    case rest =>
    obtain ⟨rfl, rfl⟩ := hcut
    obtain ⟨wr, rfl⟩ : ∃ wr', wr' = wc := ⟨_, rfl⟩
    clear c2
    cases cc with
    | true =>
     have hcc2 : (k : Int) < n2.1 ∧ q'.2 = true := by have := hcc.out.symm; simpa using this
     have hlt := Hd hcc2.1
     have hal := Hd hcc2.2
     clear hcc hcc2
     have hn : Hid (n2.1 ≤ 1000) := by
      rcases hm.out with h | h
      · exact h
      · rw [hal.out] at h; cases h
     have hkb : (k : Int) < 1000 := by have := hlt.out; have := hn.out; omega
     have hst := Hd (stL_step (stE s.data.toList) n2.1.toNat k q' P2 L (by have := hlt.out; omega) hal.out hrun.out)
     obtain ⟨p, hp⟩ : ∃ p, Hid (p = stE s.data.toList q') := ⟨_, rfl⟩
     have ip := Hd (hp.out ▸ hiE'.out q' hin.out)
     have cp := Hd (fun W (hr : RdC W (B + 1) s q') => hp.out ▸ kE.out W q' hr hin.out)
     rw [← hp.out] at hst
     clear hp hrun hm hin
     go_upto_region 17 with (fail)
     refine wp_region_F (fun W => W.heap[g]? = some (.cells #[xV, .slice xa k xc, .slice none 0 0] 26 (0, 0))) 7 (by kernel_rfl) hS1.out.drew.box (fun hHeld => ?_)
     refine tkP 0 rfl ?_
     refine tkP 1 rfl ?_ (by (intro w h; obtain ⟨⟨u0, u1, u2⟩, _⟩ := box3c h; clear h; go_simp) <;> with_reducible rfl)
     refine tkP 2 rfl ?_
     refine rdy [3] ?_
     refine arC rfl (fun K hK => ?_) AllReadyF.nil
     go_simp
     refine (cp.out _ hS1.out.drew.rd).mono ?_
     rintro e w4 ⟨rfl, r4, k4⟩
     have hS3 := Hd (hS1.out.drew.call r4 k4 hb1.out hbg.out)
     clear r4 k4 cp
     unfold edCells
     go_wp2_with fail
     refine hK.out _ _ hS3.out.box (fun hHeld => ?_)
     clear hK K
     try simp only [Act.put, zT, z0, zS]
     refine rdy [4] ?_
     refine arC rfl (fun K hK => ?_) AllReadyF.nil
     go_simp
     go_wp2_with fail
     refine hK.out _ _ (al_keep hS3.out.box) (fun hHeld => ?_)
     clear hK K
     try simp only [Act.put, zT, z0, zS]
     refine rdy [5] ?_
     refine arC rfl (fun K hK => ?_) AllReadyF.nil
     have hq5 : w4.ownsRow (g + 1) 31 6 (.slice xa k xc) k (cEd L) := by have q := hS3.out.oy; unfold OwnEd at q; rw [← hkk.out] at q; exact q
     obtain ⟨ga, cap, w5, hr5, ho5, hg5⟩ := snocX (g + 1) 23 31 i31 _ 6 48 Tryz.underlying23 hiE hzE0 hzE1 hzE2 rfl (by omega) (by omega) w4 (.slice xa k xc) k (cEd L) #[.int .i64 p.1.id, .int .i64 p.1.src, .int .i64 p.1.dst, .bool p.1.dir, .int .i64 p.1.wt, .int .i64 p.1.cap] rfl (by simp [Value.oneCell']) hq5 (by omega) hS3.out.sz
     obtain ⟨hold5, hz5, hB5⟩ := hS3.out.grow hg5 hq5 hb1.out hbg.out
     have hoy : OwnEd w5 (g + 1) (.slice (some ⟨ga, 0, none⟩) (k + 1) cap) (L ++ [p.1]) := by
      show World.ownsRow _ _ _ _ _ _ _
      rw [List.length_append, ← hkk.out]
      simpa [cEd, edCells] using ho5
     have hox : OwnV w5 (g + 1) xV P1.1 := own_grown hg5 hq5 hS3.out.ox (by decide)
     obtain ⟨hrd5, hbx5, hS5⟩ := hS3.out.up hb1.out hbg.out hold5 hz5 hB5 (G' := ⟨P1.1, L ++ [p.1], []⟩) (v := .slice (some ⟨ga, 0, none⟩) (k + 1) cap) 1 rfl hox hoy (World.ownsRow_nil _ _ _ _)
     have hS5 := Hd hS5
     obtain ⟨⟨f0, f1, f2⟩, f3, f4, f5⟩ := box3c hbx5
     clear hS3 hB5 hold5 ho5 hz5 hox hoy hg5 hq5
     refine wp_append_run (.tmp 75) (.tmp 78) 23 rfl (.slice xa k xc) (.slice (some ⟨w4.heap.size, 0, none⟩) 1 1) rfl rfl _ _ hr5 ?_
     refine hK.out _ _ hbx5 (fun hHeld => ?_)
     clear hK K
     try simp only [Act.put, zT, z0, zS]
     refine tkP 6 rfl ?_
     refine rdy [7] ?_
     refine AllReadyF.last (o := ⟨none, .store 23 (.tmp 80) (.tmp 79), _, _, _, none⟩) rfl (fun K hK => ?_) AllReadyF.nil
     go_simp
     go_wp2_with fail
     refine hK.out _ _ ?_
     clear hK K hbx5 hrd5 hr5 hHeld
     try simp only [Act.put, zT, z0, zS]
     refine wpAnyF_done (by kernel_rfl) ?_ _
     go_wp2_with fail
     go_roundw
     case rel => exact ⟨k + 1, p.2, L ++ [p.1], _, by have := hlt.out; omega, by go_num, hst, by rw [List.length_append, ← hkk.out]; rfl, hS5, ip, Hd (.inl hn.out)⟩
     case measure => have := hlt.out; simp [intOf]; omega
    | false =>
     have hcc2 : n2.1.toNat ≤ k ∨ q'.2 = false := by
      have := hcc.out.symm
      by_cases h : (k : Int) < n2.1
      · right; simpa [h] using this
      · left; omega
     have hfin := Hd (stL_end _ _ _ _ _ _ hcc2 hrun.out)
     clear hcc hcc2 hrun
     obtain ⟨yV, hS⟩ : ∃ yV, Hid (GSR w wr (B + 1) g s P2.2 ⟨P1.1, P2.1, []⟩ xV yV (.slice none 0 0)) := ⟨_, by show GSR _ _ _ _ _ _ _ _ _ _; rw [hfin.out]; exact hS1.out⟩
     have hin2 : Hid (inI P2.2.1) := by show inI _; rw [hfin.out]; exact hin.out
     clear hS1 hin hm hk hkk hfin hP2
     have c3 := Hd (hP3.out ▸ kM.out wr P2.2 3 hS.out.rd hin2.out (by omega))
     go_wp2_with fail
     refine c3.out.mono ?_
     rintro e w6 ⟨v3, rfl, o3, r3, k3⟩
     obtain ⟨za, zc, rfl⟩ := o3.DL.shape
     have o3 := Hd (own_le o3 (Nat.succ_le_of_lt hS.out.sz))
     have hS := Hd (hS.out.call r3 k3 hb1.out hbg.out)
     clear r3 k3 c3
     obtain ⟨x1, x2, ex⟩ := hS.out.ox.VL.shape
     obtain ⟨y1, y2, ey⟩ := hS.out.oy.EL.shape
     subst ex ey
     obtain ⟨⟨f0, f1, f2⟩, f3, f4, f5⟩ := box3c hS.out.box
     have hS := Hd (hS.out.set 2 (.slice za P3.1.length zc) (G' := ⟨P1.1, P2.1, P3.1⟩) hb1.out hbg.out rfl hS.out.ox hS.out.oy o3.out)
     have hres := hS.out.res
     rw [← hB.out] at hres
     have hres := Hd hres
     have rc := hS.out.rd.cells.2.2
     have hle : Hid (w.heap.size ≤ B) := by show _ ≤ _; rw [hB.out]; exact Nat.le_refl _
     cases hf : P3.2.2 with
     | false =>
      rw [hf] at rc
      have hF := Hd (hbad.out _ (.inl hf) (below_setRow' hS.out.bel hle.out zG))
      clear hf hS hgood hbad o3
      go_wp2_with (refine wpList_store_row rfl 26 (.tmp 4) (.tmp 94) rfl B zG rfl rfl 26 _ hres.out info26' rfl zG_all ?_)
      refine bodyPost_ret (results_cell_tmp2_row (fn := Tryz.f39) rfl _ _ B 26 zG (0, 0) _ _ _ rfl rfl rfl (setRow_heap _ _ _ _ _ _ hres.out) Tryz.underlying26 rfl info26') rfl ?_
      exact hF.out
     | true =>
      rw [hf] at rc
      have hf := Hd hf
      have kV := Hd (ValidR_any (.agg #[.slice x1 P1.1.length x2, .slice y1 P2.1.length y2, .slice za P3.1.length zc]) ⟨P1.1, P2.1, P3.1⟩ _ ⟨_, _, _, rfl, hS.out.ox.VL, hS.out.oy.EL, hS.out.oz.DL⟩ ⟨by have := l1.out; simp only; omega, by have := l2.out; simp only; omega, by have := l3.out; simp only; omega⟩)
      have hb2 := Hd (box3c hS.out.box)
      go_upto_region 19 with (fail)
      clear f0 f1 f2 f3 f4 f5
      obtain ⟨⟨f0, f1, f2⟩, f3, f4, f5⟩ := hb2.out
      go_wp2_with fail
      refine kV.out.mono ?_
      rintro e w7 ⟨rfl, b7⟩
      have hS := Hd (hS.out.call (hS.out.rd.below b7) (KR.of b7 (Nat.le_of_lt hS.out.rd.lt)) hb1.out hbg.out)
      have hres := hS.out.res
      rw [← hB.out] at hres
      have hres := Hd hres
      clear f0 f1 f2 f3 f4 f5 b7 kV rc hb2
      cases hk : (⟨P1.1, P2.1, P3.1⟩ : Gr).ok with
      | false =>
       have hF := Hd (hbad.out _ (.inr hk) (below_setRow' hS.out.bel hle.out zG))
       clear hf hS hgood hbad o3 hk
       go_wp2_with (refine wpList_store_row rfl 26 (.tmp 4) (.tmp 94) rfl B zG rfl rfl 26 _ hres.out info26' rfl zG_all ?_)
       refine bodyPost_ret (results_cell_tmp2_row (fn := Tryz.f39) rfl _ _ B 26 zG (0, 0) _ _ _ rfl rfl rfl (setRow_heap _ _ _ _ _ _ hres.out) Tryz.underlying26 rfl info26') rfl ?_
       exact hF.out
      | true =>
       have hSd := Hd hS.out.drew
       have hq3 := hSd.out.fin hb1.out hbg.out #[.slice x1 P1.1.length x2, .slice y1 P2.1.length y2, .slice za P3.1.length zc] hB.out
       have hF := Hd (hgood.out _ _ _ _ hf.out hk hq3.1 hq3.2.1 hq3.2.2.1 hq3.2.2.2)
       have hresd : Hid (_ = some (Obj.cells zG 26 (0, 0))) := Hd (show _ from hres.out)
       have hne : Hid (g ≠ B ∧ B + 1 ≠ B) := by show _ ∧ _; have := hbg.out; omega
       have hS0 : Hid (_ ∧ _) := Hd (And.intro hSd.out.rd hSd.out.box)
       clear hf hgood hbad hq3 hres hk
       go_upto_region 21 with (fail)
       refine wp_region_F (fun W => RdC W (B + 1) s P3.2 ∧ W.heap[g]? = some (.cells #[.slice x1 P1.1.length x2, .slice y1 P2.1.length y2, .slice za P3.1.length zc] 26 (0, 0))) 999 (by kernel_rfl) hS0.out (fun hHeld => ?_)
       clear hS hSd
       refine tkP 0 rfl ?_ (by (intro w h; obtain ⟨⟨u0, u1, u2⟩, _⟩ := box3c h.2; clear h; go_simp) <;> with_reducible rfl)
       refine tkP 1 rfl ?_
       refine tkP 2 rfl ?_
       refine tkP 3 rfl ?_
       refine tkP 4 rfl ?_ (by (intro w h; have u := h.1.cells.2.1; clear h; go_simp) <;> with_reducible rfl)
       refine rdy [5] ?_
       refine arC rfl (fun K hK => ?_) AllReadyF.nil
       refine wp_store_row 26 (.tmp 4) (.tmp 95) rfl B #[.slice x1 P1.1.length x2, .slice y1 P2.1.length y2, .slice za P3.1.length zc] rfl rfl 26 _ hresd.out (size26b _ _ _) rfl (by simp [Value.oneCell']) ?_
       refine hK.out _ _ ⟨(setRow_other _ _ _ _ hne.out.2).trans hHeld.1, (setRow_other _ _ _ _ hne.out.1).trans hHeld.2⟩ (fun hHeld => ?_)
       clear hK K
       try simp only [Act.put, zT, z0, zS]
       refine tkP 6 rfl ?_
       refine tkP 7 rfl ?_
       refine wpAnyF_done (by kernel_rfl) ?_ _
       go_wp2_with fail
       refine bodyPost_ret (results_cell_tmp2_row (fn := Tryz.f39) rfl _ _ B 26 #[.slice x1 P1.1.length x2, .slice y1 P2.1.length y2, .slice za P3.1.length zc] (0, 0) _ _ _ rfl rfl rfl (setRow_heap _ _ _ _ _ _ hresd.out) Tryz.underlying26 rfl (size26b _ _ _)) rfl ?_
       exact hF.out
end Go.Proofs.YtlaldnlgapeckaaGreat
