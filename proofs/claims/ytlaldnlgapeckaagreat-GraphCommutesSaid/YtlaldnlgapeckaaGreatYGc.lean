/- Contracts and facts. -/
import Derived.Test.YtlaldnlgapeckaaGreatYMc
import Derived.Test.YtlaldnlgapeckaaGreatYS
import Derived.Test.YtlaldnlgapeckaaGreatYX
import Derived.Deep.CutRange
namespace Go.Proofs.YtlaldnlgapeckaaGreat
open Go.RowKit
theorem L5.below {W W' : World} {v : Value} {l : List F5} (h : L5 W v l) (B : Below W.heap.size W W') : L5 W' v l := by
  rcases h with h | ⟨h1, b, o, c, h2, h3, h4, h5⟩
  · exact .inl h
  · exact .inr ⟨h1, b, o, c, h2, h3, Nat.lt_of_lt_of_le h4 B.size, fun j r e i u hu => by rw [B.cell (by simpa using h4)]; exact h5 j r e i u hu⟩
theorem own_setO {W : World} {B n e k : Nat} {v : Value} {xs : List Value} (h : W.ownsRow B e k v n xs) {g : Nat} (hg : g < B) (i : Nat) (u : Value) : (W.setCell ⟨g, i, none⟩ u).ownsRow B e k v n xs :=
  ownsRow_setCell_other h (fun e2 => by have := (own_row h g e2).1; omega) u
theorem chDepN_le (ks : List Int) (d : Int) : ∀ f k, chDepN ks d f k ≤ k + f := by
  intro f
  induction f with
  | zero => intro k; exact Nat.le_refl _
  | succ f ih => intro k; unfold chDepN; split; · have := ih (k + 1); omega
                 · omega
theorem changed_len (g : Gr) (x : F6) (h : g.vs.length ≤ 1000) : (changedC g x).ends.length ≤ 80 ∧ (changedC g x).deps.length ≤ 1000 := by
  have h1 := chEnds_len g.es (chId g x) x.e 80
  have h2 := chDeps_len (keysV g.vs) x.d (chDepN (keysV g.vs) x.d g.vs.length 0)
  have h3 := chDepN_le (keysV g.vs) x.d g.vs.length 0
  unfold changedC
  dsimp only
  repeat' split
  all_goals (simp only [zC]; first | (simp; done) | exact ⟨h1, by simp⟩ | exact ⟨by simp, by omega⟩)
theorem lc_two {W : World} {c d : Ch} {a b a' b' : Value} (h1 : DL W a c.ends) (h2 : DL W b c.deps) (h3 : DL W a' d.ends) (h4 : DL W b' d.deps) : LC (W.alloc (.cells #[.int .i64 c.kind, .int .i64 c.v.id, .int .i64 c.v.side, .int .i64 c.e.id, .int .i64 c.e.src, .int .i64 c.e.dst, .bool c.e.dir, .int .i64 c.e.wt, .int .i64 c.e.cap, .int .i64 c.id, .int .i64 c.n, a, b, .int .i64 d.kind, .int .i64 d.v.id, .int .i64 d.v.side, .int .i64 d.e.id, .int .i64 d.e.src, .int .i64 d.e.dst, .bool d.e.dir, .int .i64 d.e.wt, .int .i64 d.e.cap, .int .i64 d.id, .int .i64 d.n, a', b'] 33)) (.slice (some ⟨W.heap.size, 0, none⟩) 2 2) [c, d] := by
  have B : Below W.heap.size W (W.alloc (.cells #[.int .i64 c.kind, .int .i64 c.v.id, .int .i64 c.v.side, .int .i64 c.e.id, .int .i64 c.e.src, .int .i64 c.e.dst, .bool c.e.dir, .int .i64 c.e.wt, .int .i64 c.e.cap, .int .i64 c.id, .int .i64 c.n, a, b, .int .i64 d.kind, .int .i64 d.v.id, .int .i64 d.v.side, .int .i64 d.e.id, .int .i64 d.e.src, .int .i64 d.e.dst, .bool d.e.dir, .int .i64 d.e.wt, .int .i64 d.e.cap, .int .i64 d.id, .int .i64 d.n, a', b'] 33)) := (Below.refl _ W).alloc (Nat.le_refl _) _
  refine Or.inr ⟨by simp, W.heap.size, 0, 2, by simp, by simp, by simp, fun j c' e => ?_⟩
  match j, e with
  | 0, e =>
    simp at e
    subst e
    refine ⟨a, b, fun i t hu => ?_, h1.below B, h2.below B⟩
    simp only [Nat.zero_mul, Nat.zero_add]
    rw [cell_of_row _ _ _ _ _ _ (heap_alloc_new W _)]
    have hi : i < 13 := (Array.getElem?_eq_some_iff.1 hu).1
    have hl : i = 0 ∨ i = 1 ∨ i = 2 ∨ i = 3 ∨ i = 4 ∨ i = 5 ∨ i = 6 ∨ i = 7 ∨ i = 8 ∨ i = 9 ∨ i = 10 ∨ i = 11 ∨ i = 12 := by omega
    rcases hl with rfl | rfl | rfl | rfl | rfl | rfl | rfl | rfl | rfl | rfl | rfl | rfl | rfl <;> exact hu
  | 1, e =>
    simp at e
    subst e
    refine ⟨a', b', fun i t hu => ?_, h3.below B, h4.below B⟩
    rw [cell_of_row _ _ _ _ _ _ (heap_alloc_new W _)]
    have hi : i < 13 := (Array.getElem?_eq_some_iff.1 hu).1
    have hl : i = 0 ∨ i = 1 ∨ i = 2 ∨ i = 3 ∨ i = 4 ∨ i = 5 ∨ i = 6 ∨ i = 7 ∨ i = 8 ∨ i = 9 ∨ i = 10 ∨ i = 11 ∨ i = 12 := by omega
    rcases hl with rfl | rfl | rfl | rfl | rfl | rfl | rfl | rfl | rfl | rfl | rfl | rfl | rfl <;> exact hu
  | j + 2, e => simp at e
def GrSm (g : Gr) : Prop := g.vs.length ≤ 1000000 ∧ g.es.length ≤ 1000000 ∧ g.ds.length ≤ 1000000
def TwoPost (G : Gr) (c d : Ch) (W : World) (e : Ending) (w' : World) : Prop :=
  match runF G [c, d] with
  | none => (∃ m : Int, e = .returned (.tuple #[.agg #[.slice none 0 0, .slice none 0 0, .slice none 0 0], .int .i64 m, .int .i64 30])) ∧ Below W.heap.size W w'
  | some g' => ∃ r, e = .returned (.tuple #[r, .int .i64 2, .int .i64 0]) ∧ GA w' W r g'
theorem all_two (vG : Value) (G : Gr) (c d : Ch) (a b a' b' : Value) (W : World) (hg : GV W vG G) (hok : G.ok = true) (hs : GrSm G) (h1 : DL W a c.ends) (h2 : DL W b c.deps) (h3 : DL W a' d.ends) (h4 : DL W b' d.deps)
    (hl : (c.ends.length ≤ 1000000 ∧ c.deps.length ≤ 1000000) ∧ d.ends.length ≤ 1000000 ∧ d.deps.length ≤ 1000000) :
    Calls Tryz.prog 24 #[vG, .slice (some ⟨W.heap.size, 0, none⟩) 2 2] (W.alloc (.cells #[.int .i64 c.kind, .int .i64 c.v.id, .int .i64 c.v.side, .int .i64 c.e.id, .int .i64 c.e.src, .int .i64 c.e.dst, .bool c.e.dir, .int .i64 c.e.wt, .int .i64 c.e.cap, .int .i64 c.id, .int .i64 c.n, a, b, .int .i64 d.kind, .int .i64 d.v.id, .int .i64 d.v.side, .int .i64 d.e.id, .int .i64 d.e.src, .int .i64 d.e.dst, .bool d.e.dir, .int .i64 d.e.wt, .int .i64 d.e.cap, .int .i64 d.id, .int .i64 d.n, a', b'] 33)) (TwoPost G c d (W.alloc (.cells #[.int .i64 c.kind, .int .i64 c.v.id, .int .i64 c.v.side, .int .i64 c.e.id, .int .i64 c.e.src, .int .i64 c.e.dst, .bool c.e.dir, .int .i64 c.e.wt, .int .i64 c.e.cap, .int .i64 c.id, .int .i64 c.n, a, b, .int .i64 d.kind, .int .i64 d.v.id, .int .i64 d.v.side, .int .i64 d.e.id, .int .i64 d.e.src, .int .i64 d.e.dst, .bool d.e.dir, .int .i64 d.e.wt, .int .i64 d.e.cap, .int .i64 d.id, .int .i64 d.n, a', b'] 33))) := by
  have hlc := lc_two (W := W) h1 h2 h3 h4
  have hg2 := hg.below (show Below W.heap.size W (W.alloc (.cells #[.int .i64 c.kind, .int .i64 c.v.id, .int .i64 c.v.side, .int .i64 c.e.id, .int .i64 c.e.src, .int .i64 c.e.dst, .bool c.e.dir, .int .i64 c.e.wt, .int .i64 c.e.cap, .int .i64 c.id, .int .i64 c.n, a, b, .int .i64 d.kind, .int .i64 d.v.id, .int .i64 d.v.side, .int .i64 d.e.id, .int .i64 d.e.src, .int .i64 d.e.dst, .bool d.e.dir, .int .i64 d.e.wt, .int .i64 d.e.cap, .int .i64 d.id, .int .i64 d.n, a', b'] 33)) from (Below.refl _ W).alloc (Nat.le_refl _) _)
  generalize W.alloc (.cells #[.int .i64 c.kind, .int .i64 c.v.id, .int .i64 c.v.side, .int .i64 c.e.id, .int .i64 c.e.src, .int .i64 c.e.dst, .bool c.e.dir, .int .i64 c.e.wt, .int .i64 c.e.cap, .int .i64 c.id, .int .i64 c.n, a, b, .int .i64 d.kind, .int .i64 d.v.id, .int .i64 d.v.side, .int .i64 d.e.id, .int .i64 d.e.src, .int .i64 d.e.dst, .bool d.e.dir, .int .i64 d.e.wt, .int .i64 d.e.cap, .int .i64 d.id, .int .i64 d.n, a', b'] 33) = W2 at hlc hg2 ⊢
  generalize (Value.slice (some ⟨W.heap.size, 0, none⟩) 2 2) = vl at hlc ⊢
  have hs2 : ∀ c' ∈ [c, d], c'.ends.length ≤ 1000000 ∧ c'.deps.length ≤ 1000000 := fun c' hc' => by
    simp at hc'
    rcases hc' with rfl | rfl
    · exact hl.1
    · exact hl.2
  unfold TwoPost
  cases hr : runF G [c, d] with
  | none => exact (all_no vG vl G [c, d] W2 hg2 hlc hs (by simp) hs2 hok hr).mono fun e w' h => ⟨⟨_, h.1⟩, h.2⟩
  | some g' => exact (all_ok vG vl G [c, d] g' W2 hg2 hlc hs (by simp) hs2 hok hr).mono fun e w' h => h
/-- the kinds -/
def kF (p : Nat) : Int := if p = 0 then 4 else if p = 1 then 5 else if p = 2 then 6 else 9
theorem kF_at {W : World} {g : Nat} (h : W.heap[g]? = some (.cells #[.int .i64 4, .int .i64 5, .int .i64 6, .int .i64 9] 3 (0, 0))) (p : Nat) (hp : p < 4) : W.cell? ⟨g, p, none⟩ = some (.int .i64 (kF p)) := by
  rw [cell_of_row _ _ _ _ _ _ h]
  have : p = 0 ∨ p = 1 ∨ p = 2 ∨ p = 3 := by omega
  rcases this with rfl | rfl | rfl | rfl <;> rfl
theorem six_cells {W : World} {g : Nat} {a b c d e f : Int} {t : TypeId} (h : W.heap[g]? = some (.cells #[.int .i64 a, .int .i64 b, .int .i64 c, .int .i64 d, .int .i64 e, .int .i64 f] t (0, 0))) : W.cell? ⟨g, 0, none⟩ = some (.int .i64 a) ∧ W.cell? ⟨g, 1, none⟩ = some (.int .i64 b) ∧ W.cell? ⟨g, 2, none⟩ = some (.int .i64 c) ∧ W.cell? ⟨g, 3, none⟩ = some (.int .i64 d) ∧ W.cell? ⟨g, 4, none⟩ = some (.int .i64 e) ∧ W.cell? ⟨g, 5, none⟩ = some (.int .i64 f) := by
  refine ⟨?_, ?_, ?_, ?_, ?_, ?_⟩ <;> (rw [cell_of_row _ _ _ _ _ _ h]; rfl)
theorem set_zero {W : World} {g : Nat} {a b c d e f u : Int} (h : W.heap[g]? = some (.cells #[.int .i64 a, .int .i64 b, .int .i64 c, .int .i64 d, .int .i64 e, .int .i64 f] 42 (0, 0))) : (W.setCell ⟨g, 0, none⟩ (.int .i64 u)).heap[g]? = some (.cells #[.int .i64 u, .int .i64 b, .int .i64 c, .int .i64 d, .int .i64 e, .int .i64 f] 42 (0, 0)) := by
  rw [heap_setCell_same W g 0 _ 42 _ h]; rfl
theorem kF_in (p : Nat) : 4 ≤ kF p ∧ kF p ≤ 9 ∧ (kF p = 4 ∨ kF p = 5 ∨ kF p = 6 ∨ kF p = 9) := by
  unfold kF; split; · omega
  split; · omega
  split <;> omega
theorem kF_kind (G : Gr) (x : F6) (p : Nat) (hx : x.a = kF p - 1) : (changedC G x).kind = kF p := by
  rw [changed_kind, hx]
  have := kF_in p
  unfold pk
  rw [if_neg (by omega), Int.emod_eq_of_lt (by omega) (by omega)]; omega
set_option maxRecDepth 100000 in
set_option maxHeartbeats 4000000 in
theorem Commutes_any (n : Int) (vl : Value) (l : List F5) (x y : F6) (w : World) (hl : L5 w vl l) (hn : i64B n) (hlen : l.length ≤ 9223372036854775807) (hr : ∀ r ∈ l, i64B r.a ∧ i64B r.b ∧ i64B r.c ∧ i64B r.d ∧ i64B r.e) (hx : x.inB) (hy : y.inB) :
    Calls Tryz.prog 7 #[.int .i64 n, vl, .agg x.cells, .agg y.cells] w fun e w' => e = .returned (.bool true) ∧ Below w.heap.size w w' := by
  obtain ⟨W0, hW0⟩ : ∃ W0, W0 = (w.alloc (.cells x.cells 42)).alloc (.cells y.cells 42) := ⟨_, rfl⟩
  have B0 : Below w.heap.size w W0 := by rw [hW0]; exact ((Below.refl _ w).alloc (Nat.le_refl _) _).alloc (by simp) _
  have z0 : W0.heap.size = w.heap.size + 2 := by rw [hW0]; simp
  have gx : W0.heap[w.heap.size]? = some (.cells x.cells 42 (0, 0)) := by rw [hW0]; exact al_keep1 (heap_alloc_new w _)
  have gy : W0.heap[w.heap.size + 1]? = some (.cells y.cells 42 (0, 0)) := by
    rw [hW0]
    have := heap_alloc_new (w.alloc (.cells x.cells 42)) (.cells y.cells 42)
    simpa using this
  have cS := Lib.hid (sane_any W0)
  have cM := Lib.hid (fun W (B : Below W0.heap.size W0 W) => Made_any n vl l false W ((hl.below B0).below B) hn hlen hr)
  obtain ⟨G, hG⟩ : ∃ G, Hid (G = madeG n l false) := ⟨_, rfl⟩
  have hok : Ok G := by rw [hG.out]; exact made_ok n l false
  rw [← hG.out] at cM
  have hvl := hok.vlen
  have hel := hok.elen
  have hdl := hok.dlen
  have hgok : G.ok = true := (ok_iff G).2 hok
  obtain ⟨p, hp, hp4⟩ : ∃ p : Nat, pk x.a 4 = p ∧ p < 4 := ⟨(pk x.a 4).toNat, by have := pk_lo x.a 4 (by omega); omega, pk_toNat _ 4 (by omega)⟩
  obtain ⟨q, hq, hq4⟩ : ∃ q : Nat, pk y.a 4 = q ∧ q < 4 := ⟨(pk y.a 4).toNat, by have := pk_lo y.a 4 (by omega); omega, pk_toNat _ 4 (by omega)⟩
  have pp := Lib.hid (fun W => pick_any x.a 4 W hx.1.1 hx.1.2 (by omega) (by omega))
  have pq := Lib.hid (fun W => pick_any y.a 4 W hy.1.1 hy.1.2 (by omega) (by omega))
  rw [hp] at pp
  rw [hq] at pq
  have kfp := kF_in p
  have kfq := kF_in q
  have wp1 : IntKind.i64.wrap (kF p - 1) = kF p - 1 := IntWalk.i64_in _ (by omega)
  have wq1 : IntKind.i64.wrap (kF q - 1) = kF q - 1 := IntWalk.i64_in _ (by omega)
  obtain ⟨x', hx'⟩ : ∃ x' : F6, x' = ⟨kF p - 1, x.b, x.c, x.d, x.e, x.f⟩ := ⟨_, rfl⟩
  obtain ⟨y', hy'⟩ : ∃ y' : F6, y' = ⟨kF q - 1, y.b, y.c, y.d, y.e, y.f⟩ := ⟨_, rfl⟩
  have hxb : x'.inB := by rw [hx']; exact ⟨⟨by show _ ≤ kF p - 1; omega, by show kF p - 1 ≤ _; omega⟩, hx.2⟩
  have hyb : y'.inB := by rw [hy']; exact ⟨⟨by show _ ≤ kF q - 1; omega, by show kF q - 1 ≤ _; omega⟩, hy.2⟩
  have hkc : (changedC G x').kind = kF p := kF_kind G x' p (by rw [hx'])
  have hkd : (changedC G y').kind = kF q := kF_kind G y' q (by rw [hy'])
  have hbc := changed_bare G x'
  have hbd := changed_bare G y'
  have hlc := changed_len G x' (by omega)
  have hld := changed_len G y' (by omega)
  have cC := Lib.hid (show ∀ v W, GV W v G → Calls Tryz.prog 14 #[v, .agg #[.int .i64 (kF p - 1), .int .i64 x.b, .int .i64 x.c, .int .i64 x.d, .int .i64 x.e, .int .i64 x.f]] W fun e w' => ∃ r, e = .returned r ∧ CV w' r (changedC G x') ∧ Below W.heap.size W w' from fun v W h => by
    have h2 := Changed_any v G x' W h (by omega) hxb
    rw [show x'.cells = #[.int .i64 (kF p - 1), .int .i64 x.b, .int .i64 x.c, .int .i64 x.d, .int .i64 x.e, .int .i64 x.f] by rw [hx']; rfl] at h2
    exact h2)
  have cD := Lib.hid (show ∀ v W, GV W v G → Calls Tryz.prog 14 #[v, .agg #[.int .i64 (kF q - 1), .int .i64 y.b, .int .i64 y.c, .int .i64 y.d, .int .i64 y.e, .int .i64 y.f]] W fun e w' => ∃ r, e = .returned r ∧ CV w' r (changedC G y') ∧ Below W.heap.size W w' from fun v W h => by
    have h2 := Changed_any v G y' W h (by omega) hyb
    rw [show y'.cells = #[.int .i64 (kF q - 1), .int .i64 y.b, .int .i64 y.c, .int .i64 y.d, .int .i64 y.e, .int .i64 y.f] by rw [hy']; rfl] at h2
    exact h2)
  obtain ⟨c, hc⟩ : ∃ c, Hid (c = changedC G x') := ⟨_, rfl⟩
  obtain ⟨d, hd⟩ : ∃ d, Hid (d = changedC G y') := ⟨_, rfl⟩
  rw [← hc.out] at hkc hbc hlc cC
  rw [← hd.out] at hkd hbd hld cD
  have hcom := Lib.hid (fun h => commutes G c d (by omega) hbc (by omega) hbd h)
  have hsm : GrSm G := by unfold GrSm; omega
  have cT1 := Lib.hid (fun vG a b a' b' W h h1 h2 h3 h4 => all_two vG G c d a b a' b' W h hgok hsm h1 h2 h3 h4 (by omega))
  have cT2 := Lib.hid (fun vG a b a' b' W h h1 h2 h3 h4 => all_two vG G d c a b a' b' W h hgok hsm h1 h2 h3 h4 (by omega))
  have ekc : (c.kind == 9) = decide (kF p = 9) := by rw [hkc]; rfl
  have ekd : (d.kind == 9) = decide (kF q = 9) := by rw [hkd]; rfl
  obtain ⟨N1, hN1⟩ : ∃ N, Hid (N = G.vs.length) := ⟨_, rfl⟩
  obtain ⟨N2, hN2⟩ : ∃ N, Hid (N = G.es.length) := ⟨_, rfl⟩
  obtain ⟨N3, hN3⟩ : ∃ N, Hid (N = G.ds.length) := ⟨_, rfl⟩
  have kw := Lib.hid B0
  have kW0 := Lib.hid (Below.refl W0.heap.size W0)
  have hW0h := Lib.hid hW0
  have gxh := Lib.hid gx
  have gyh := Lib.hid gy
  have hkF := Lib.hid kfp
  have hkF2 := Lib.hid kfq
  have hxy : Hid (c.kind = kF p ∧ d.kind = kF q) := ⟨hkc, hkd⟩
  unfold F6.cells at hW0h ⊢
  clear hl hn hlen hr hx hy hxb hyb hx' hy' hG hok B0 gx gy hW0 hp hq hbc hbd hlc hld hvl hel hdl hc hd hkc hkd kfp kfq hsm
  obtain ⟨kp, hkp⟩ : ∃ kp, Hid (kp = kF p) := ⟨_, rfl⟩
  obtain ⟨kq, hkq⟩ : ∃ kq, Hid (kq = kF q) := ⟨_, rfl⟩
  rw [← hkp.out] at cC wp1 ekc hkF hxy
  rw [← hkq.out] at cD wq1 ekd hkF2 hxy
  go_enter Tryz.func7, Tryz.ntmps7
  go_wp2_with fail
  rw [← hW0h.out]
  with_reducible refine (cS.out).mono ?_
  rintro e w1 ⟨rfl, b⟩
  have z1 : W0.heap.size ≤ w1.heap.size := b.size
  replace kw := Lib.hid (kw.out.trans (b.mono kw.out.size))
  replace kW0 := Lib.hid (kW0.out.trans (b.mono kW0.out.size))
  clear b
  go_wp2_with fail
  with_reducible refine (cM.out _ kW0.out).mono ?_
  rintro e w2 ⟨va, vb, vc, rfl, o1, o2, o3, b⟩
  obtain ⟨a1, a2, ha⟩ := o1.VL.shape
  obtain ⟨b1, b2, hb⟩ := o2.EL.shape
  obtain ⟨c1, c2, hc⟩ := o3.DL.shape
  have z2 : w1.heap.size ≤ w2.heap.size := b.size
  rw [← hN1.out] at ha
  rw [← hN2.out] at hb
  rw [← hN3.out] at hc
  subst ha hb hc
  have oh := Lib.hid (show OwnV w2 w1.heap.size (.slice a1 N1 a2) G.vs ∧ OwnEd w2 w1.heap.size (.slice b1 N2 b2) G.es ∧ OwnI w2 w1.heap.size (.slice c1 N3 c2) G.ds from ⟨o1, o2, o3⟩)
  clear o1 o2 o3
  replace kw := Lib.hid (kw.out.trans (b.mono kw.out.size))
  replace kW0 := Lib.hid (kW0.out.trans (b.mono kW0.out.size))
  clear b
  have kw2 := Lib.hid (Below.refl w2.heap.size w2)
  go_upto_region 5 with (fail)
  obtain ⟨wa, hwa⟩ : ∃ W, W = w2.alloc (.cells #[.slice a1 N1 a2, .slice b1 N2 b2, .slice c1 N3 c2] 26) := ⟨_, rfl⟩
  rw [← hwa]
  obtain ⟨bb, hpwa0⟩ := box_new hwa
  have hpwa := Lib.hid hpwa0
  clear hwa hpwa0
  replace kw := Lib.hid (kw.out.trans (bb.mono kw.out.size))
  replace kW0 := Lib.hid (kW0.out.trans (bb.mono kW0.out.size))
  replace kw2 := Lib.hid (kw2.out.trans (bb.mono kw2.out.size))
  clear bb
  have kwa := Lib.hid (Below.refl wa.heap.size wa)
  go_upto_region 6 with (fail)
  obtain ⟨wb, hwb⟩ : ∃ W, W = wa.alloc (.cells #[.int .i64 4, .int .i64 5, .int .i64 6, .int .i64 9] 3) := ⟨_, rfl⟩
  rw [← hwb]
  obtain ⟨bb, hpwb0⟩ := box_new hwb
  have hpwb := Lib.hid hpwb0
  clear hwb hpwb0
  replace kw := Lib.hid (kw.out.trans (bb.mono kw.out.size))
  replace kW0 := Lib.hid (kW0.out.trans (bb.mono kW0.out.size))
  replace kw2 := Lib.hid (kw2.out.trans (bb.mono kw2.out.size))
  replace kwa := Lib.hid (kwa.out.trans (bb.mono kwa.out.size))
  clear bb
  have kwb := Lib.hid (Below.refl wb.heap.size wb)
  have gx1 := Lib.hid (show wb.heap[w.heap.size]? = some (.cells #[.int .i64 x.a, .int .i64 x.b, .int .i64 x.c, .int .i64 x.d, .int .i64 x.e, .int .i64 x.f] 42 (0, 0)) from (kW0.out.block _ (by omega)).trans gxh.out)
  have gy1 := Lib.hid (show wb.heap[w.heap.size + 1]? = some (.cells #[.int .i64 y.a, .int .i64 y.b, .int .i64 y.c, .int .i64 y.d, .int .i64 y.e, .int .i64 y.f] 42 (0, 0)) from (kW0.out.block _ (by omega)).trans gyh.out)
  have zb1 : w2.heap.size < wa.heap.size := by have h := (Array.getElem?_eq_some_iff.1 (hpwa.out wa (Below.refl _ _))).1; exact h
  have zb2 : wa.heap.size < wb.heap.size := by have h := (Array.getElem?_eq_some_iff.1 (hpwb.out wb (Below.refl _ _))).1; exact h
  obtain ⟨x0, _, _, _, _, _⟩ := six_cells gx1.out
  have fx := free_of_block (i := 0) gx1.out
  have kc := kF_at (hpwb.out wb (Below.refl _ _)) p hp4
  rw [← hkp.out] at kc
  have j0 : (0 : Int) ≤ (p : Int) := by omega
  have j1 : (p : Int) < 4 := by omega
  go_wp2_with fail
  with_reducible refine (pp.out _).mono ?_
  rintro e w3 ⟨rfl, rfl⟩
  go_upto_region 7 with (fail)
  clear x0 fx kc
  obtain ⟨wc, hwc⟩ : ∃ wc, wc = wb.setCell ⟨w.heap.size, 0, none⟩ (.int .i64 (kp - 1)) := ⟨_, rfl⟩
  rw [← hwc]
  have oc : ∀ k, k ≠ w.heap.size → wc.heap[k]? = wb.heap[k]? := fun k hk => by rw [hwc]; exact heap_setCell_other wb _ k _ hk
  have gx2 := Lib.hid (show wc.heap[w.heap.size]? = some (.cells #[.int .i64 (kp - 1), .int .i64 x.b, .int .i64 x.c, .int .i64 x.d, .int .i64 x.e, .int .i64 x.f] 42 (0, 0)) from by rw [hwc]; exact set_zero gx1.out)
  have gy2 := Lib.hid (show wc.heap[w.heap.size + 1]? = some (.cells #[.int .i64 y.a, .int .i64 y.b, .int .i64 y.c, .int .i64 y.d, .int .i64 y.e, .int .i64 y.f] 42 (0, 0)) from (oc _ (by omega)).trans gy1.out)
  have gk2 := (oc wa.heap.size (by omega)).trans (hpwb.out wb (Below.refl _ _))
  obtain ⟨y0, _, _, _, _, _⟩ := six_cells gy2.out
  have fy := free_of_block (i := 0) gy2.out
  have kc := kF_at gk2 q hq4
  rw [← hkq.out] at kc
  have j2 : (0 : Int) ≤ (q : Int) := by omega
  have j3 : (q : Int) < 4 := by omega
  have och := Lib.hid oc
  have hwch := Lib.hid hwc
  clear oc hwc gk2
  go_wp2_with fail
  with_reducible refine (pq.out _).mono ?_
  rintro e w3 ⟨rfl, rfl⟩
  go_upto_region 8 with (fail)
  clear y0 fy kc j0 j1 j2 j3
  obtain ⟨wd, hwd⟩ : ∃ wd, wd = wc.setCell ⟨w.heap.size + 1, 0, none⟩ (.int .i64 (kq - 1)) := ⟨_, rfl⟩
  rw [← hwd]
  have od : ∀ k, k ≠ w.heap.size + 1 → wd.heap[k]? = wc.heap[k]? := fun k hk => by rw [hwd]; exact heap_setCell_other wc _ k _ hk
  have gx3 : wd.heap[w.heap.size]? = some (.cells #[.int .i64 (kp - 1), .int .i64 x.b, .int .i64 x.c, .int .i64 x.d, .int .i64 x.e, .int .i64 x.f] 42 (0, 0)) := (od _ (by omega)).trans gx2.out
  have gy3 : wd.heap[w.heap.size + 1]? = some (.cells #[.int .i64 (kq - 1), .int .i64 y.b, .int .i64 y.c, .int .i64 y.d, .int .i64 y.e, .int .i64 y.f] 42 (0, 0)) := by rw [hwd]; exact set_zero gy2.out
  have gt3 : wd.heap[w2.heap.size]? = some (.cells #[.slice a1 N1 a2, .slice b1 N2 b2, .slice c1 N3 c2] 26 (0, 0)) := (od _ (by omega)).trans ((och.out _ (by omega)).trans (hpwa.out wb kwa.out))
  have kwd0 : Below w.heap.size w wd := by rw [hwd, hwch.out]; exact (kw.out.setCell (by simp) _).setCell (by simp) _
  have sz1 : w2.heap.size < wd.heap.size := (Array.getElem?_eq_some_iff.1 gt3).1
  have zx : w.heap.size < wd.heap.size := (Array.getElem?_eq_some_iff.1 gx3).1
  have zy : w.heap.size + 1 < wd.heap.size := (Array.getElem?_eq_some_iff.1 gy3).1
  have gv3 : GV wd (.agg #[.slice a1 N1 a2, .slice b1 N2 b2, .slice c1 N3 c2]) G := by
    rw [hwd, hwch.out]
    exact ⟨_, _, _, rfl, OwnV.VL (own_setO (own_setO (own_below oh.out.1 kw2.out) (by omega) _ _) (by omega) _ _), OwnEd.EL (own_setO (own_setO (own_below oh.out.2.1 kw2.out) (by omega) _ _) (by omega) _ _), OwnI.DL (own_setO (own_setO (own_below oh.out.2.2 kw2.out) (by omega) _ _) (by omega) _ _)⟩
  have hX := Lib.hid (show ∀ W, Below wd.heap.size wd W → W.heap[w.heap.size]? = some (.cells #[.int .i64 (kp - 1), .int .i64 x.b, .int .i64 x.c, .int .i64 x.d, .int .i64 x.e, .int .i64 x.f] 42 (0, 0)) from fun W B => (B.block _ zx).trans gx3)
  have hY := Lib.hid (show ∀ W, Below wd.heap.size wd W → W.heap[w.heap.size + 1]? = some (.cells #[.int .i64 (kq - 1), .int .i64 y.b, .int .i64 y.c, .int .i64 y.d, .int .i64 y.e, .int .i64 y.f] 42 (0, 0)) from fun W B => (B.block _ zy).trans gy3)
  have hT := Lib.hid (show ∀ W, Below wd.heap.size wd W → W.heap[w2.heap.size]? = some (.cells #[.slice a1 N1 a2, .slice b1 N2 b2, .slice c1 N3 c2] 26 (0, 0)) from fun W B => (B.block _ sz1).trans gt3)
  have vG := Lib.hid (show ∀ W, Below wd.heap.size wd W → GV W (.agg #[.slice a1 N1 a2, .slice b1 N2 b2, .slice c1 N3 c2]) G from fun W B => gv3.below B)
  clear kw
  have kw := Lib.hid kwd0
  have kwd := Lib.hid (Below.refl wd.heap.size wd)
  clear gx1 gy1 gx2 gy2 och hwch hwd od gx3 gy3 gt3 gv3 kwd0 kW0 kw2 kwa kwb hpwa hpwb oh z0 z1 z2 zb1 zb2 sz1 zx zy gxh gyh hW0h pp pq wp1 wq1
  obtain ⟨t0, t1, t2⟩ := box3 (hT.out _ kwd.out)
  obtain ⟨x0, x1, x2, x3, x4, x5⟩ := six_cells (hX.out _ kwd.out)
  go_wp2_with fail
  with_reducible refine (cC.out _ _ (vG.out _ kwd.out)).mono ?_
  rintro e w3 ⟨r, rfl, hcv, b⟩
  clear t0 t1 t2 x0 x1 x2 x3 x4 x5
  replace kw := Lib.hid (kw.out.trans (b.mono kw.out.size))
  replace kwd := Lib.hid (kwd.out.trans (b.mono kwd.out.size))
  clear b
  obtain ⟨ca, cb, hr, hca, hcb⟩ := hcv
  obtain ⟨ca1, ca2, hcae⟩ := hca.shape
  obtain ⟨cb1, cb2, hcbe⟩ := hcb.shape
  obtain ⟨m1, hm1⟩ : ∃ m, Hid (m = c.ends.length) := ⟨_, rfl⟩
  obtain ⟨m2, hm2⟩ : ∃ m, Hid (m = c.deps.length) := ⟨_, rfl⟩
  rw [← hm1.out] at hcae
  rw [← hm2.out] at hcbe
  subst hcae hcbe hr
  unfold chCells
  have hcL := Lib.hid (show ∀ W, Below w3.heap.size w3 W → DL W (.slice ca1 m1 ca2) c.ends ∧ DL W (.slice cb1 m2 cb2) c.deps from fun W B => ⟨hca.below B, hcb.below B⟩)
  clear hca hcb
  have kw3 := Lib.hid (Below.refl w3.heap.size w3)
  go_upto_region 9 with (fail)
  obtain ⟨we, hwe⟩ : ∃ W, W = w3.alloc (.cells #[.int .i64 c.kind, .int .i64 c.v.id, .int .i64 c.v.side, .int .i64 c.e.id, .int .i64 c.e.src, .int .i64 c.e.dst, .bool c.e.dir, .int .i64 c.e.wt, .int .i64 c.e.cap, .int .i64 c.id, .int .i64 c.n, .slice ca1 m1 ca2, .slice cb1 m2 cb2] 33) := ⟨_, rfl⟩
  rw [← hwe]
  obtain ⟨bb, hpwe0⟩ := box_new hwe
  have hpwe := Lib.hid hpwe0
  clear hwe hpwe0
  replace kw := Lib.hid (kw.out.trans (bb.mono kw.out.size))
  replace kwd := Lib.hid (kwd.out.trans (bb.mono kwd.out.size))
  replace kw3 := Lib.hid (kw3.out.trans (bb.mono kw3.out.size))
  clear bb
  have kwe := Lib.hid (Below.refl we.heap.size we)
  obtain ⟨t0, t1, t2⟩ := box3 (hT.out _ kwd.out)
  obtain ⟨x0, x1, x2, x3, x4, x5⟩ := six_cells (hY.out _ kwd.out)
  go_wp2_with fail
  with_reducible refine (cD.out _ _ (vG.out _ kwd.out)).mono ?_
  rintro e w4 ⟨r, rfl, hcv, b⟩
  clear t0 t1 t2 x0 x1 x2 x3 x4 x5
  replace kw := Lib.hid (kw.out.trans (b.mono kw.out.size))
  replace kwd := Lib.hid (kwd.out.trans (b.mono kwd.out.size))
  replace kw3 := Lib.hid (kw3.out.trans (b.mono kw3.out.size))
  replace kwe := Lib.hid (kwe.out.trans (b.mono kwe.out.size))
  clear b
  obtain ⟨ca, cb, hr, hca, hcb⟩ := hcv
  obtain ⟨da1, da2, hcae⟩ := hca.shape
  obtain ⟨db1, db2, hcbe⟩ := hcb.shape
  obtain ⟨m3, hm3⟩ : ∃ m, Hid (m = d.ends.length) := ⟨_, rfl⟩
  obtain ⟨m4, hm4⟩ : ∃ m, Hid (m = d.deps.length) := ⟨_, rfl⟩
  rw [← hm3.out] at hcae
  rw [← hm4.out] at hcbe
  subst hcae hcbe hr
  unfold chCells
  have hdL := Lib.hid (show ∀ W, Below w4.heap.size w4 W → DL W (.slice da1 m3 da2) d.ends ∧ DL W (.slice db1 m4 db2) d.deps from fun W B => ⟨hca.below B, hcb.below B⟩)
  clear hca hcb
  have kw4 := Lib.hid (Below.refl w4.heap.size w4)
  go_upto_region 10 with (fail)
  obtain ⟨wf, hwf⟩ : ∃ W, W = w4.alloc (.cells #[.int .i64 d.kind, .int .i64 d.v.id, .int .i64 d.v.side, .int .i64 d.e.id, .int .i64 d.e.src, .int .i64 d.e.dst, .bool d.e.dir, .int .i64 d.e.wt, .int .i64 d.e.cap, .int .i64 d.id, .int .i64 d.n, .slice da1 m3 da2, .slice db1 m4 db2] 33) := ⟨_, rfl⟩
  rw [← hwf]
  obtain ⟨bb, hpwf0⟩ := box_new hwf
  have hpwf := Lib.hid hpwf0
  clear hwf hpwf0
  replace kw := Lib.hid (kw.out.trans (bb.mono kw.out.size))
  replace kwd := Lib.hid (kwd.out.trans (bb.mono kwd.out.size))
  replace kw3 := Lib.hid (kw3.out.trans (bb.mono kw3.out.size))
  replace kwe := Lib.hid (kwe.out.trans (bb.mono kwe.out.size))
  replace kw4 := Lib.hid (kw4.out.trans (bb.mono kw4.out.size))
  clear bb
  have kwf := Lib.hid (Below.refl wf.heap.size wf)
  obtain ⟨p0, p1, p2, p3, p4, p5, p6, p7, p8, p9, pA, pB, pC⟩ := ch_cells (c := c) (a := .slice ca1 m1 ca2) (b := .slice cb1 m2 cb2) (hpwe.out _ kwe.out)
  obtain ⟨q0, q1, q2, q3, q4, q5, q6, q7, q8, q9, qA, qB, qC⟩ := ch_cells (c := d) (a := .slice da1 m3 da2) (b := .slice db1 m4 db2) (hpwf.out _ kwf.out)
  obtain ⟨sm, hsm⟩ : ∃ sm : Bool, Hid (sm = (decide (c.id = d.id) && (decide (kp = 9) == decide (kq = 9)))) := ⟨_, rfl⟩
  go_cut [62] from 49 to 62 (fun s62 wx => s62 = .bool sm ∧ wx = wf)
  case first =>
    by_cases hid : c.id = d.id
    · have e1 : (c.id == d.id) = true := by simpa using hid
      rw [show decide (c.id = d.id) = true from decide_eq_true hid, Bool.true_and] at hsm
      clear hid
      go_wp2_with fail
      go_meet
      case rel => exact ⟨by rw [hsm.out], rfl⟩
    · have e1 : (c.id == d.id) = false := by simpa using hid
      rw [show decide (c.id = d.id) = false from decide_eq_false hid, Bool.false_and] at hsm
      clear hid
      go_wp2_with fail
      go_meet
      case rel => exact ⟨by rw [hsm.out], rfl⟩
  case rest =>
  obtain ⟨rfl, rfl⟩ := hcut
  obtain ⟨wf, rfl⟩ : ∃ wf', wf' = wc := ⟨_, rfl⟩
  cases sm with
  | true =>
    go_wp2_with fail
    go_ret
    exact ⟨rfl, kw.out⟩
  | false =>
  have hcm : Hid (runF G [d, c] = runF G [c, d]) := (hcom.out (fun h => by
    have e := hsm.out.symm
    rw [show decide (c.id = d.id) = true from decide_eq_true h.1, Bool.true_and, hxy.out.1.symm, hxy.out.2.symm, beq_eq_false_iff_ne] at e
    exact e (by rw [Bool.eq_iff_iff, decide_eq_true_iff, decide_eq_true_iff]; exact h.2))).symm
  obtain ⟨t0, t1, t2⟩ := box3 (hT.out _ kwd.out)
  go_wp2_with fail
  have dl1 := hcL.out _ kw3.out
  have dl2 := hdL.out _ kw4.out
  have vg1 := vG.out _ kwd.out
  have b0 := (Below.refl _ wf).alloc (Nat.le_refl _) (.cells #[.int .i64 c.kind, .int .i64 c.v.id, .int .i64 c.v.side, .int .i64 c.e.id, .int .i64 c.e.src, .int .i64 c.e.dst, .bool c.e.dir, .int .i64 c.e.wt, .int .i64 c.e.cap, .int .i64 c.id, .int .i64 c.n, .slice ca1 m1 ca2, .slice cb1 m2 cb2, .int .i64 d.kind, .int .i64 d.v.id, .int .i64 d.v.side, .int .i64 d.e.id, .int .i64 d.e.src, .int .i64 d.e.dst, .bool d.e.dir, .int .i64 d.e.wt, .int .i64 d.e.cap, .int .i64 d.id, .int .i64 d.n, .slice da1 m3 da2, .slice db1 m4 db2] 33)
  replace kw := Lib.hid (kw.out.trans (b0.mono kw.out.size))
  replace kwd := Lib.hid (kwd.out.trans (b0.mono kwd.out.size))
  replace kw3 := Lib.hid (kw3.out.trans (b0.mono kw3.out.size))
  replace kwe := Lib.hid (kwe.out.trans (b0.mono kwe.out.size))
  replace kw4 := Lib.hid (kw4.out.trans (b0.mono kw4.out.size))
  replace kwf := Lib.hid (kwf.out.trans (b0.mono kwf.out.size))
  clear b0
  with_reducible refine (cT1.out _ _ _ _ _ wf vg1 dl1.1 dl1.2 dl2.1 dl2.2).mono ?_
  rintro e w5 h5
  clear dl1 dl2 vg1 t0 t1 t2
  clear p0 p1 p2 p3 p4 p5 p6 p7 p8 p9 pA pB pC
  clear q0 q1 q2 q3 q4 q5 q6 q7 q8 q9 qA qB qC
  unfold TwoPost at h5
  have cT2 := cT2.out
  unfold TwoPost at cT2
  rw [hcm.out] at cT2
  have cT2 := Lib.hid cT2
  rename_i cT2o
  clear cT2o
  cases hR : runF G [c, d] with
  | none =>
    rw [hR] at h5 cT2
    obtain ⟨⟨m5, rfl⟩, b⟩ := h5
    replace kw := Lib.hid (kw.out.trans (b.mono kw.out.size))
    replace kwd := Lib.hid (kwd.out.trans (b.mono kwd.out.size))
    replace kw3 := Lib.hid (kw3.out.trans (b.mono kw3.out.size))
    replace kwe := Lib.hid (kwe.out.trans (b.mono kwe.out.size))
    replace kw4 := Lib.hid (kw4.out.trans (b.mono kw4.out.size))
    replace kwf := Lib.hid (kwf.out.trans (b.mono kwf.out.size))
    clear b
    go_upto_region 13 with (fail)
    obtain ⟨wg, hwg⟩ : ∃ W, W = w5.alloc (.cells #[.slice none 0 0, .slice none 0 0, .slice none 0 0] 26) := ⟨_, rfl⟩
    rw [← hwg]
    obtain ⟨bb, hpwg0⟩ := box_new hwg
    have hpwg := Lib.hid hpwg0
    clear hwg hpwg0
    replace kw := Lib.hid (kw.out.trans (bb.mono kw.out.size))
    replace kwd := Lib.hid (kwd.out.trans (bb.mono kwd.out.size))
    replace kw3 := Lib.hid (kw3.out.trans (bb.mono kw3.out.size))
    replace kwe := Lib.hid (kwe.out.trans (bb.mono kwe.out.size))
    replace kw4 := Lib.hid (kw4.out.trans (bb.mono kw4.out.size))
    replace kwf := Lib.hid (kwf.out.trans (bb.mono kwf.out.size))
    clear bb
    have kwg := Lib.hid (Below.refl wg.heap.size wg)
    obtain ⟨t0, t1, t2⟩ := box3 (hT.out _ kwd.out)
    obtain ⟨p0, p1, p2, p3, p4, p5, p6, p7, p8, p9, pA, pB, pC⟩ := ch_cells (c := c) (a := .slice ca1 m1 ca2) (b := .slice cb1 m2 cb2) (hpwe.out _ kwe.out)
    obtain ⟨q0, q1, q2, q3, q4, q5, q6, q7, q8, q9, qA, qB, qC⟩ := ch_cells (c := d) (a := .slice da1 m3 da2) (b := .slice db1 m4 db2) (hpwf.out _ kwf.out)
    go_wp2_with fail
    have dl1 := hcL.out _ kw3.out
    have dl2 := hdL.out _ kw4.out
    have vg1 := vG.out _ kwd.out
    have b0 := (Below.refl _ wg).alloc (Nat.le_refl _) (.cells #[.int .i64 d.kind, .int .i64 d.v.id, .int .i64 d.v.side, .int .i64 d.e.id, .int .i64 d.e.src, .int .i64 d.e.dst, .bool d.e.dir, .int .i64 d.e.wt, .int .i64 d.e.cap, .int .i64 d.id, .int .i64 d.n, .slice da1 m3 da2, .slice db1 m4 db2, .int .i64 c.kind, .int .i64 c.v.id, .int .i64 c.v.side, .int .i64 c.e.id, .int .i64 c.e.src, .int .i64 c.e.dst, .bool c.e.dir, .int .i64 c.e.wt, .int .i64 c.e.cap, .int .i64 c.id, .int .i64 c.n, .slice ca1 m1 ca2, .slice cb1 m2 cb2] 33)
    replace kw := Lib.hid (kw.out.trans (b0.mono kw.out.size))
    replace kwd := Lib.hid (kwd.out.trans (b0.mono kwd.out.size))
    replace kw3 := Lib.hid (kw3.out.trans (b0.mono kw3.out.size))
    replace kwe := Lib.hid (kwe.out.trans (b0.mono kwe.out.size))
    replace kw4 := Lib.hid (kw4.out.trans (b0.mono kw4.out.size))
    replace kwf := Lib.hid (kwf.out.trans (b0.mono kwf.out.size))
    replace kwg := Lib.hid (kwg.out.trans (b0.mono kwg.out.size))
    clear b0
    with_reducible refine (cT2.out _ _ _ _ _ wg vg1 dl2.1 dl2.2 dl1.1 dl1.2).mono ?_
    rintro e w6 ⟨⟨m6, rfl⟩, b⟩
    clear dl1 dl2 vg1 t0 t1 t2
    clear p0 p1 p2 p3 p4 p5 p6 p7 p8 p9 pA pB pC
    clear q0 q1 q2 q3 q4 q5 q6 q7 q8 q9 qA qB qC
    replace kw := Lib.hid (kw.out.trans (b.mono kw.out.size))
    replace kwd := Lib.hid (kwd.out.trans (b.mono kwd.out.size))
    replace kw3 := Lib.hid (kw3.out.trans (b.mono kw3.out.size))
    replace kwe := Lib.hid (kwe.out.trans (b.mono kwe.out.size))
    replace kw4 := Lib.hid (kw4.out.trans (b.mono kw4.out.size))
    replace kwf := Lib.hid (kwf.out.trans (b.mono kwf.out.size))
    replace kwg := Lib.hid (kwg.out.trans (b.mono kwg.out.size))
    clear b
    go_upto_region 14 with (fail)
    obtain ⟨wh, hwh⟩ : ∃ W, W = w6.alloc (.cells #[.slice none 0 0, .slice none 0 0, .slice none 0 0] 26) := ⟨_, rfl⟩
    rw [← hwh]
    obtain ⟨bb, hpwh0⟩ := box_new hwh
    have hpwh := Lib.hid hpwh0
    clear hwh hpwh0
    replace kw := Lib.hid (kw.out.trans (bb.mono kw.out.size))
    replace kwd := Lib.hid (kwd.out.trans (bb.mono kwd.out.size))
    replace kw3 := Lib.hid (kw3.out.trans (bb.mono kw3.out.size))
    replace kwe := Lib.hid (kwe.out.trans (bb.mono kwe.out.size))
    replace kw4 := Lib.hid (kw4.out.trans (bb.mono kw4.out.size))
    replace kwf := Lib.hid (kwf.out.trans (bb.mono kwf.out.size))
    replace kwg := Lib.hid (kwg.out.trans (bb.mono kwg.out.size))
    clear bb
    have kwh := Lib.hid (Below.refl wh.heap.size wh)
    go_wp2_with fail
    go_ret
    exact ⟨rfl, kw.out⟩
  | some g' =>
    rw [hR] at h5 cT2
    obtain ⟨r, rfl, s1, s2, s3, s4, s5, s6, hr, hg, b⟩ := h5
    obtain ⟨n1, hn1⟩ : ∃ m, Hid (m = g'.vs.length) := ⟨_, rfl⟩
    obtain ⟨n2, hn2⟩ : ∃ m, Hid (m = g'.es.length) := ⟨_, rfl⟩
    obtain ⟨n3, hn3⟩ : ∃ m, Hid (m = g'.ds.length) := ⟨_, rfl⟩
    have hsml : g'.small := by
      have h := run_ok [c, d] G g' ((ok_iff G).1 hgok) hR
      have h1 := h.vlen
      have h2 := h.elen
      have h3 := h.dlen
      unfold Gr.small; omega
    have hsmh := Lib.hid hsml
    rw [← hn1.out, ← hn2.out, ← hn3.out] at hr
    subst hr
    clear hR hsml
    replace kw := Lib.hid (kw.out.trans (b.mono kw.out.size))
    replace kwd := Lib.hid (kwd.out.trans (b.mono kwd.out.size))
    replace kw3 := Lib.hid (kw3.out.trans (b.mono kw3.out.size))
    replace kwe := Lib.hid (kwe.out.trans (b.mono kwe.out.size))
    replace kw4 := Lib.hid (kw4.out.trans (b.mono kw4.out.size))
    replace kwf := Lib.hid (kwf.out.trans (b.mono kwf.out.size))
    clear b
    have kw5 := Lib.hid (Below.refl w5.heap.size w5)
    have vS := Lib.hid (fun W (B : Below w5.heap.size w5 W) => hg.below B)
    clear hg
    go_upto_region 13 with (fail)
    obtain ⟨wg, hwg⟩ : ∃ W, W = w5.alloc (.cells #[.slice s1 n1 s2, .slice s3 n2 s4, .slice s5 n3 s6] 26) := ⟨_, rfl⟩
    rw [← hwg]
    obtain ⟨bb, hpwg0⟩ := box_new hwg
    have hpwg := Lib.hid hpwg0
    clear hwg hpwg0
    replace kw := Lib.hid (kw.out.trans (bb.mono kw.out.size))
    replace kwd := Lib.hid (kwd.out.trans (bb.mono kwd.out.size))
    replace kw3 := Lib.hid (kw3.out.trans (bb.mono kw3.out.size))
    replace kwe := Lib.hid (kwe.out.trans (bb.mono kwe.out.size))
    replace kw4 := Lib.hid (kw4.out.trans (bb.mono kw4.out.size))
    replace kwf := Lib.hid (kwf.out.trans (bb.mono kwf.out.size))
    replace kw5 := Lib.hid (kw5.out.trans (bb.mono kw5.out.size))
    clear bb
    have kwg := Lib.hid (Below.refl wg.heap.size wg)
    obtain ⟨t0, t1, t2⟩ := box3 (hT.out _ kwd.out)
    obtain ⟨p0, p1, p2, p3, p4, p5, p6, p7, p8, p9, pA, pB, pC⟩ := ch_cells (c := c) (a := .slice ca1 m1 ca2) (b := .slice cb1 m2 cb2) (hpwe.out _ kwe.out)
    obtain ⟨q0, q1, q2, q3, q4, q5, q6, q7, q8, q9, qA, qB, qC⟩ := ch_cells (c := d) (a := .slice da1 m3 da2) (b := .slice db1 m4 db2) (hpwf.out _ kwf.out)
    go_wp2_with fail
    have dl1 := hcL.out _ kw3.out
    have dl2 := hdL.out _ kw4.out
    have vg1 := vG.out _ kwd.out
    have b0 := (Below.refl _ wg).alloc (Nat.le_refl _) (.cells #[.int .i64 d.kind, .int .i64 d.v.id, .int .i64 d.v.side, .int .i64 d.e.id, .int .i64 d.e.src, .int .i64 d.e.dst, .bool d.e.dir, .int .i64 d.e.wt, .int .i64 d.e.cap, .int .i64 d.id, .int .i64 d.n, .slice da1 m3 da2, .slice db1 m4 db2, .int .i64 c.kind, .int .i64 c.v.id, .int .i64 c.v.side, .int .i64 c.e.id, .int .i64 c.e.src, .int .i64 c.e.dst, .bool c.e.dir, .int .i64 c.e.wt, .int .i64 c.e.cap, .int .i64 c.id, .int .i64 c.n, .slice ca1 m1 ca2, .slice cb1 m2 cb2] 33)
    replace kw := Lib.hid (kw.out.trans (b0.mono kw.out.size))
    replace kwd := Lib.hid (kwd.out.trans (b0.mono kwd.out.size))
    replace kw3 := Lib.hid (kw3.out.trans (b0.mono kw3.out.size))
    replace kwe := Lib.hid (kwe.out.trans (b0.mono kwe.out.size))
    replace kw4 := Lib.hid (kw4.out.trans (b0.mono kw4.out.size))
    replace kwf := Lib.hid (kwf.out.trans (b0.mono kwf.out.size))
    replace kw5 := Lib.hid (kw5.out.trans (b0.mono kw5.out.size))
    replace kwg := Lib.hid (kwg.out.trans (b0.mono kwg.out.size))
    clear b0
    with_reducible refine (cT2.out _ _ _ _ _ wg vg1 dl2.1 dl2.2 dl1.1 dl1.2).mono ?_
    rintro e w6 ⟨r, rfl, z1, z2, z3, z4, z5, z6, hr, hg, b⟩
    rw [← hn1.out, ← hn2.out, ← hn3.out] at hr
    subst hr
    clear dl1 dl2 vg1 t0 t1 t2
    clear p0 p1 p2 p3 p4 p5 p6 p7 p8 p9 pA pB pC
    clear q0 q1 q2 q3 q4 q5 q6 q7 q8 q9 qA qB qC
    replace kw := Lib.hid (kw.out.trans (b.mono kw.out.size))
    replace kwd := Lib.hid (kwd.out.trans (b.mono kwd.out.size))
    replace kw3 := Lib.hid (kw3.out.trans (b.mono kw3.out.size))
    replace kwe := Lib.hid (kwe.out.trans (b.mono kwe.out.size))
    replace kw4 := Lib.hid (kw4.out.trans (b.mono kw4.out.size))
    replace kwf := Lib.hid (kwf.out.trans (b.mono kwf.out.size))
    replace kw5 := Lib.hid (kw5.out.trans (b.mono kw5.out.size))
    replace kwg := Lib.hid (kwg.out.trans (b.mono kwg.out.size))
    clear b
    have kw6 := Lib.hid (Below.refl w6.heap.size w6)
    have vZ := Lib.hid (fun W (B : Below w6.heap.size w6 W) => hg.below B)
    clear hg
    go_upto_region 14 with (fail)
    obtain ⟨wh, hwh⟩ : ∃ W, W = w6.alloc (.cells #[.slice z1 n1 z2, .slice z3 n2 z4, .slice z5 n3 z6] 26) := ⟨_, rfl⟩
    rw [← hwh]
    obtain ⟨bb, hpwh0⟩ := box_new hwh
    have hpwh := Lib.hid hpwh0
    clear hwh hpwh0
    replace kw := Lib.hid (kw.out.trans (bb.mono kw.out.size))
    replace kwd := Lib.hid (kwd.out.trans (bb.mono kwd.out.size))
    replace kw3 := Lib.hid (kw3.out.trans (bb.mono kw3.out.size))
    replace kwe := Lib.hid (kwe.out.trans (bb.mono kwe.out.size))
    replace kw4 := Lib.hid (kw4.out.trans (bb.mono kw4.out.size))
    replace kwf := Lib.hid (kwf.out.trans (bb.mono kwf.out.size))
    replace kw5 := Lib.hid (kw5.out.trans (bb.mono kw5.out.size))
    replace kwg := Lib.hid (kwg.out.trans (bb.mono kwg.out.size))
    replace kw6 := Lib.hid (kw6.out.trans (bb.mono kw6.out.size))
    clear bb
    have kwh := Lib.hid (Below.refl wh.heap.size wh)
    obtain ⟨t0, t1, t2⟩ := box3 (hpwg.out _ kwg.out)
    obtain ⟨j0, j1, j2⟩ := box3 (hpwh.out _ kwh.out)
    have hsame := Lib.hid (Same_any _ _ g' g' wh (vS.out _ kw5.out) (vZ.out _ kw6.out) hsmh.out hsmh.out)
    rw [show sameG g' g' = true from (sameG_iff g' g').2 rfl] at hsame
    go_wp2_with fail
    with_reducible refine hsame.out.mono ?_
    rintro e w7 ⟨rfl, b⟩
    clear t0 t1 t2 j0 j1 j2
    replace kw := Lib.hid (kw.out.trans (b.mono kw.out.size))
    replace kwd := Lib.hid (kwd.out.trans (b.mono kwd.out.size))
    replace kw3 := Lib.hid (kw3.out.trans (b.mono kw3.out.size))
    replace kwe := Lib.hid (kwe.out.trans (b.mono kwe.out.size))
    replace kw4 := Lib.hid (kw4.out.trans (b.mono kw4.out.size))
    replace kwf := Lib.hid (kwf.out.trans (b.mono kwf.out.size))
    replace kw5 := Lib.hid (kw5.out.trans (b.mono kw5.out.size))
    replace kwg := Lib.hid (kwg.out.trans (b.mono kwg.out.size))
    replace kw6 := Lib.hid (kw6.out.trans (b.mono kw6.out.size))
    replace kwh := Lib.hid (kwh.out.trans (b.mono kwh.out.size))
    clear b
    go_wp2_with fail
    go_ret
    exact ⟨rfl, kw.out⟩
end Go.Proofs.YtlaldnlgapeckaaGreat
