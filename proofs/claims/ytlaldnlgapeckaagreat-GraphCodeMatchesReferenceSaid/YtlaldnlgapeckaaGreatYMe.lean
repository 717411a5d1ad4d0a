/- Contracts and facts. -/
import Derived.Test.YtlaldnlgapeckaaGreatYK
import Derived.Test.YtlaldnlgapeckaaGreatYH
set_option linter.unusedSimpArgs false
set_option maxRecDepth 100000
set_option maxHeartbeats 4000000
namespace Go.Proofs.YtlaldnlgapeckaaGreat
open Go.RowKit
/-- a box of two cells, and a cell that was there -/
theorem box2_world (w w1 : World) (a b : Value) (t : TypeId) (hw1 : w1 = w.alloc (.cells #[a, b] t)) :
  Below w.heap.size w w1 ∧ w1.heap.size = w.heap.size + 1 ∧ ∀ W, Below w1.heap.size w1 W → W.cell? ⟨w.heap.size, 0, none⟩ = some a ∧ W.cell? ⟨w.heap.size, 1, none⟩ = some b := by
 subst hw1;refine ⟨(Below.refl _ w).alloc (Nat.le_refl _) _, by simp, fun W B => ⟨?_, ?_⟩⟩
 ·rw [B.cell (p := ⟨w.heap.size, 0, none⟩) (by simp)]; exact World.cell?_alloc_at _ _ _ _ rfl
 ·rw [B.cell (p := ⟨w.heap.size, 1, none⟩) (by simp)]; exact World.cell?_alloc_at _ _ _ _ rfl
theorem old_cell {w w1 : World} {b i : Nat} {v : Value} (hc : w.cell? ⟨b, i, none⟩ = some v) (B1 : Below w.heap.size w w1) (W : World) (B : Below w1.heap.size w1 W) : W.cell? ⟨b, i, none⟩ = some v := by
 have hb := block_lt_of_cell hc;rw [B.cell (p := ⟨b, i, none⟩) (Nat.lt_of_lt_of_le hb B1.size), B1.cell (p := ⟨b, i, none⟩) hb]; exact hc
theorem canAdd_any (db : Nat) (vv : Value) (l : List Vx) (v : Vx) (w : World) (hd : w.cell? ⟨db, 0, none⟩ = some vv) (hv : VL w vv l) (hn : l.length ≤ 1000000000000) (hs : Asc (keysV l)) :
  Calls Tryz.prog 123 #[.pointer (some ⟨db, 0, none⟩), v.val] w fun e w' => e = .returned (.bool (v.ok && !decide (v.id ∈ keysV l))) ∧ Below w.heap.size w w' := by
 obtain ⟨w1, hw1⟩ : ∃ w1, w1 = w.alloc (.cells #[.int .i64 v.id, .int .i64 v.side] 29) := ⟨_, rfl⟩;obtain ⟨B1, z1, hbox⟩ := box2_world w w1 _ _ 29 hw1;have hcell := Hd (show ∀ W, Below w1.heap.size w1 W → W.cell? ⟨db, 0, none⟩ = some vv ∧ W.cell? ⟨w.heap.size, 0, none⟩ = some (.int .i64 v.id) ∧ W.cell? ⟨w.heap.size, 1, none⟩ = some (.int .i64 v.side) from fun W B => ⟨old_cell hd B1 W B, hbox W B⟩);have k1 := Hd (fun W (_ : Below w1.heap.size w1 W) => validVertex_any v W);have k2 := Hd (fun W (B : Below w1.heap.size w1 W) => has_any vv l v.id W ((hv.below B1).below B) hn hs);have hB := Hd (fun W (B : Below w1.heap.size w1 W) => B1.trans (B.mono B1.size));have hw1h := Hd hw1;obtain ⟨a, c, rfl⟩ := hv.shape;unfold Vx.val at k1 ⊢;generalize v.ok = x1 at *
 generalize decide (v.id ∈ keysV l) = x2 at *
 generalize l.length = n at *
 clear hv hs hd hbox hw1 B1;cases x1 with
 | false =>
  go_enter Tryz.func123, Tryz.ntmps123;go_wp2_with fail;rw [← hw1h.out];refine wp_region_F (fun w' : World => Below w1.heap.size w1 w') 999 (by kernel_rfl) (Below.refl _ _).drew (fun hHeld => ?_);refine tkP 0 rfl ?_ (by (intro w hSw; obtain ⟨d0, d1, d2⟩ := hcell.out w hSw; go_simp) <;> with_reducible rfl);refine rdy [1] ?_;refine arC rfl (fun K hK => ?_) ?_
  ·skip
   go_simp;refine (k1.out _ hHeld).mono ?_;rintro e w2 ⟨rfl, b⟩;have h2 : Below w1.heap.size w1 w2 := hHeld.trans (b.mono hHeld.size);clear b;go_wp2_with fail;refine hK.out _ _ ?_ (fun hHeld => ?_)
   ·exact h2
   clear hK K;try simp only [Act.put, zT, z0, zS]
   refine tkP 2 rfl ?_;refine tkU 3 rfl ?_;refine tkU 4 rfl ?_;refine tkU 5 rfl ?_;refine tkU 6 rfl ?_;refine tkU 7 rfl ?_;refine tkU 8 rfl ?_;refine tkU 9 rfl ?_;refine tkU 10 rfl ?_;refine tkU 11 rfl ?_;refine tkP 12 rfl ?_;refine tkP 13 rfl ?_;refine wpAnyF_done (by kernel_rfl) ?_ _;go_wp2_with fail;go_ret;exact ⟨rfl, hB.out _ hHeld⟩
  exact AllReadyF.nil
 | true =>
  go_enter Tryz.func123, Tryz.ntmps123;go_wp2_with fail;rw [← hw1h.out];refine wp_region_F (fun w' : World => Below w1.heap.size w1 w') 999 (by kernel_rfl) (Below.refl _ _).drew (fun hHeld => ?_);refine tkP 0 rfl ?_ (by (intro w hSw; obtain ⟨d0, d1, d2⟩ := hcell.out w hSw; go_simp) <;> with_reducible rfl);refine rdy [1] ?_;refine arC rfl (fun K hK => ?_) ?_
  ·skip
   go_simp;refine (k1.out _ hHeld).mono ?_;rintro e w2 ⟨rfl, b⟩;have h2 : Below w1.heap.size w1 w2 := hHeld.trans (b.mono hHeld.size);clear b;go_wp2_with fail;refine hK.out _ _ ?_ (fun hHeld => ?_)
   ·exact h2
   clear hK K;try simp only [Act.put, zT, z0, zS]
   refine tkP 2 rfl ?_;refine tkP 3 rfl ?_;refine tkP 4 rfl ?_;refine tkP 5 rfl ?_;refine tkP 6 rfl ?_;refine tkP 7 rfl ?_ (by (intro w hSw; obtain ⟨d0, d1, d2⟩ := hcell.out w hSw; go_simp) <;> with_reducible rfl);refine tkP 8 rfl ?_;refine tkP 9 rfl ?_ (by (intro w hSw; obtain ⟨d0, d1, d2⟩ := hcell.out w hSw; go_simp) <;> with_reducible rfl);refine rdy [10] ?_;refine arC rfl (fun K hK => ?_) ?_
   ·skip
    go_simp;refine (k2.out _ hHeld).mono ?_;rintro e w3 ⟨rfl, b⟩;have h3 : Below w1.heap.size w1 w3 := hHeld.trans (b.mono hHeld.size);clear b;go_wp2_with fail;refine hK.out _ _ ?_ (fun hHeld => ?_)
    ·exact h3
    clear hK K;try simp only [Act.put, zT, z0, zS]
    refine tkP 11 rfl ?_;refine tkP 12 rfl ?_;refine tkP 13 rfl ?_;refine wpAnyF_done (by kernel_rfl) ?_ _;go_wp2_with fail;go_ret;exact ⟨rfl, hB.out _ hHeld⟩
   exact AllReadyF.nil
  exact AllReadyF.nil
theorem size29 : (Tryz.prog.info? 29).map (·.size) = some 2 := by kernel_rfl
/-- a slice literal of one vertex, laid -/
theorem lit_world (w w1 : World) (cs : Array Value) (t : TypeId) (hw1 : w1 = w.alloc (.cells cs t)) : w1.heap[w.heap.size]? = some (.cells cs t (0, 0)) ∧ Below w.heap.size w w1 ∧ w1.heap.size = w.heap.size + 1 := by
 subst hw1;exact ⟨heap_alloc_new w _, (Below.refl _ w).alloc (Nat.le_refl _) _, by simp⟩
theorem insert_any (B db : Nat) (vv ev dv mv : Value) (g : Gr) (v : Vx) (w : World) (h : DrV w B db vv ev dv mv g) (hn : g.vs.length ≤ 1000) (hs : Asc (keysV g.vs)) :
  Calls Tryz.prog 124 #[.pointer (some ⟨db, 0, none⟩), v.val] w fun e w' => e = .returned (.tuple #[]) ∧ ∃ vv', DrV w' B db vv' ev dv mv { g with vs := insV g.vs v } ∧ KD B w w' := by
 obtain ⟨w1, hw1⟩ : ∃ w1, w1 = w.alloc (.cells #[.int .i64 v.id, .int .i64 v.side] 29) := ⟨_, rfl⟩;obtain ⟨B1, z1, hbox⟩ := box2_world w w1 _ _ 29 hw1;have hd := h.cells.1;have hcell := Hd (show ∀ W, Below w1.heap.size w1 W → W.cell? ⟨db, 0, none⟩ = some vv ∧ W.cell? ⟨w.heap.size, 0, none⟩ = some (.int .i64 v.id) ∧ W.cell? ⟨w.heap.size, 1, none⟩ = some (.int .i64 v.side) from fun W B => ⟨old_cell hd B1 W B, hbox W B⟩);have k1 := Hd (fun W (B : Below w1.heap.size w1 W) => place_any vv g.vs v.id W ((h.v.VL.below B1).below B) (by omega) hs);have hle : posK (keysV g.vs) v.id ≤ g.vs.length := by unfold posK; have := List.takeWhile_sublist (fun k => decide (k < v.id)) (l := keysV g.vs); have := this.length_le; simpa [keysV] using this
 have hins := Hd (insV_eq g.vs v hs);obtain ⟨p, hp⟩ : ∃ p, p = posK (keysV g.vs) v.id := ⟨_, rfl⟩;rw [← hp] at k1 hle hins;have hrow : Hid (∀ gb, vv.ownBlock = some gb → gb < w.heap.size) := fun gb e => by obtain ⟨_, cur, hc⟩ := own_row h.v gb e; exact (Array.getElem?_eq_some_iff.1 hc).1
 have hlt := h.lt;have hne : Hid (vv.ownBlock ≠ some db) := fun e => by obtain ⟨_, cur, hc⟩ := own_row h.v db e; rw [h.box] at hc; simp at hc
 have k2 := Hd (fun (W : World) (B0 : Below w1.heap.size w1 W) => show Calls Tryz.prog 139 #[vv, .int .i64 p, .slice (some ⟨W.heap.size, 0, none⟩) 1 1] (W.alloc (.cells #[.int .i64 v.id, .int .i64 v.side] 29)) fun e w' => ∃ a' n' c', e = .returned (.slice a' n' c') ∧
   Hid (w'.cell? ⟨db, 0, none⟩ = some vv ∧ w'.cell? ⟨w.heap.size, 0, none⟩ = some (.int .i64 v.id) ∧ w'.cell? ⟨w.heap.size, 1, none⟩ = some (.int .i64 v.side)) ∧ Hid (w'.frozen? ⟨db, 0, none⟩ = false) ∧
   Hid (DrV (w'.setCell ⟨db, 0, none⟩ (.slice a' n' c')) B db (.slice a' n' c') ev dv mv { g with vs := insV g.vs v } ∧ KD B w (w'.setCell ⟨db, 0, none⟩ (.slice a' n' c'))) from by
  obtain ⟨w2, hw2⟩ : ∃ w2, w2 = W.alloc (.cells #[.int .i64 v.id, .int .i64 v.side] 29) := ⟨_, rfl⟩;obtain ⟨l1, l2, l3⟩ := lit_world W w2 _ _ hw2;have h2 := (h.below (B1.trans (B0.mono B1.size))).below l2;have B2 : Below w.heap.size w w2 := B1.trans ((B0.trans (l2.mono B0.size)).mono B1.size);have hsz := B0.size;rw [← hw2];refine (InsertV_any B vv g.vs p v W.heap.size w2 h2.v hle (by omega) h2.base l1 (fun e => by have := hrow.out _ e; omega)).mono ?_;rintro e w' ⟨v', rfl, ho, hg⟩;obtain ⟨a', c', rfl⟩ := ho.VL.shape;have hc := hcell.out w2 (B0.trans (l2.mono B0.size));have far : ∀ (q : Addr) (u : Value), w2.cell? q = some u → vv.ownBlock ≠ some q.block → w'.cell? q = some u := fun q u e hne' => hg.cell e (fun e2 => hne' e2.symm);refine ⟨_, _, _, rfl, ⟨far _ _ hc.1 hne.out, far _ _ hc.2.1 (fun e => by have := hrow.out _ e; simp at this), far _ _ hc.2.2 (fun e => by have := hrow.out _ e; simp at this)⟩, ?_, ?_⟩
  ·show _ = _;rw [World.frozen?_of_block (hg.block db h2.lt (fun e => hne.out e.symm))]; exact h2.free 0
  ·rw [hins.out];obtain ⟨q1, q2⟩ := h2.setV hg ho;exact ⟨q1, (KD.of B2 h.base).trans q2⟩)
 have hw1h := Hd hw1;obtain ⟨a, c, hve⟩ := h.v.VL.shape;unfold Vx.val;have hf := Hd (fun W (B : Below w1.heap.size w1 W) => hcell.out W B);clear hbox hw1 hd hp hins hrow hne h hs B1;subst hve;generalize g.vs.length = n at *
 generalize decide (v.id ∈ keysV g.vs) = x2 at *
 go_enter Tryz.func124, Tryz.ntmps124;go_wp2_with fail;rw [← hw1h.out];refine wp_region_F (fun w' : World => Below w1.heap.size w1 w') 999 (by kernel_rfl) (Below.refl _ _).drew (fun hHeld => ?_);refine tkP 0 rfl ?_;refine tkP 1 rfl ?_;refine tkP 2 rfl ?_;refine tkP 3 rfl ?_;refine tkP 4 rfl ?_ (by (intro w hSw; obtain ⟨d0, d1, d2⟩ := hcell.out w hSw; go_simp) <;> with_reducible rfl);refine tkP 5 rfl ?_;refine tkP 6 rfl ?_ (by (intro w hSw; obtain ⟨d0, d1, d2⟩ := hcell.out w hSw; go_simp) <;> with_reducible rfl);refine rdy [7] ?_;refine arC rfl (fun K hK => ?_) ?_
 ·skip
  go_simp;refine (k1.out _ hHeld).mono ?_;rintro e w2 ⟨rfl, b⟩;have hq : Below w1.heap.size w1 w2 := hHeld.trans (b.mono hHeld.size);clear b;go_wp2_with fail;refine hK.out _ _ ?_ (fun hHeld => ?_)
  ·exact hq
  clear hK K;try simp only [Act.put, zT, z0, zS]
  refine tkP 8 rfl ?_;refine tkP 9 rfl ?_;refine tkP 10 rfl ?_;refine tkP 11 rfl ?_;refine tkP 12 rfl ?_;refine wpAnyF_done (by kernel_rfl) ?_ _;go_wp2_with fail;refine wp_region_F (fun w' : World => w'.cell? ⟨db, 0, none⟩ = some (.slice a n c) ∧ w'.cell? ⟨w.heap.size, 0, none⟩ = some (.int .i64 v.id) ∧ w'.cell? ⟨w.heap.size, 1, none⟩ = some (.int .i64 v.side)) 13 (by kernel_rfl) (hcell.out _ hq.drew) (fun hHeld => ?_);refine tkP 0 rfl ?_;refine tkP 1 rfl ?_;refine tkP 2 rfl ?_;refine tkP 3 rfl ?_;refine tkP 4 rfl ?_;refine tkP 5 rfl ?_ (by (intro w hSw; obtain ⟨d0, d1, d2⟩ := hSw; go_simp) <;> with_reducible rfl);refine tkP 6 rfl ?_;refine tkP 7 rfl ?_ (by (intro w hSw; obtain ⟨d0, d1, d2⟩ := hSw; go_simp) <;> with_reducible rfl);refine rdy [8] ?_;refine arC rfl (fun K hK => ?_) ?_
  ·skip
   go_simp;obtain ⟨c0, c1, c2⟩ := hHeld;refine hK.out _ _ ?_ (fun hHeld => ?_)
   ·exact (hcell.out _ (hq.drew.alloc hq.size _))
   clear hK K;try simp only [Act.put, zT, z0, zS]
   refine rdy [9] ?_;refine arC rfl (fun K hK => ?_) ?_
   ·skip
    go_simp;refine (k2.out _ hq.drew).mono ?_;rintro e w4 ⟨a', n', c', rfl, s1, s2, s3⟩;go_wp2_with fail;refine hK.out _ _ ?_ (fun hHeld => ?_)
    ·exact s1.out
    clear hK K;try simp only [Act.put, zT, z0, zS]
    refine rdy [10] ?_;refine arC rfl (fun K hK => ?_) ?_
    ·skip
     go_simp;refine hK.out _ _ ?_ (fun hHeld => ?_)
     ·exact hHeld
     clear hK K;try simp only [Act.put, zT, z0, zS]
     refine rdy [11] ?_;refine arC rfl (fun K hK => ?_) ?_
     ·skip
      go_simp;refine hK.out _ _ ?_ (fun hHeld => ?_)
      ·exact hHeld
      clear hK K;try simp only [Act.put, zT, z0, zS]
      refine rdy [12] ?_;refine arC rfl (fun K hK => ?_) ?_
      ·skip
       go_simp;refine hK.out _ _ ?_ (fun hHeld => ?_)
       ·exact hHeld
       clear hK K;try simp only [Act.put, zT, z0, zS]
       refine rdy [13] ?_;refine AllReadyF.last (o := ⟨none, .store 22 (.tmp 29) (.tmp 26), _, _, _, none⟩) rfl (fun K hK => ?_) ?_
       ·skip
        go_simp;obtain ⟨c0, c1, c2⟩ := hHeld;have c3 := s2.out;go_simp;refine hK.out _ _ ?_;clear hK K;try simp only [Act.put, zT, z0, zS]
        refine wpAnyF_done (by kernel_rfl) ?_ _;go_wp2_with fail
        go_end0
        exact ⟨rfl, _, s3.out.1, s3.out.2⟩
       exact AllReadyF.nil
      exact AllReadyF.nil
     exact AllReadyF.nil
    exact AllReadyF.nil
   exact AllReadyF.nil
  exact AllReadyF.nil
 exact AllReadyF.nil
theorem remove_any (B db : Nat) (vv ev dv mv : Value) (g : Gr) (x : Int) (w : World) (h : DrV w B db vv ev dv mv g) (hn : g.vs.length ≤ 1000) (hs : Asc (keysV g.vs)) (hx : x ∈ keysV g.vs) :
  Calls Tryz.prog 127 #[.pointer (some ⟨db, 0, none⟩), .int .i64 x] w fun e w' => e = .returned (getV g.vs x).val ∧ ∃ vv', DrV w' B db vv' ev dv mv { g with vs := delV g.vs x } ∧ KD B w w' := by
 obtain ⟨w1, hw1⟩ : ∃ w1, w1 = w.alloc (.cells #[.int .i64 0, .int .i64 0] 29) := ⟨_, rfl⟩;obtain ⟨l1, B1, z1⟩ := lit_world w w1 _ _ hw1;have hd := h.cells.1;have hcell := Hd (show ∀ W, Below w1.heap.size w1 W → W.cell? ⟨db, 0, none⟩ = some vv from fun W B => old_cell hd B1 W B);have k1 := Hd (fun W (B : Below w1.heap.size w1 W) => place_any vv g.vs x W ((h.v.VL.below B1).below B) (by omega) hs);obtain ⟨hp1, hp2⟩ := posV_lt g.vs x hs hx;have hget := getV_eq g.vs x hs hp1 hp2;have hdel := Hd (delV_eq g.vs x hs hx);obtain ⟨p, hp⟩ : ∃ p, p = posK (keysV g.vs) x := ⟨_, rfl⟩;simp only [← hp] at k1 hp1 hp2 hget hdel;have hne0 : g.vs ≠ [] := fun e => by rw [e] at hp1; simp at hp1
 obtain ⟨gb, o, c, hve, hlc, hgb, hL⟩ := h.v.VL.own hne0;have hrowlt := hgb;obtain ⟨r0, r1⟩ := hL p _ (List.getElem?_eq_getElem hp1);have hr0 := Hd (show ∀ W, Below w1.heap.size w1 W → W.cell? ⟨gb, o + p * 2, none⟩ = some (.int .i64 (getV g.vs x).id) ∧ W.cell? ⟨gb, o + p * 2 + 1, none⟩ = some (.int .i64 (getV g.vs x).side) from fun W B => by rw [hget]; exact ⟨old_cell r0 B1 W B, old_cell r1 B1 W B⟩);have ho0 : o = 0 := by
  have h2 := h.v.2;rcases h2 with ⟨e, _⟩ | ⟨g', cap, cur, e, _⟩
  ·rw [hve] at e; cases e
  ·rw [hve] at e; injection e with e; injection e with e; injection e with _ e
 subst ho0;generalize getV g.vs x = u at *
 have hne : Hid (gb ≠ db) := fun e => by obtain ⟨_, cur, hc⟩ := own_row h.v gb (by rw [hve]; rfl); rw [e, h.box] at hc; simp at hc
 have k2 := Hd (fun (w2 : World) (Bx : Below w1.heap.size w1 w2) (w3 : World) (hw3 : w3 = w2.alloc (.cells #[.int .i64 u.id, .int .i64 u.side] 29)) (W : World) (B0 : Below w3.heap.size w3 W) =>
  show Calls Tryz.prog 141 #[vv, .int .i64 p, .int .i64 ((p : Int) + 1)] W fun e w' => ∃ a' n' c', e = .returned (.slice a' n' c') ∧ Hid (w'.cell? ⟨db, 0, none⟩ = some vv) ∧ Hid (w'.frozen? ⟨db, 0, none⟩ = false) ∧
   Hid (DrV (w'.setCell ⟨db, 0, none⟩ (.slice a' n' c')) B db (.slice a' n' c') ev dv mv { g with vs := delV g.vs x } ∧ KD B w (w'.setCell ⟨db, 0, none⟩ (.slice a' n' c')) ∧
    (w'.setCell ⟨db, 0, none⟩ (.slice a' n' c')).heap[w.heap.size]? = some (.cells #[.int .i64 0, .int .i64 0] 29 (0, 0)) ∧
    (w'.setCell ⟨db, 0, none⟩ (.slice a' n' c')).heap[w2.heap.size]? = some (.cells #[.int .i64 u.id, .int .i64 u.side] 29 (0, 0)) ∧ (Value.slice a' n' c').ownBlock ≠ some w.heap.size) from by
  obtain ⟨m1, m2, m3⟩ := lit_world w2 w3 _ _ hw3;have B3 : Below w.heap.size w W := ((B1.trans (Bx.mono B1.size)).trans ((m2.trans (B0.mono m2.size)).mono (Nat.le_trans B1.size Bx.size)));have h2 := h.below B3;have sz1 := Bx.size;have sz2 := B0.size;have hltd := h.lt;refine (DeleteV_own B vv g.vs p W h2.v hp1 (by omega)).mono ?_;rintro e w' ⟨v', rfl, ho, hg, hob⟩;obtain ⟨a', c', rfl⟩ := ho.VL.shape;have hvo : vv.ownBlock = some gb := by rw [hve]; rfl
  have q0 : W.heap[w.heap.size]? = some (.cells #[.int .i64 0, .int .i64 0] 29 (0, 0)) := by
   rw [B0.block _ (by omega), m2.block _ (by omega), Bx.block _ (by omega)]; exact l1
  have q1 : W.heap[w2.heap.size]? = some (.cells #[.int .i64 u.id, .int .i64 u.side] 29 (0, 0)) := by
   rw [B0.block _ (by omega)]; exact m1
  have far : ∀ k, k < W.heap.size → k ≠ gb → w'.heap[k]? = W.heap[k]? := fun k hk hkn => hg.block k hk (by rw [hvo]; intro e; injection e with e; exact hkn e);refine ⟨_, _, _, rfl, ?_, ?_, ?_⟩
  ·show _ = _;rw [World.cell?_of_block (far db h2.lt (Ne.symm hne.out))]; exact h2.cells.1
  ·show _ = _;rw [World.frozen?_of_block (far db h2.lt (Ne.symm hne.out))]; exact h2.free 0
  ·rw [hdel.out];obtain ⟨y1, y2⟩ := h2.setV hg ho;refine ⟨y1, (KD.of B3 h.base).trans y2, ?_, ?_, ?_⟩
   ·rw [heap_setCell_other _ _ _ _ (by show _ ≠ db; omega), far _ (by omega) (by omega)]; exact q0
   ·rw [heap_setCell_other _ _ _ _ (by show _ ≠ db; omega), far _ (by omega) (by omega)]; exact q1
   ·rw [hob, hvo]; intro e; injection e with e; omega)
 have fin := Hd (fun (W5 : World) (v' : Value) (q : DrV W5 B db v' ev dv mv { g with vs := delV g.vs x } ∧ KD B w W5 ∧ W5.heap[w.heap.size]? = some (.cells #[.int .i64 0, .int .i64 0] 29 (0, 0)) ∧ v'.ownBlock ≠ some w.heap.size) =>
  show DrV ((W5.setCell ⟨w.heap.size, 0, none⟩ (.int .i64 u.id)).setCell ⟨w.heap.size, 1, none⟩ (.int .i64 u.side)) B db v' ev dv mv { g with vs := delV g.vs x } ∧ KD B w ((W5.setCell ⟨w.heap.size, 0, none⟩ (.int .i64 u.id)).setCell ⟨w.heap.size, 1, none⟩ (.int .i64 u.side)) ∧
   ((W5.setCell ⟨w.heap.size, 0, none⟩ (.int .i64 u.id)).setCell ⟨w.heap.size, 1, none⟩ (.int .i64 u.side)).heap[w.heap.size]? = some (.cells #[.int .i64 u.id, .int .i64 u.side] 29 (0, 0)) from by
  obtain ⟨a1, a2, a3, a4⟩ := q;have c1 := heap_setCell_same W5 w.heap.size 0 _ 29 (.int .i64 u.id) a3;exact ⟨(a1.setOther (p := ⟨w.heap.size, 0, none⟩) a3 (by decide) a4).setOther (p := ⟨w.heap.size, 1, none⟩) c1 (by decide) a4, (a2.setNew (p := ⟨w.heap.size, 0, none⟩) (Nat.le_refl _) h.base _).setNew (p := ⟨w.heap.size, 1, none⟩) (Nat.le_refl _) h.base _, heap_setCell_same _ w.heap.size 1 _ 29 _ c1⟩)
 have hw1h := Hd hw1;have i0 : (0 : Int) ≤ (p : Int) := by omega
 have i1 : (p : Int) < (g.vs.length : Int) := by omega
 have hp63 : p ≤ 1000 := by omega
 unfold Vx.val;clear hw1 hd hp hp1 hp2 hget hdel hne h hs hx hL r0 r1 hne0 l1 hlc hn hgb;subst hve;generalize g.vs.length = n at *
 generalize decide (x ∈ keysV g.vs) = x2 at *
 have d0 := hcell.out w1 (Below.refl _ _);rw [hw1h.out] at d0;go_enter Tryz.func127, Tryz.ntmps127;go_wp2_with fail;rw [← hw1h.out];refine (k1.out w1 (Below.refl _ _)).mono ?_;rintro e w2 ⟨rfl, hq⟩;obtain ⟨c0, c1⟩ := hr0.out w2 hq;simp only [Nat.zero_add] at c0 c1;have d0 := hcell.out w2 hq;obtain ⟨w3, hw3⟩ : ∃ w3, w3 = w2.alloc (.cells #[.int .i64 u.id, .int .i64 u.side] 29) := ⟨_, rfl⟩;have k3 := Hd (k2.out w2 hq w3 hw3);have hc3 := hcell.out w3 (hq.trans ((lit_world w2 w3 _ _ hw3).2.1.mono hq.size));rw [hw3] at hc3;have hw3h := Hd hw3;have e9 : IntKind.i64.wrap ((p : Int) + 1) = (p : Int) + 1 := IntWalk.i64_in _ (by omega);clear hw3;go_wp2_with fail;rw [← hw3h.out];refine (k3.out _ (Below.refl _ _)).mono ?_;rintro e w5 ⟨a', n', c', rfl, s1, s2, s3⟩;have c4 := s1.out;have c5 := s2.out;obtain ⟨W5, hW5⟩ : ∃ W5, W5 = w5.setCell ⟨db, 0, none⟩ (.slice a' n' c') := ⟨_, rfl⟩;rw [← hW5] at s3;obtain ⟨y1, y2, y3, y4, y5⟩ := s3.out;have fn := Hd (fin.out W5 _ ⟨y1, y2, y3, y5⟩);have e0 : W5.cell? ⟨w2.heap.size, 0, none⟩ = some (.int .i64 u.id) := by rw [cell_of_row _ _ _ _ _ _ y4]; rfl
 have e1 : W5.cell? ⟨w2.heap.size, 1, none⟩ = some (.int .i64 u.side) := by rw [cell_of_row _ _ _ _ _ _ y4]; rfl
 have e2 : W5.cell? ⟨w.heap.size, 0, none⟩ = some (.int .i64 0) := by rw [cell_of_row _ _ _ _ _ _ y3]; rfl
 have e3 : W5.cell? ⟨w.heap.size, 1, none⟩ = some (.int .i64 0) := by rw [cell_of_row _ _ _ _ _ _ y3]; rfl
 have e4 : W5.frozen? ⟨w.heap.size, 0, none⟩ = false := frozen_of_row _ _ _ _ _ y3;have e5 : W5.frozen? ⟨w.heap.size, 1, none⟩ = false := frozen_of_row _ _ _ _ _ y3;clear y1 y2 y3 y4 y5 s3;rw [hW5] at e0 e1 e2 e3 e4 e5 fn;clear hW5;go_wp2_with fail;refine bodyPost_ret (results_cell_row (fn := Tryz.f127) rfl _ _ w.heap.size 29 _ (0, 0) _ rfl fn.out.2.2 Tryz.underlying29 rfl size29) rfl ?_;exact ⟨rfl, _, fn.out.1, fn.out.2.1⟩
end Go.Proofs.YtlaldnlgapeckaaGreat
