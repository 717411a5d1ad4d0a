/- Contracts and facts. -/
import Derived.Test.YtlaldnlgapeckaaGreatYQt
import Derived.Test.YtlaldnlgapeckaaGreatYAk
import Derived.Test.YtlaldnlgapeckaaGreatYH
set_option linter.unusedSimpArgs false
set_option maxRecDepth 100000
set_option maxHeartbeats 4000000
namespace Go.Proofs.YtlaldnlgapeckaaGreat
open Go.RowKit
theorem act3_any (B db : Nat) (vv ev dv mv : Value) (g : Gr) (vc : Value) (c : Ch) (w : World) (h : DrV w B db vv ev dv mv g) (hg : Ok g) (hc : ∀ W, KD B w W → CV W vc c) (_hlen : c.ends.length ≤ 1000000 ∧ c.deps.length ≤ 1000000) :
  Calls Tryz.prog 105 #[.pointer (some ⟨db, 0, none⟩), vc] w (ActPost B db w (act3 g c)) := by
 obtain ⟨a, b, rfl, _, _⟩ := hc w (KD.refl _ _);have hca : Hid (∀ W, KD B w W → DL W a c.ends ∧ DL W b c.deps) := fun W K => by
  obtain ⟨a', b', e, h1, h2⟩ := hc W K;injection e with e
  have e1 : a = a' := by injection e with e; simp at e; exact e.1
  have e2 : b = b' := by injection e with e; simp at e; exact e.2
  exact ⟨e1 ▸ h1, e2 ▸ h2⟩
 obtain ⟨w1, hw1⟩ : ∃ w1, w1 = (w.alloc (.cells (chCells c a b) 33)).alloc (.cells zCells 33) := ⟨_, rfl⟩;obtain ⟨B1, z1, hbx⟩ := act_world B w w1 c a b hw1;have hB := h.base;have hd := h.below B1;have hK1 : KD B w w1 := KD.of B1 hB;have hDr := Hd (fun (W : World) (b0 : Below w1.heap.size w1 W) => hd.below b0);have hKD := Hd (fun (W : World) (b0 : Below w1.heap.size w1 W) => KD.of b0 hd.base);have hcell := Hd (fun (W : World) (K : KD B w1 W) => ch_cells (hbx W K).1);have hrx := Hd (fun (W : World) (K : KD B w1 W) => (hbx W K).2);have hd4 := Hd (fun (W : World) (b0 : Below w1.heap.size w1 W) => (hd.below b0).cells);have hw1h := Hd hw1;obtain ⟨ah, ac, hae⟩ := (hca.out w (KD.refl _ _)).1.shape;obtain ⟨bh, bc, hbe⟩ := (hca.out w (KD.refl _ _)).2.shape;have hvl := hg.vlen;have hel := hg.elen;have k1 := Hd (fun W (b0 : Below w1.heap.size w1 W) => edge_any db ev g.es c.e.id W (hDr.out W b0).cells.2.1 (hDr.out W b0).e.EL (by omega) hg.easc);have k2 := Hd (fun W (b0 : Below w1.heap.size w1 W) => validEdge_any c.e vv g.vs W (hDr.out W b0).v.VL (by omega) hg.vasc);have hact : Hid (act3 g c = if (!decide (c.e.id ∈ keysE g.es) && c.e.okIn (keysV g.vs)) = true then some ({ g with es := insE g.es c.e }, { zC with kind := 4, id := c.e.id }) else none) := rfl;have hle : posK (keysE g.es) c.e.id ≤ g.es.length := by unfold posK; have := List.takeWhile_sublist (fun k => decide (k < c.e.id)) (l := keysE g.es); have := this.length_le; simpa [keysE] using this
 have hins := Hd (insE_eq g.es c.e hg.easc);obtain ⟨p, hp⟩ : ∃ p, p = posK (keysE g.es) c.e.id := ⟨_, rfl⟩;unfold PlacePost at k1;rw [← hp] at k1 hle hins;have hrow : Hid (∀ gb, ev.ownBlock = some gb → gb < w.heap.size) := fun gb e => by obtain ⟨_, cur, hc⟩ := own_row h.e gb e; exact (Array.getElem?_eq_some_iff.1 hc).1
 have hne : Hid (ev.ownBlock ≠ some db) := fun e => by obtain ⟨_, cur, hc⟩ := own_row h.e db e; rw [h.box] at hc; simp at hc
 have hcr := Hd (fun (W : World) (b0 : Below w1.heap.size w1 W) => show W.cell? ⟨db, 0, none⟩ = some vv ∧ W.cell? ⟨db, 1, none⟩ = some ev ∧ W.cell? ⟨w.heap.size, 3, none⟩ = some (.int .i64 c.e.id) ∧ W.cell? ⟨w.heap.size, 4, none⟩ = some (.int .i64 c.e.src) ∧ W.cell? ⟨w.heap.size, 5, none⟩ = some (.int .i64 c.e.dst) ∧
  W.cell? ⟨w.heap.size, 6, none⟩ = some (.bool c.e.dir) ∧ W.cell? ⟨w.heap.size, 7, none⟩ = some (.int .i64 c.e.wt) ∧ W.cell? ⟨w.heap.size, 8, none⟩ = some (.int .i64 c.e.cap) from by
  obtain ⟨y0, y1, _⟩ := hd4.out W b0;obtain ⟨_, _, _, x3, x4, x5, x6, x7, x8, _⟩ := hcell.out W (hKD.out W b0);exact ⟨y0, y1, x3, x4, x5, x6, x7, x8⟩)
 have k3 := Hd (fun (W : World) (b0 : Below w1.heap.size w1 W) => show Calls Tryz.prog 129 #[ev, .int .i64 p, .slice (some ⟨W.heap.size, 0, none⟩) 1 1] (W.alloc (.cells (edCells c.e) 31)) fun e w' => ∃ a' n' c', e = .returned (.slice a' n' c') ∧
   Hid (w'.cell? ⟨db, 1, none⟩ = some ev ∧ w'.cell? ⟨w.heap.size, 3, none⟩ = some (.int .i64 c.e.id) ∧ w'.cell? ⟨w.heap.size, 4, none⟩ = some (.int .i64 c.e.src) ∧ w'.cell? ⟨w.heap.size, 5, none⟩ = some (.int .i64 c.e.dst) ∧
    w'.cell? ⟨w.heap.size, 6, none⟩ = some (.bool c.e.dir) ∧ w'.cell? ⟨w.heap.size, 7, none⟩ = some (.int .i64 c.e.wt) ∧ w'.cell? ⟨w.heap.size, 8, none⟩ = some (.int .i64 c.e.cap)) ∧ Hid (w'.frozen? ⟨db, 1, none⟩ = false) ∧
   Hid (DrV (w'.setCell ⟨db, 1, none⟩ (.slice a' n' c')) B db vv (.slice a' n' c') dv mv { g with es := insE g.es c.e } ∧ KD B w1 (w'.setCell ⟨db, 1, none⟩ (.slice a' n' c'))) from by
  obtain ⟨w2, hw2⟩ : ∃ w2, w2 = W.alloc (.cells (edCells c.e) 31) := ⟨_, rfl⟩;obtain ⟨l1, l2, l3⟩ := lit_world W w2 _ _ hw2;have b2 : Below w1.heap.size w1 w2 := b0.trans (l2.mono b0.size);have h2 := hDr.out w2 b2;have hsz := b0.size;have hdl := h.lt;rw [← hw2];refine (InsertE_any B ev g.es p c.e W.heap.size w2 h2.e hle (by omega) h2.base l1 (fun e => by have := hrow.out _ e; omega)).mono ?_;rintro e w' ⟨v', rfl, ho, hg'⟩;obtain ⟨a', c', rfl⟩ := ho.EL.shape;obtain ⟨_, y1, x3, x4, x5, x6, x7, x8⟩ := hcr.out w2 b2;have far : ∀ (q : Addr) (u : Value), w2.cell? q = some u → ev.ownBlock ≠ some q.block → w'.cell? q = some u := fun q u e hne' => hg'.cell e (fun e2 => hne' e2.symm);have hw0 : ∀ i, ev.ownBlock ≠ some (⟨w.heap.size, i, none⟩ : Addr).block := fun i e => by have := hrow.out _ e; simp at this
  refine ⟨_, _, _, rfl, ⟨far _ _ y1 hne.out, far _ _ x3 (hw0 _), far _ _ x4 (hw0 _), far _ _ x5 (hw0 _), far _ _ x6 (hw0 _), far _ _ x7 (hw0 _), far _ _ x8 (hw0 _)⟩, ?_, ?_⟩
  ·show _ = _;rw [World.frozen?_of_block (hg'.block db h2.lt (fun e => hne.out e.symm))]; exact h2.free 1
  ·rw [hins.out];obtain ⟨q1, q2⟩ := h2.setE hg' ho;exact ⟨q1, (hKD.out w2 b2).trans q2⟩)
 generalize act3 g c = R at *
 obtain ⟨vh, vc, hve⟩ := hd.v.VL.shape;obtain ⟨eh, ec, hee⟩ := hd.e.EL.shape;generalize decide (c.e.id ∈ keysE g.es) = x1 at *
 generalize c.e.okIn (keysV g.vs) = x2 at *
 unfold Ed.val at k2;unfold edCells at k3;clear hp hins hrow hne;unfold chCells zCells chCells zC zV zE nilS at hw1h;unfold chCells;have d9 := hcell.out w1 (KD.refl _ _);subst hae hbe;clear hw1 hbx h hd hc hca;subst hve hee;generalize g.vs.length = nv at *
 generalize g.es.length = ne at *
 obtain ⟨_, _, _, c3, _⟩ := d9;rw [hw1h.out] at c3;cases x1 with
 | true =>
  clear k2 k3;go_enter Tryz.func105, Tryz.ntmps105;go_wp2_with fail;rw [← hw1h.out];with_reducible refine (k1.out w1 (Below.refl _ _)).mono ?_
  rintro e w2 ⟨rfl, hq⟩;go_wp2_with fail;have hcr2 := Hd (fun (W : World) (b0 : Below w2.heap.size w2 W) => hcr.out W (hq.trans (b0.mono hq.size)));refine q_region (fun w' : World => Below w2.heap.size w2 w') (by kernel_rfl) (by kernel_rfl) ((Below.refl _ _).drew) ?_;repeat (first | (refine q_skip (by rfl) ?_; try simp only [Act.put, zT, z0, zS]) | (refine q_take (v := ?_) (by rfl) ?_ ?_; rotate_left; (first | ((intro w h; clear h; go_simp) <;> with_reducible rfl)); try simp only [Act.put, zT, z0, zS]))
  refine q_nil ?_;intro wq hHeld;have h9 := hq.trans (hHeld.mono hq.size);have r2 := hrx.out _ (hKD.out _ h9)
  go_wp2_with (refine wpList_store_row rfl 33 (.tmp 4) (.tmp 28) rfl (w.heap.size + 1) zCells rfl rfl 33 _ (r2) (info33 _ _ _) rfl z_all ?_)
  refine bodyPost_ret (results_cell_tmp_row (fn := Tryz.f105) rfl _ _ (w.heap.size + 1) 33 zCells (0, 0) _ _ rfl rfl (setRow_heap _ _ _ _ _ _ r2) Tryz.underlying33 rfl (info33 _ _ _)) rfl ?_;exact fin_none hB hK1 (hKD.out _ h9) _ (hact.out.trans (if_neg (by simp)))
 | false =>
  cases x2 with
  | false =>
   clear k3;go_enter Tryz.func105, Tryz.ntmps105;go_wp2_with fail;rw [← hw1h.out];with_reducible refine (k1.out w1 (Below.refl _ _)).mono ?_
   rintro e w2 ⟨rfl, hq⟩;go_wp2_with fail;have hcr2 := Hd (fun (W : World) (b0 : Below w2.heap.size w2 W) => hcr.out W (hq.trans (b0.mono hq.size)));refine wp_region_F (fun w' : World => Below w2.heap.size w2 w') 999 (by kernel_rfl) (Below.refl _ _).drew (fun hHeld => ?_);refine tkP 0 rfl ?_;refine tkP 1 rfl ?_;refine tkP 2 rfl ?_;refine tkP 3 rfl ?_ (by (intro w hSw; obtain ⟨y0, y1, x3, x4, x5, x6, x7, x8⟩ := hcr2.out w hSw; go_simp) <;> with_reducible rfl);refine tkP 4 rfl ?_;refine tkP 5 rfl ?_;refine tkP 6 rfl ?_;refine tkP 7 rfl ?_;refine tkP 8 rfl ?_ (by (intro w hSw; obtain ⟨y0, y1, x3, x4, x5, x6, x7, x8⟩ := hcr2.out w hSw; go_simp) <;> with_reducible rfl);refine rdy [9] ?_;refine arC rfl (fun K hK => ?_) ?_
   ·skip
    go_simp;with_reducible refine (k2.out _ (hq.trans (hHeld.mono hq.size))).mono ?_
    rintro e w3 ⟨rfl, b⟩;have h3 : Below w2.heap.size w2 w3 := hHeld.trans (b.mono hHeld.size);clear b;go_wp2_with fail;refine hK.out _ _ ?_ (fun hHeld => ?_)
    ·exact h3
    clear hK K;try simp only [Act.put, zT, z0, zS]
    refine tkP 10 rfl ?_;refine tkP 11 rfl ?_;refine wpAnyF_done (by kernel_rfl) ?_ _;have h9 := hq.trans (hHeld.mono hq.size);have r2 := hrx.out _ (hKD.out _ h9)
    go_wp2_with (refine wpList_store_row rfl 33 (.tmp 4) (.tmp 28) rfl (w.heap.size + 1) zCells rfl rfl 33 _ (r2) (info33 _ _ _) rfl z_all ?_)
    refine bodyPost_ret (results_cell_tmp_row (fn := Tryz.f105) rfl _ _ (w.heap.size + 1) 33 zCells (0, 0) _ _ rfl rfl (setRow_heap _ _ _ _ _ _ r2) Tryz.underlying33 rfl (info33 _ _ _)) rfl ?_;exact fin_none hB hK1 (hKD.out _ h9) _ (hact.out.trans (if_neg (by simp)))
   exact AllReadyF.nil
  | true =>
   go_enter Tryz.func105, Tryz.ntmps105;go_wp2_with fail;rw [← hw1h.out];with_reducible refine (k1.out w1 (Below.refl _ _)).mono ?_
   rintro e w2 ⟨rfl, hq⟩;go_wp2_with fail;have hcr2 := Hd (fun (W : World) (b0 : Below w2.heap.size w2 W) => hcr.out W (hq.trans (b0.mono hq.size)));refine wp_region_F (fun w' : World => Below w2.heap.size w2 w') 999 (by kernel_rfl) (Below.refl _ _).drew (fun hHeld => ?_);refine tkP 0 rfl ?_;refine tkP 1 rfl ?_;refine tkP 2 rfl ?_;refine tkP 3 rfl ?_ (by (intro w hSw; obtain ⟨y0, y1, x3, x4, x5, x6, x7, x8⟩ := hcr2.out w hSw; go_simp) <;> with_reducible rfl);refine tkP 4 rfl ?_;refine tkP 5 rfl ?_;refine tkP 6 rfl ?_;refine tkP 7 rfl ?_;refine tkP 8 rfl ?_ (by (intro w hSw; obtain ⟨y0, y1, x3, x4, x5, x6, x7, x8⟩ := hcr2.out w hSw; go_simp) <;> with_reducible rfl);refine rdy [9] ?_;refine arC rfl (fun K hK => ?_) ?_
   ·skip
    go_simp;with_reducible refine (k2.out _ (hq.trans (hHeld.mono hq.size))).mono ?_
    rintro e w3 ⟨rfl, b⟩;have h3 : Below w2.heap.size w2 w3 := hHeld.trans (b.mono hHeld.size);clear b;go_wp2_with fail;refine hK.out _ _ ?_ (fun hHeld => ?_)
    ·exact h3
    clear hK K;try simp only [Act.put, zT, z0, zS]
    refine tkP 10 rfl ?_;refine tkP 11 rfl ?_;refine wpAnyF_done (by kernel_rfl) ?_ _;have h9 := hq.trans (hHeld.mono hq.size);go_wp2_with fail;refine wp_region_F (fun w' : World => w'.cell? ⟨db, 1, none⟩ = some (.slice eh ne ec) ∧ w'.cell? ⟨w.heap.size, 3, none⟩ = some (.int .i64 c.e.id) ∧ w'.cell? ⟨w.heap.size, 4, none⟩ = some (.int .i64 c.e.src) ∧ w'.cell? ⟨w.heap.size, 5, none⟩ = some (.int .i64 c.e.dst) ∧ w'.cell? ⟨w.heap.size, 6, none⟩ = some (.bool c.e.dir) ∧ w'.cell? ⟨w.heap.size, 7, none⟩ = some (.int .i64 c.e.wt) ∧ w'.cell? ⟨w.heap.size, 8, none⟩ = some (.int .i64 c.e.cap)) 14 (by kernel_rfl) (hcr.out _ h9.drew).2 (fun hHeld => ?_);refine tkP 0 rfl ?_;refine tkP 1 rfl ?_;refine tkP 2 rfl ?_;refine tkP 3 rfl ?_;refine tkP 4 rfl ?_;refine tkP 5 rfl ?_ (by (intro w hSw; obtain ⟨y1, x3, x4, x5, x6, x7, x8⟩ := hSw; go_simp) <;> with_reducible rfl);refine tkP 6 rfl ?_;refine tkP 7 rfl ?_;refine tkP 8 rfl ?_ (by (intro w hSw; obtain ⟨y1, x3, x4, x5, x6, x7, x8⟩ := hSw; go_simp) <;> with_reducible rfl);refine rdy [9] ?_;refine arC rfl (fun K hK => ?_) ?_
    ·skip
     go_simp;obtain ⟨y1, x3, x4, x5, x6, x7, x8⟩ := hHeld;refine hK.out _ _ ?_ (fun hHeld => ?_)
     ·exact (hcr.out _ (h9.drew.alloc h9.size _)).2
     clear hK K;try simp only [Act.put, zT, z0, zS]
     refine rdy [10] ?_;refine arC rfl (fun K hK => ?_) ?_
     ·skip
      go_simp;refine (k3.out _ h9.drew).mono ?_;rintro e w4 ⟨a', n', c', rfl, s1, s2, s3⟩;go_wp2_with fail;refine hK.out _ _ ?_ (fun hHeld => ?_)
      ·exact s1.out
      clear hK K;try simp only [Act.put, zT, z0, zS]
      refine rdy [11] ?_;refine arC rfl (fun K hK => ?_) ?_
      ·skip
       go_simp;refine hK.out _ _ ?_ (fun hHeld => ?_)
       ·exact hHeld
       clear hK K;try simp only [Act.put, zT, z0, zS]
       refine rdy [12] ?_;refine arC rfl (fun K hK => ?_) ?_
       ·skip
        go_simp;refine hK.out _ _ ?_ (fun hHeld => ?_)
        ·exact hHeld
        clear hK K;try simp only [Act.put, zT, z0, zS]
        refine rdy [13] ?_;refine arC rfl (fun K hK => ?_) ?_
        ·skip
         go_simp;refine hK.out _ _ ?_ (fun hHeld => ?_)
         ·exact hHeld
         clear hK K;try simp only [Act.put, zT, z0, zS]
         refine rdy [14] ?_;refine AllReadyF.last (o := ⟨none, .store 23 (.tmp 42) (.tmp 39), _, _, _, none⟩) rfl (fun K hK => ?_) ?_
         ·skip
          go_simp;obtain ⟨y1, x3, x4, x5, x6, x7, x8⟩ := hHeld;have c3 := s2.out;go_simp;refine hK.out _ _ ?_;clear hK K;try simp only [Act.put, zT, z0, zS]
          refine wpAnyF_done (by kernel_rfl) ?_ _;obtain ⟨W5, hW5⟩ : ∃ W5, W5 = w4.setCell ⟨db, 1, none⟩ (.slice a' n' c') := ⟨_, rfl⟩;rw [← hW5] at s3 ⊢;have r5 := hrx.out W5 s3.out.2;obtain ⟨_, _, _, x3, _⟩ := hcell.out W5 s3.out.2;clear hW5
          go_wp2_with (refine wpList_store_row rfl 33 (.tmp 4) (.tmp 46) rfl (w.heap.size + 1) (chCells { zC with kind := 4, id := c.e.id } (.slice none 0 0) (.slice none 0 0)) rfl rfl 33 _ (r5) (info33 _ _ _) rfl (ch_all _ _ _ _ _ _ _) ?_)
          refine bodyPost_ret (results_cell_tmp_row (fn := Tryz.f105) rfl _ _ (w.heap.size + 1) 33 (chCells { zC with kind := 4, id := c.e.id } (.slice none 0 0) (.slice none 0 0)) (0, 0) _ _ rfl rfl (setRow_heap _ _ _ _ _ _ r5) Tryz.underlying33 rfl (info33 _ _ _)) rfl ?_;exact fin_some hB hK1 s3.out.2 s3.out.1 r5 (hact.out.trans (if_pos (by simp))) (nil_O _) (nil_O _)
         exact AllReadyF.nil
        exact AllReadyF.nil
       exact AllReadyF.nil
      exact AllReadyF.nil
     exact AllReadyF.nil
    exact AllReadyF.nil
   exact AllReadyF.nil
end Go.Proofs.YtlaldnlgapeckaaGreat
