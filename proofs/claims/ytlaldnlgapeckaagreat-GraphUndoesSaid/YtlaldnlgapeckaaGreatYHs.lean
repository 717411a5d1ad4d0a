/- The reference's History: the changes that act, one after the other. -/
import Derived.Test.YtlaldnlgapeckaaGreatYAr
import Derived.Test.YtlaldnlgapeckaaGreatYHi
import Derived.Test.YtlaldnlgapeckaaGreatYH
set_option linter.unusedSimpArgs false
set_option maxRecDepth 100000
set_option maxHeartbeats 4000000
namespace Go.Proofs.YtlaldnlgapeckaaGreat
open Go.RowKit
structure HiS (w0 : World) (B : Nat) (x y z vo : Value) (s : Gr × List Ch) (W : World) : Prop where
 box : W.heap[B]? = some (.cells #[x, y, z] 26 (0, 0))
 res : W.heap[B + 1]? = some (.cells #[.slice none 0 0, .slice none 0 0, .slice none 0 0] 26 (0, 0))
 gv : GV W (.agg #[x, y, z]) s.1
 out : OwnC W (B + 2) vo s.2
 bel : Below B w0 W
 sz : B + 2 ≤ W.heap.size
theorem HiS.to {w0 W W' : World} {B : Nat} {x y z vo : Value} {s : Gr × List Ch} (h : HiS w0 B x y z vo s W) (b : Below W.heap.size W W') : HiS w0 B x y z vo s W' :=
 ⟨(b.block _ (by have := h.sz; omega)).trans h.box, (b.block _ (by have := h.sz; omega)).trans h.res, h.gv.below b, h.out.below b, h.bel.trans (b.mono (by have := h.sz; omega)), Nat.le_trans h.sz b.size⟩
theorem VL.keepW {W W' : World} {v : Value} {l : List Vx} (h : VL W v l) (hk : ∀ k, v.ownBlock = some k → k < W.heap.size → W'.heap[k]? = W.heap[k]?) (hs : W.heap.size ≤ W'.heap.size) : VL W' v l := by
 rcases h with h | ⟨h0, b, o, c, rfl, h2, h3, h4⟩
 ·exact .inl h
 ·have hb := hk b rfl h3;exact .inr ⟨h0, b, o, c, rfl, h2, Nat.lt_of_lt_of_le h3 hs, fun j x hx => by rw [keep_cell hb, keep_cell hb]; exact h4 j x hx⟩
theorem EL.keepW {W W' : World} {v : Value} {l : List Ed} (h : EL W v l) (hk : ∀ k, v.ownBlock = some k → k < W.heap.size → W'.heap[k]? = W.heap[k]?) (hs : W.heap.size ≤ W'.heap.size) : EL W' v l := by
 rcases h with h | ⟨h0, b, o, c, rfl, h2, h3, h4⟩
 ·exact .inl h
 ·have hb := hk b rfl h3;refine .inr ⟨h0, b, o, c, rfl, h2, Nat.lt_of_lt_of_le h3 hs, fun j x hx => ?_⟩;obtain ⟨q0, q1, q2, q3, q4, q5⟩ := h4 j x hx;exact ⟨by rw [keep_cell hb]; exact q0, by rw [keep_cell hb]; exact q1, by rw [keep_cell hb]; exact q2, by rw [keep_cell hb]; exact q3, by rw [keep_cell hb]; exact q4, by rw [keep_cell hb]; exact q5⟩
theorem DL.keepW {W W' : World} {v : Value} {l : List Int} (h : DL W v l) (hk : ∀ k, v.ownBlock = some k → k < W.heap.size → W'.heap[k]? = W.heap[k]?) (hs : W.heap.size ≤ W'.heap.size) : DL W' v l := by
 rcases h with h | ⟨h0, b, o, c, rfl, h2, h3, h4⟩
 ·exact .inl h
 ·have hb := hk b rfl h3;exact .inr ⟨h0, b, o, c, rfl, h2, Nat.lt_of_lt_of_le h3 hs, fun j x hx => by rw [keep_cell hb]; exact h4 j x hx⟩
/-- a graph whose rows lie in blocks from S on stays when blocks from S on stay -/
theorem GV.keepGe {S : Nat} {W W' : World} {r : Value} {g : Gr} (h : GV W r g) (hr : RowsGe S r) (hk : ∀ k, S ≤ k → k < W.heap.size → W'.heap[k]? = W.heap[k]?) (hs : W.heap.size ≤ W'.heap.size) : GV W' r g := by
 obtain ⟨a, b, c, rfl, h1, h2, h3⟩ := h;obtain ⟨r1, r2, r3⟩ := hr _ _ _ rfl;exact ⟨a, b, c, rfl, h1.keepW (fun k e => hk k (r1 k e)) hs, h2.keepW (fun k e => hk k (r2 k e)) hs, h3.keepW (fun k e => hk k (r3 k e)) hs⟩
theorem own_setBox26 {W : World} {b e k n B : Nat} {v : Value} {xs : List Value} {c0 : Array Value} (h : W.ownsRow B e k v n xs) (hq : W.heap[b]? = some (.cells c0 26 (0, 0))) (he : e ≠ 26) (cs : Array Value) : (W.setRow b cs).ownsRow B e k v n xs :=
 own_same h fun j hj => setRow_other _ _ _ _ (fun q => by obtain ⟨_, cur, hc⟩ := own_row h j hj; rw [q, hq] at hc; simp at hc; exact he hc.2.symm)
theorem OwnC.setBox {W : World} {B b : Nat} {v : Value} {l : List Ch} {c0 : Array Value} (h : OwnC W B v l) (hq : W.heap[b]? = some (.cells c0 26 (0, 0))) (cs : Array Value) : OwnC (W.setRow b cs) B v l := by
 obtain ⟨ts, h0, h1, h2⟩ := h;exact ⟨ts, h0, own_setBox26 (show W.ownsRow B 33 13 v ts.length (cCh ts) from h1) hq (by decide) cs, fun t ht => ⟨own_setBox26 (h2 t ht).1 hq (by decide) cs, own_setBox26 (h2 t ht).2 hq (by decide) cs⟩⟩
theorem OwnC.blk {W : World} {B : Nat} {v : Value} {l : List Ch} (h : OwnC W B v l) : ∀ k, v.ownBlock = some k → B ≤ k ∧ ∃ cur, W.heap[k]? = some (.cells cur 33 (0, 0)) := fun k hk => by
 obtain ⟨ts, _, h1, _⟩ := h;exact own_row (show W.ownsRow B 33 13 v ts.length (cCh ts) from h1) k hk
/-- append(l, c): the run, and what stays -/
theorem snocC2 (W : World) (B : Nat) (v : Value) (l : List Ch) (u : Ch) (a b : Value) (h : OwnC W B v l) (ha : OwnI W 0 a u.ends) (hb : OwnI W 0 b u.deps) (hl : l.length ≤ 100000) (hB : B ≤ W.heap.size) :
  ∃ a' n' d' w', (Builtin.append_ #[40, 40] 40 #[v, .slice (some ⟨W.heap.size, 0, none⟩) 1 1]).run Tryz.prog (W.alloc (.cells (chCells u a b) 33)) = .ok (.slice a' n' d') w' ∧ OwnC w' B (.slice a' n' d') (l ++ [u]) ∧ Below B W w' ∧ ∀ j, j < W.heap.size → v.ownBlock ≠ some j → w'.heap[j]? = W.heap[j]? := by
 obtain ⟨i0, hi, hz0, hz1, hz2⟩ := info_parts info33c;obtain ⟨ts, rfl, h1, h2⟩ := h;obtain ⟨a1, a2, rfl⟩ := ha.shape;obtain ⟨b1, b2, rfl⟩ := hb.shape;have hts : ts.length ≤ 100000 := by simpa using hl
 obtain ⟨g, cap, w', hr, ho, hg⟩ := snocX B 40 33 i0 _ 13 136 Tryz.underlying40 hi hz0 hz1 hz2 rfl (by omega) (by omega) W v ts.length (cCh ts) (chCells u (.slice a1 u.ends.length a2) (.slice b1 u.deps.length b2)) rfl (chc_one _ _ _ _ _ _ _) h1 (by omega) hB;have ho2 : OwnR w' B (.slice (some ⟨g, 0, none⟩) (ts.length + 1) cap) (ts ++ [(u, .slice a1 u.ends.length a2, .slice b1 u.deps.length b2)]) := by
  unfold OwnR;rw [List.length_append, cCh, List.flatMap_append];simpa [cCh] using ho
 refine ⟨_, _, _, w', hr, ⟨_, by simp, ho2, fun t ht => ?_⟩, ?_, fun j h1 h2 => (hg.block j (by simp; omega) (fun q => h2 q.symm)).trans (Below.heap_alloc _ _ _ h1)⟩
 ·have h1' : W.ownsRow B 33 13 v ts.length (cCh ts) := h1;rcases List.mem_append.1 ht with ht | ht
  ·exact ⟨own_grownB hg h1' (h2 t ht).1 (by decide), own_grownB hg h1' (h2 t ht).2 (by decide)⟩
  ·rw [List.mem_singleton.1 ht];exact ⟨own_grownB hg h1' ha (by decide), own_grownB hg h1' hb (by decide)⟩
 ·exact ((Below.refl B W).alloc hB _).grown hg (by simp; omega) (fun k hk => (own_row (show W.ownsRow B 33 13 v ts.length (cCh ts) from h1) k hk).1)
/-- a call, in a region walked by relations -/
theorem post_call {o : Oper} {a : Act} {w : World} {R : Value → World → Prop} {f : Nat} {xs : Array Operand} {ts : Array TypeId} (fn : Func) (ho : o.op = .call { callee := .value (.func f), args := xs, argTypes := ts }) (hf : Tryz.prog.funcs[f]? = some fn) (hn : (fn.name == "runtime.NumGoroutine") = false) (hb : fn.body.isNone = false) (args : Array Value) (hargs : xs.map a.eval = args)
  (hc : Calls Tryz.prog f args w fun e w'' => ∃ v, e = .returned v ∧ R v w'') : Rel.post Tryz.prog o a w R := by
 have hrun : (execOp a.eval o).run Tryz.prog w = .ok (.enter f args) w := by
  simp only [execOp, ho, resolve, Act.eval, Deferred.ofValue, invoke, callFunc, Sem.run_bind, Sem.run_pure, Result.andThen_ok, hargs];have hn' : ¬ fn.name = "runtime.NumGoroutine" := by simpa using hn
  have hb' : ¬ fn.body = none := by intro e; rw [e] at hb; cases hb
  simp [hf, hn', hb']
 unfold Rel.post;rw [hrun]; exact hc
/-- what a changed list may hold as ends -/
def chIn (c : Ch) : Prop := ∀ n ∈ c.ends, -9223372036854775808 ≤ n ∧ n ≤ 9223372036854775807
theorem changed_in (g : Gr) (x : F6) : chIn (changedC g x) := by
 intro n hn;have key : ∀ (es : List Ed) (id e : Int), n ∈ chEnds es id e 80 → -9223372036854775808 ≤ n ∧ n ≤ 9223372036854775807 := fun es id e h => by
  unfold chEnds at h;obtain ⟨i, hi, rfl⟩ := List.mem_map.1 h;have := List.mem_range.1 (List.mem_filter.1 hi).1;omega
 unfold changedC at hn;dsimp only at hn
 repeat' split at hn
 all_goals first
  | (simp [zC] at hn; done)
  | exact key _ _ _ hn
theorem History_any (v vl : Value) (g : Gr) (l : List F6) (w0 : World) (hv : GV w0 v g) (hg : Ok g) (hl : L6 w0 vl l) (hr : ∀ r ∈ l, r.inB) (hlen : l.length ≤ 9223372036854775807) :
  Calls Tryz.prog 41 #[v, vl] w0 fun e w' => ∃ (a1 a2 a3 va : Option Addr) (n1 n2 n3 d1 d2 d3 vn vd : Nat), e = .returned (.tuple #[.agg #[.slice a1 n1 d1, .slice a2 n2 d2, .slice a3 n3 d3], .slice va vn vd]) ∧ GV w' (.agg #[.slice a1 n1 d1, .slice a2 n2 d2, .slice a3 n3 d3]) (histF g l (min l.length 12)).1 ∧ LC w' (.slice va vn vd) (histF g l (min l.length 12)).2 ∧ Below w0.heap.size w0 w' := by
 obtain ⟨a, b, d, rfl, h1, h2, h3⟩ := hv;obtain ⟨a1, a2, rfl⟩ := h1.shape;obtain ⟨b1, b2, rfl⟩ := h2.shape;obtain ⟨c1, c2, rfl⟩ := h3.shape;obtain ⟨la, lc, rfl⟩ := hl.shape;obtain ⟨N, hN⟩ : ∃ N, Hid (N = l.length) := ⟨_, rfl⟩;obtain ⟨B, hB⟩ : ∃ B, Hid (B = w0.heap.size) := ⟨_, rfl⟩;have hok := Hd (fun k (hk : k ≤ N) => hist_ok g hg l k (by rw [← hN.out]; exact hk));obtain ⟨w1, hw1⟩ : ∃ W, W = (w0.alloc (.cells #[.slice a1 g.vs.length a2, .slice b1 g.es.length b2, .slice c1 g.ds.length c2] 26)).alloc (.cells #[.slice none 0 0, .slice none 0 0, .slice none 0 0] 26) := ⟨_, rfl⟩;have hBw := Hd (show Below B w0 w1 by rw [hw1, hB.out]; exact ((Below.refl _ w0).alloc (Nat.le_refl _) _).alloc (by simp) _);have hst := Hd (show HiS w0 B (.slice a1 g.vs.length a2) (.slice b1 g.es.length b2) (.slice c1 g.ds.length c2) (.slice none 0 0) (histF g l 0) w1 from
  ⟨by rw [hw1, hB.out]; exact al_keep1 (heap_alloc_new w0 _), by rw [hw1, hB.out]; have h := heap_alloc_new (w0.alloc (.cells #[.slice a1 g.vs.length a2, .slice b1 g.es.length b2, .slice c1 g.ds.length c2] 26)) (.cells #[.slice none 0 0, .slice none 0 0, .slice none 0 0] 26); simpa using h,
     by have hb := hBw.out; rw [hB.out] at hb; exact ⟨_, _, _, rfl, h1.below hb, h2.below hb, h3.below hb⟩, OwnC.nil _ _, hBw.out, by rw [hw1, hB.out]; simp⟩)
 have hL := Hd (show ∀ k (hk : k < l.length), ∃ b o, la = some ⟨b, o, none⟩ ∧ ∀ W, Below B w0 W → W.cell? ⟨b, o + k * 6, none⟩ = some (.int .i64 l[k].a) ∧ W.cell? ⟨b, o + k * 6 + 1, none⟩ = some (.int .i64 l[k].b) ∧ W.cell? ⟨b, o + k * 6 + 2, none⟩ = some (.int .i64 l[k].c) ∧ W.cell? ⟨b, o + k * 6 + 3, none⟩ = some (.int .i64 l[k].d) ∧ W.cell? ⟨b, o + k * 6 + 4, none⟩ = some (.int .i64 l[k].e) ∧ W.cell? ⟨b, o + k * 6 + 5, none⟩ = some (.int .i64 l[k].f) from fun k hk => by
  obtain ⟨b, o, c, he, _, hc⟩ := hl.at_ k hk;injection he with he _ _
  exact ⟨b, o, he, fun W BB => hc W (by rw [← hB.out]; exact BB)⟩)
 have hrh := Hd hr;have hwh := Hd hw1;have hlenN : N ≤ 9223372036854775807 := by rw [hN.out]; exact hlen
 rw [← hN.out];generalize g.vs.length = N1 at *
 generalize g.es.length = N2 at *
 generalize g.ds.length = N3 at *
 clear h1 h2 h3 hl hr hw1 hlen;go_enter Tryz.func41, Tryz.ntmps41;go_wp2_with fail;rw [← hwh.out, ← hB.out]
 go_loopw [6, 7] (fun vo i wr => ∃ (k : Nat) (a1 a2 a3 va : Option Addr) (n1 n2 n3 d1 d2 d3 vn vd : Nat), vo = .slice va vn vd ∧ i = .int .i64 k ∧ k ≤ N ∧ k ≤ 12 ∧ Hid (HiS w0 B (.slice a1 n1 d1) (.slice a2 n2 d2) (.slice a3 n3 d3) (.slice va vn vd) (histF g l k) wr)) (fun _ i _ => 12 - (intOf i).toNat)
 case atStart => exact ⟨0, _, _, _, _, _, _, _, _, _, _, _, _, rfl, rfl, by omega, by omega, hst⟩
 case round =>
 obtain ⟨k, a1, a2, a3, va, n1, n2, n3, d1, d2, d3, vn, vd, rfl, rfl, hkN, hk12, hS⟩ := hrel;have k0 : (0 : Int) ≤ (k : Int) := by omega
 by_cases hgo : k < N ∧ k < 12;rotate_left
 ·have hx : (k : Int) < (N : Int) → ¬ (k : Int) < 12 := fun h h2 => hgo ⟨by omega, by omega⟩;have hmin : k = min N 12 := by omega
  obtain ⟨t0, t1, t2⟩ := box3 hS.out.box;have r8 := Hd hS.out.res;have hend := Hd (show GV (wr.setRow (B + 1) #[.slice a1 n1 d1, .slice a2 n2 d2, .slice a3 n3 d3]) (.agg #[.slice a1 n1 d1, .slice a2 n2 d2, .slice a3 n3 d3]) (histF g l k).1 ∧ LC (wr.setRow (B + 1) #[.slice a1 n1 d1, .slice a2 n2 d2, .slice a3 n3 d3]) (.slice va vn vd) (histF g l k).2 ∧ Below w0.heap.size w0 (wr.setRow (B + 1) #[.slice a1 n1 d1, .slice a2 n2 d2, .slice a3 n3 d3]) from by
   refine ⟨GV.shut0 hS.out.gv hS.out.res _, OwnC.LC (B := B + 2) ?_, ?_⟩
   ·exact hS.out.out.setBox hS.out.res _
   ·have h := below_row hS.out.bel (show B ≤ B + 1 by omega) #[.slice a1 n1 d1, .slice a2 n2 d2, .slice a3 n3 d3];rw [← hB.out]; exact h)
  rw [hmin] at hend;by_cases h1 : k < N
  ·have i1 : (k : Int) < (N : Int) := by omega
   have i2 : ¬ (k : Int) < 12 := by omega
   clear hx hmin hgo h1
   go_wp2_with (refine wpList_store_row rfl 26 (.tmp 4) (.tmp 40) rfl (B + 1) #[.slice a1 n1 d1, .slice a2 n2 d2, .slice a3 n3 d3] rfl rfl 26 _ r8.out (size26b _ _ _) rfl (by simp [Value.oneCell']) ?_)
   refine bodyPost_ret (results_cell_tmp1_row (fn := Tryz.f41) rfl _ _ (B + 1) 26 #[.slice a1 n1 d1, .slice a2 n2 d2, .slice a3 n3 d3] (0, 0) _ _ rfl rfl (setRow_heap _ _ _ _ _ _ r8.out) Tryz.underlying26 rfl (size26b _ _ _)) rfl ?_;exact ⟨_, _, _, _, _, _, _, _, _, _, _, _, rfl, hend.out.1, hend.out.2.1, hend.out.2.2⟩
  ·have i1 : ¬ (k : Int) < (N : Int) := by omega
   clear hx hmin hgo h1
   go_wp2_with (refine wpList_store_row rfl 26 (.tmp 4) (.tmp 40) rfl (B + 1) #[.slice a1 n1 d1, .slice a2 n2 d2, .slice a3 n3 d3] rfl rfl 26 _ r8.out (size26b _ _ _) rfl (by simp [Value.oneCell']) ?_)
   refine bodyPost_ret (results_cell_tmp1_row (fn := Tryz.f41) rfl _ _ (B + 1) 26 #[.slice a1 n1 d1, .slice a2 n2 d2, .slice a3 n3 d3] (0, 0) _ _ rfl rfl (setRow_heap _ _ _ _ _ _ r8.out) Tryz.underlying26 rfl (size26b _ _ _)) rfl ?_;exact ⟨_, _, _, _, _, _, _, _, _, _, _, _, rfl, hend.out.1, hend.out.2.1, hend.out.2.2⟩
 ·obtain ⟨hk1, hk2⟩ := hgo;have i1 : (k : Int) < (N : Int) := by omega
  have i2 : (k : Int) < 12 := by omega
  have hkl : k < l.length := by rw [← hN.out]; exact hk1
  obtain ⟨lb, lo, rfl, hcell⟩ := hL.out k hkl;have hsuc := Hd (hist_succ g l k hkl);have hso := Hd (hok.out k hkN);have hxb := Hd (hrh.out l[k] (List.getElem_mem hkl));obtain ⟨s, hs⟩ : ∃ s, Hid (s = histF g l k) := ⟨_, rfl⟩;obtain ⟨x, hx⟩ : ∃ x, Hid (x = l[k]) := ⟨l[k], Hd rfl⟩;rw [← hs.out] at hS hso hsuc;rw [← hx.out] at hxb hsuc hcell;obtain ⟨c, hc⟩ : ∃ c, Hid (c = changedC s.1 x) := ⟨_, rfl⟩;have cC := Hd (show ∀ W, Below wr.heap.size wr W → Calls Tryz.prog 14 #[.agg #[.slice a1 n1 d1, .slice a2 n2 d2, .slice a3 n3 d3], .agg #[.int .i64 x.a, .int .i64 x.b, .int .i64 x.c, .int .i64 x.d, .int .i64 x.e, .int .i64 x.f]] W fun e w' => ∃ r, e = .returned r ∧ CVO w' W.heap.size r c ∧ Below W.heap.size W w' from fun W BB => by
   have hvl := hso.out.ok.vlen;have hel := hso.out.ok.elen;have hdl := hso.out.ok.dlen;rw [hc.out]; exact ChangedO_any _ s.1 x W (hS.out.gv.below BB) ⟨by omega, by omega, by omega⟩ hxb.out)
  have hcl := Hd (show c.ends.length ≤ 80 ∧ c.deps.length ≤ 1000 from by rw [hc.out]; exact changed_len s.1 x (by have := hso.out.ok.vlen; omega));have hci := Hd (show chIn c from by rw [hc.out]; exact changed_in s.1 x);have cAp := Hd (show ∀ vc W, CV W vc c → GV W (.agg #[.slice a1 n1 d1, .slice a2 n2 d2, .slice a3 n3 d3]) s.1 → Calls Tryz.prog 20 #[.agg #[.slice a1 n1 d1, .slice a2 n2 d2, .slice a3 n3 d3], vc] W (AppR s.1 c W) from fun vc W h1 h2 => by
   have hvl := hso.out.ok.vlen;have hel := hso.out.ok.elen;have hdl := hso.out.ok.dlen;have hcl2 := hcl.out;exact ApplyR_any _ _ s.1 c W h2 h1 ⟨by omega, by omega, by omega⟩ ⟨by omega, by omega⟩ hci.out)
  have hxc := Hd (show ∀ W, Below wr.heap.size wr W → _ from fun W BB => hcell W (hS.out.bel.trans (BB.mono (by have := hS.out.sz; omega))));have hT := Hd (fun W (BB : Below wr.heap.size wr W) => box3 ((BB.block B (by have := hS.out.sz; omega)).trans hS.out.box));clear hcell;have wsz := hS.out.sz;go_upto_region 5 with (fail);refine Rel.b_region wr [some (.agg #[.slice a1 n1 d1, .slice a2 n2 d2, .slice a3 n3 d3]), some (.slice (some ⟨lb, lo, none⟩) N lc), some (.int .i64 (k : Int)), some (.pointer (some ⟨lb, lo + k * 6, none⟩)), some (.agg #[.int .i64 x.a, .int .i64 x.b, .int .i64 x.c, .int .i64 x.d, .int .i64 x.e, .int .i64 x.f]), none, none, none] (fun i v W => match i with
   | 5 => CVO W wr.heap.size v c
   | 6 => ∃ q, v = .pointer (some ⟨q, 0, none⟩) ∧ wr.heap.size ≤ q ∧ W.heap[q]? = some (.cells #[.int .i64 0, .int .i64 0, .int .i64 0, .int .i64 0, .int .i64 0, .int .i64 0, .bool false, .int .i64 0, .int .i64 0, .int .i64 0, .int .i64 0, .slice none 0 0, .slice none 0 0] 33 (0, 0))
   | _ => True) (fun vals W => ∃ q va1 vb1 m1 vc1 vd1 m2, vals 6 = .pointer (some ⟨q, 0, none⟩) ∧ wr.heap.size ≤ q ∧ W.heap[q]? = some (.cells (chCells c (.slice va1 m1 vb1) (.slice vc1 m2 vd1)) 33 (0, 0)) ∧ OwnI W 0 (.slice va1 m1 vb1) c.ends ∧ OwnI W 0 (.slice vc1 m2 vd1) c.deps ∧ Below wr.heap.size wr W) 7 (by kernel_rfl) (by kernel_rfl) rfl (fun i v W W' h Bl => by split at h <;> first | exact trivial | (obtain ⟨a, b, e, h1, h2⟩ := h; exact ⟨a, b, e, own_below h1 Bl, own_below h2 Bl⟩) | (obtain ⟨q, e, h1, h2⟩ := h; exact ⟨q, e, h1, (Bl.block q (Array.getElem?_eq_some_iff.1 h2).1).trans h2⟩)) (fun vals vals' W hv h => by obtain ⟨q, va1, vb1, m1, vc1, vd1, m2, h1, h2⟩ := h; exact ⟨q, va1, vb1, m1, vc1, vd1, m2, (hv 6 (by decide)).symm.trans h1, h2⟩) ((Below.refl _ wr).drew) (fun vals hO => ?_)
  refine Rel.b_pure (.agg #[.slice a1 n1 d1, .slice a2 n2 d2, .slice a3 n3 d3]) rfl (by decide) (hO 0 _ rfl) (by rfl) (fun w hC hd => ?_) ?_
  ·obtain ⟨t0, t1, t2⟩ := hT.out w hC; obtain ⟨x0, x1, x2, x3, x4, x5⟩ := hxc.out w hC; clear hd hO; go_simp
  try simp only [Act.put, zT, z0, zS]
  refine Rel.b_pure (.slice (some ⟨lb, lo, none⟩) N lc) rfl (by decide) (hO 1 _ rfl) (by rfl) (fun w hC hd => ?_) ?_
  ·clear hd hO; go_simp
  try simp only [Act.put, zT, z0, zS]
  refine Rel.b_pure (.int .i64 (k : Int)) rfl (by decide) (hO 2 _ rfl) (by rfl) (fun w hC hd => ?_) ?_
  ·clear hd hO; go_simp
  try simp only [Act.put, zT, z0, zS]
  refine Rel.b_pure (.pointer (some ⟨lb, lo + k * 6, none⟩)) rfl (by decide) (hO 3 _ rfl) (by rfl) (fun w hC hd => ?_) ?_
  ·clear hd hO; go_simp
  try simp only [Act.put, zT, z0, zS]
  refine Rel.b_pure (.agg #[.int .i64 x.a, .int .i64 x.b, .int .i64 x.c, .int .i64 x.d, .int .i64 x.e, .int .i64 x.f]) rfl (by decide) (hO 4 _ rfl) (by rfl) (fun w hC hd => ?_) ?_
  ·obtain ⟨t0, t1, t2⟩ := hT.out w hC; obtain ⟨x0, x1, x2, x3, x4, x5⟩ := hxc.out w hC; clear hd hO; go_simp
  try simp only [Act.put, zT, z0, zS]
  refine Rel.b_rel rfl (by decide) (by rfl) (fun w hC hd => ?_) ?_
  ·clear hd hO;refine post_call Tryz.f14 rfl Tryz.func14 (by kernel_rfl) (by kernel_rfl) #[.agg #[.slice a1 n1 d1, .slice a2 n2 d2, .slice a3 n3 d3], .agg #[.int .i64 x.a, .int .i64 x.b, .int .i64 x.c, .int .i64 x.d, .int .i64 x.e, .int .i64 x.f]] (by simp [Act.eval]) ((cC.out w hC).mono ?_);rintro e w' ⟨r, rfl, hv, hb⟩;obtain ⟨a, b, e, o1, o2⟩ := hv;exact ⟨_, rfl, hb, a, b, e, own_low o1 hC.size, own_low o2 hC.size⟩
  try simp only [Act.put, zT, z0, zS]
  refine Rel.b_rel rfl (by decide) (by rfl) (fun w hC hd => ?_) ?_
  ·refine post_value (.pointer (some ⟨w.heap.size, 0, none⟩)) (w.alloc (.cells #[.int .i64 0, .int .i64 0, .int .i64 0, .int .i64 0, .int .i64 0, .int .i64 0, .bool false, .int .i64 0, .int .i64 0, .int .i64 0, .int .i64 0, .slice none 0 0, .slice none 0 0] 33)) (by clear hd hO; go_simp) ⟨(Below.refl _ w).alloc (Nat.le_refl _) _, _, rfl, hC.size, heap_alloc_new w _⟩
  try simp only [Act.put, zT, z0, zS]
  refine Rel.b_last rfl (by rfl) (fun w hC hd => ?_) ?_
  ·obtain ⟨q, hq, hql, hqr⟩ := hd 6 (by decide);obtain ⟨a, b, hab, o1, o2⟩ := hd 5 (by decide);obtain ⟨va1, vb1, rfl⟩ := o1.shape;obtain ⟨vc1, vd1, rfl⟩ := o2.shape;refine post_store_row 33 (.tmp 8) (.tmp 26) rfl q (chCells c (.slice va1 c.ends.length vb1) (.slice vc1 c.deps.length vd1)) hq hab 33 _ hqr (size33' _ _ _) rfl (one33 _ _ _ _ _ _ _) ?_;refine ⟨q, va1, vb1, _, vc1, vd1, _, hq, hql, setRow_heap _ _ _ _ _ _ hqr, ?_, ?_, below_row hC hql _⟩
   ·exact own_low (own_same o1 fun j hj => setRow_other _ _ _ _ (fun e => by obtain ⟨_, cur, hc2⟩ := own_row o1 j hj; rw [e, hqr] at hc2; simp at hc2)) (Nat.zero_le _)
   ·exact own_low (own_same o2 fun j hj => setRow_other _ _ _ _ (fun e => by obtain ⟨_, cur, hc2⟩ := own_row o2 j hj; rw [e, hqr] at hc2; simp at hc2)) (Nat.zero_le _)
  try simp only [Act.put, zT, z0, zS]
  refine Rel.b_end ?_;intro w2 hfin;obtain ⟨q, va1, vb1, m1, vc1, vd1, m2, hq6, hql, hqr, o1, o2, b2⟩ := hfin;have hq6h := Hd hq6;have hl1 : m1 = c.ends.length := by obtain ⟨_, _, e⟩ := o1.shape; injection e with _ e _
  have hl2 : m2 = c.deps.length := by obtain ⟨_, _, e⟩ := o2.shape; injection e with _ e _
  have hO := Hd (show OwnI w2 0 (.slice va1 m1 vb1) c.ends ∧ OwnI w2 0 (.slice vc1 m2 vd1) c.deps from ⟨o1, o2⟩);have hS2 := Hd (hS.out.to b2);have z2 : wr.heap.size ≤ w2.heap.size := b2.size;have hqc := Hd hqr;have hql2 : q < w2.heap.size := (Array.getElem?_eq_some_iff.1 hqr).1;obtain ⟨t0, t1, t2⟩ := box3 hS2.out.box;unfold chCells at hqc;obtain ⟨p0, p1, p2, p3, p4, p5, p6, p7, p8, p9, pA, pB, pC⟩ := ch_cells (c := c) (a := .slice va1 m1 vb1) (b := .slice vc1 m2 vd1) hqc.out;have cP := Hd (cAp.out (.agg (chCells c (.slice va1 m1 vb1) (.slice vc1 m2 vd1))) w2 ⟨_, _, rfl, o1.DL, o2.DL⟩ hS2.out.gv);unfold chCells at cP;clear o1 o2 b2 hqr hl1 hl2 cAp cC hxc hT hS;rw [hq6];clear hq6 hq6h;go_wp2_with fail;with_reducible refine cP.out.mono ?_
  rintro e w3 ⟨b3, hres⟩;rw [if_pos ((ok_iff s.1).2 hso.out.ok)] at hres;have hS3 := Hd (hS2.out.to b3);have z3 : w2.heap.size ≤ w3.heap.size := b3.size;have hb3 := Hd b3;clear cP b3 t0 t1 t2 p0 p1 p2 p3 p4 p5 p6 p7 p8 p9 pA pB pC;cases ha : actF s.1 c with
  | none =>
   rw [ha] at hres;subst hres;have hss := Hd (show histF g l (k + 1) = s by rw [hsuc.out]; unfold histS; rw [← hc.out, ha]);clear ha;go_upto_region 7 with (fail);obtain ⟨w4, hw4⟩ : ∃ W, W = w3.alloc (.cells #[.slice none 0 0, .slice none 0 0, .slice none 0 0] 26) := ⟨_, rfl⟩;rw [← hw4];have hS4 := Hd (show HiS w0 B (.slice a1 n1 d1) (.slice a2 n2 d2) (.slice a3 n3 d3) (.slice va vn vd) (histF g l (k + 1)) w4 by rw [hss.out, hw4]; exact hS3.out.to ((Below.refl _ _).alloc (Nat.le_refl _) _));clear hw4;go_wp2_with fail
   go_roundw
   case rel => exact ⟨k + 1, _, _, _, _, _, _, _, _, _, _, _, _, rfl, by go_num, by omega, by omega, hS4⟩
   case measure => simp [intOf]; omega
  | some p =>
   rw [ha] at hres;obtain ⟨r, rfl, hgr, hge⟩ := hres;obtain ⟨ya, yb, yc, rfl, g1, g2, g3⟩ := hgr;obtain ⟨y1, e1, rfl⟩ := g1.shape;obtain ⟨y2, e2, rfl⟩ := g2.shape;obtain ⟨y3, e3, rfl⟩ := g3.shape;have hgv := Hd (show GV w3 (.agg #[.slice y1 p.1.vs.length e1, .slice y2 p.1.es.length e2, .slice y3 p.1.ds.length e3]) p.1 from ⟨_, _, _, rfl, g1, g2, g3⟩);have hgeh := Hd hge;have hss := Hd (show histF g l (k + 1) = (p.1, s.2 ++ [c]) by rw [hsuc.out]; unfold histS; rw [← hc.out, ha]);have hlen := hso.out.len;generalize p.1.vs.length = m3 at *
   generalize p.1.es.length = m4 at *
   generalize p.1.ds.length = m5 at *
   clear ha g1 g2 g3 hge;go_upto_region 7 with (fail);obtain ⟨w4, hw4⟩ : ∃ W, W = w3.alloc (.cells #[.slice y1 m3 e1, .slice y2 m4 e2, .slice y3 m5 e3] 26) := ⟨_, rfl⟩;rw [← hw4];have h34 := Hd (show Below w3.heap.size w3 w4 by rw [hw4]; exact (Below.refl _ _).alloc (Nat.le_refl _) _);have z4 : w4.heap.size = w3.heap.size + 1 := by rw [hw4]; simp
   have hy := Hd (show w4.heap[w3.heap.size]? = some (.cells #[.slice y1 m3 e1, .slice y2 m4 e2, .slice y3 m5 e3] 26 (0, 0)) by rw [hw4]; exact heap_alloc_new w3 _);have hS4 := Hd (hS3.out.to h34.out);obtain ⟨w5, hw5⟩ : ∃ W, W = w4.setRow B #[.slice y1 m3 e1, .slice y2 m4 e2, .slice y3 m5 e3] := ⟨_, rfl⟩;have hbx := Hd hS4.out.box;have z5 : w5.heap.size = w4.heap.size := by rw [hw5]; simp
   have hq5 := Hd (show w5.heap[q]? = some (.cells (chCells c (.slice va1 m1 vb1) (.slice vc1 m2 vd1)) 33 (0, 0)) by rw [hw5, setRow_other _ _ _ _ (by omega), h34.out.block q (by omega), hb3.out.block q hql2]; exact hqc.out);have hC5 := Hd (show OwnC w5 (B + 2) (.slice va vn vd) s.2 by rw [hw5]; exact hS4.out.out.setBox hbx.out _);have hI5 := Hd (show OwnI w5 0 (.slice va1 m1 vb1) c.ends ∧ OwnI w5 0 (.slice vc1 m2 vd1) c.deps by
    have hb := hb3.out.trans (h34.out.mono z3);rw [hw5]; exact ⟨own_setBox26 (own_below hO.out.1 hb) hbx.out (by decide) _, own_setBox26 (own_below hO.out.2 hb) hbx.out (by decide) _⟩)
   obtain ⟨va2, vn2, vd2, w6, hrun, hC6, hb6, hk6⟩ := snocC2 w5 (B + 2) (.slice va vn vd) s.2 c (.slice va1 m1 vb1) (.slice vc1 m2 vd1) hC5.out hI5.out.1 hI5.out.2 (by omega) (by omega);have hkv := Hd (hS2.out.out.blk);have hS6 := Hd (show HiS w0 B (.slice y1 m3 e1) (.slice y2 m4 e2) (.slice y3 m5 e3) (.slice va2 vn2 vd2) (histF g l (k + 1)) w6 by
    rw [hss.out];have hz5 : B + 2 ≤ w5.heap.size := by omega
    refine ⟨(hk6 B (by omega) (fun e => by have := (hkv.out B e).1; omega)).trans (by rw [hw5]; exact setRow_heap _ _ _ _ _ _ hbx.out), (hk6 (B + 1) (by omega) (fun e => by have := (hkv.out (B + 1) e).1; omega)).trans (by rw [hw5, setRow_other _ _ _ _ (by omega)]; exact hS4.out.res), ?_, hC6, ?_, Nat.le_trans hz5 hb6.size⟩
    ·refine (hgv.out.below h34.out).keepGe hgeh.out (fun j hj hjs => ?_) (by have := hb6.size; omega);rw [hk6 j (by omega) (fun e => by have := (hkv.out j e).2; obtain ⟨cur, hc2⟩ := this; have := (Array.getElem?_eq_some_iff.1 hc2).1; omega), hw5, setRow_other _ _ _ _ (by omega)]
    ·have h := below_row hS4.out.bel (Nat.le_refl B) #[.slice y1 m3 e1, .slice y2 m4 e2, .slice y3 m5 e3];rw [← hw5] at h;exact h.trans (hb6.mono (by omega)))
   have hrunh := Hd hrun;unfold chCells at hrun hq5;have hq4 := Hd (show w4.heap[q]? = some (.cells #[.int .i64 c.kind, .int .i64 c.v.id, .int .i64 c.v.side, .int .i64 c.e.id, .int .i64 c.e.src, .int .i64 c.e.dst, .bool c.e.dir, .int .i64 c.e.wt, .int .i64 c.e.cap, .int .i64 c.id, .int .i64 c.n, .slice va1 m1 vb1, .slice vc1 m2 vd1] 33 (0, 0)) by have h := hq5.out; rw [hw5, setRow_other _ _ _ _ (by omega)] at h; exact h);have hw5h := Hd hw5;clear hw4 hrunh hC6 hb6 hk6 hw5;obtain ⟨t0, t1, t2⟩ := box3 hy.out;clear hlen z2 z3 z4 z5 hql hql2 wsz;go_upto_region 8 with (fail);go_upto_region 9 with (refine wpList_store_row rfl 26 (.tmp 2) (.tmp 35) rfl B #[.slice y1 m3 e1, .slice y2 m4 e2, .slice y3 m5 e3] rfl rfl 26 _ hbx.out (size26b _ _ _) rfl (by simp [Value.oneCell']) ?_)
   rw [← hw5h.out];clear t0 t1 t2;obtain ⟨p0, p1, p2, p3, p4, p5, p6, p7, p8, p9, pA, pB, pC⟩ := ch_cells (c := c) (a := .slice va1 m1 vb1) (b := .slice vc1 m2 vd1) hq5.out
   go_wp2_with (at_builtin; refine wpList_append_runB rfl (.tmp 36) (.tmp 38) 40 rfl _ _ rfl rfl _ _ hrun ?_)
   go_roundw
   case rel => exact ⟨k + 1, _, _, _, _, _, _, _, _, _, _, _, _, rfl, by go_num, by omega, by omega, hS6⟩
   case measure => simp [intOf]; omega
end Go.Proofs.YtlaldnlgapeckaaGreat
