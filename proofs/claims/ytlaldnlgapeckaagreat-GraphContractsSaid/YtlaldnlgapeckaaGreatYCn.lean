/- How many ends are at a vertex (the statements' own 'ends'), and what contraction and splitting do to them. GraphContracts, plain: what contraction does to the ends at a vertex; splitting all ends off and contracting renames a vertex. Regions that draw their order, whose operations only read, or call what answers one value and leaves a world of a class: one walk in the order of the text serves every order. Suffixes of a body. GraphContracts: what lies in memory between its statements. -/
import Derived.Test.YtlaldnlgapeckaaGreatYTw
import Derived.Test.YtlaldnlgapeckaaGreatYS
import Derived.Test.YtlaldnlgapeckaaGreatYX
import Derived.Test.YtlaldnlgapeckaaGreatProg
import Derived.Deep.Quiet
import Derived.Test.YtlaldnlgapeckaaGreatYGv
namespace Go.Proofs.YtlaldnlgapeckaaGreat
open Go.RowKit
def endsN (l : List Ed) (i : Int) : Nat := l.foldl (fun n e => n + (if e.src = i then 1 else 0) + (if e.dst = i then 1 else 0)) 0
def oneN (e : Ed) (i : Int) : Nat := (if e.src = i then 1 else 0) + (if e.dst = i then 1 else 0)
theorem endsN_go (l : List Ed) (i : Int) : ∀ n, l.foldl (fun n e => n + (if e.src = i then 1 else 0) + (if e.dst = i then 1 else 0)) n = n + (l.map (oneN · i)).sum := by
  induction l with
  | nil => intro n; simp
  | cons e t ih => intro n; rw [List.foldl_cons, ih]; simp [oneN]; omega
theorem endsN_sum (l : List Ed) (i : Int) : endsN l i = (l.map (oneN · i)).sum := by unfold endsN; rw [endsN_go]; simp
theorem endsN_snoc (l : List Ed) (i : Int) (k : Nat) (h : k < l.length) : endsN (l.take (k + 1)) i = endsN (l.take k) i + oneN l[k] i := by
  rw [endsN_sum, endsN_sum, List.take_succ_eq_append_getElem h, List.map_append, List.sum_append, List.map_cons, List.map_nil, List.sum_cons, List.sum_nil, Nat.add_zero]
theorem endsN_le (l : List Ed) (i : Int) : endsN l i ≤ 2 * l.length := by
  rw [endsN_sum]
  induction l with
  | nil => simp
  | cons e t ih =>
    simp only [List.map_cons, List.sum_cons, List.length_cons]
    have : oneN e i ≤ 2 := by unfold oneN; split <;> split <;> omega
    omega
set_option maxRecDepth 100000 in
set_option maxHeartbeats 1000000 in
theorem ends_any (v : Value) (g : Gr) (x : Int) (w : World) (hv : GV w v g) (hn : g.es.length ≤ 1000000) :
    Calls Tryz.prog 45 #[v, .int .i64 x] w fun e w' => e = .returned (.int .i64 (endsN g.es x : Nat)) ∧ Below w.heap.size w w' := by
  obtain ⟨a, b, c, rfl, h1, h2, h3⟩ := hv
  obtain ⟨w1, hw1⟩ : ∃ w1, w1 = w.alloc (.cells #[a, b, c] 26) := ⟨_, rfl⟩
  obtain ⟨hB, hz, hcell0⟩ := one_box w w1 a b c 26 hw1
  have hcell := Lib.hid (hcell0 w1 (Below.refl _ _))
  have hB0 := Lib.hid hB
  have hv1 := Lib.hid (h2.below hB)
  obtain ⟨a1, a2, rfl⟩ := h1.shape
  obtain ⟨b1, b2, rfl⟩ := h2.shape
  obtain ⟨c1, c2, rfl⟩ := h3.shape
  generalize g.vs.length = z1 at *
  generalize g.ds.length = z3 at *
  generalize g.es = l at *
  have hw2 := Lib.hid hw1
  clear hw1 hcell0 hB h1 h2 h3
  have cellE := Lib.hid (show ∀ (k : Nat) (hk : k < l.length), ∃ b o, b1 = some ⟨b, o, none⟩ ∧ EdAt w1 b (o + k * 6) l[k] from fun k hk => by
    obtain ⟨b, o, c, he, e1, e2, e3⟩ := hv1.out.own (fun e => by rw [e] at hk; simp at hk)
    injection he with he1 he2 he3
    exact ⟨b, o, he1, e3 k _ (List.getElem?_eq_getElem hk)⟩)
  obtain ⟨N, hN⟩ : ∃ N, Hid (N = l.length) := ⟨_, rfl⟩
  rw [← hN.out] at hw2 hcell hn
  clear hv1
  go_enter Tryz.func45, Tryz.ntmps45
  go_wp2_with fail
  rw [← hN.out, ← hw2.out]
  obtain ⟨q0, q1, q2⟩ := hcell.out
  go_loop [5, 6] (fun s i => ∃ k : Nat, k ≤ N ∧ i = .int .i64 k ∧ ∃ m : Nat, s = .int .i64 m ∧ Hid (m = endsN (l.take k) x)) (fun _ i => N - (intOf i).toNat)
  case atStart => exact ⟨0, by omega, rfl, 0, rfl, by show _ = _; simp [endsN]⟩
  case round =>
    obtain ⟨k, hk, rfl, m, rfl, hm⟩ := hrel
    have i0 : (0 : Int) ≤ (k : Int) := by omega
    have hmle : m ≤ 2 * k := by rw [hm.out]; have := endsN_le (l.take k) x; rw [List.length_take] at this; omega
    have m0 : (0 : Int) ≤ (m : Int) := by omega
    by_cases hlt : k < N
    · have hkl : k < l.length := by rw [← hN.out]; exact hlt
      obtain ⟨bv, ov, rfl, cv⟩ := cellE.out k hkl
      obtain ⟨d0, d1, d2, d3, d4, d5⟩ := cv
      have hsn : Hid (endsN (l.take (k + 1)) x = m + oneN l[k] x) := by show _ = _; rw [endsN_snoc l x k hkl, hm.out]
      have i1 : (k : Int) < (N : Int) := by omega
      generalize l[k] = u at *
      by_cases h1 : u.src = x
      · have e1 : (u.src == x) = true := by simpa using h1
        by_cases h2 : u.dst = x
        · have e2 : (u.dst == x) = true := by simpa using h2
          have hf : Hid (m + 1 + 1 = endsN (l.take (k + 1)) x) := by show _ = _; rw [hsn.out]; simp [oneN, h1, h2]
          clear h1 h2 hsn hm
          go_wp2_with fail
          go_round
          case rel => exact ⟨k + 1, by omega, by go_num, m + 1 + 1, by go_num, hf.out⟩
          case measure => simp [intOf]; omega
        · have e2 : (u.dst == x) = false := by simpa using h2
          have hf : Hid (m + 1 = endsN (l.take (k + 1)) x) := by show _ = _; rw [hsn.out]; simp [oneN, h1, h2]
          clear h1 h2 hsn hm
          go_wp2_with fail
          go_round
          case rel => exact ⟨k + 1, by omega, by go_num, m + 1, by go_num, hf.out⟩
          case measure => simp [intOf]; omega
      · have e1 : (u.src == x) = false := by simpa using h1
        by_cases h2 : u.dst = x
        · have e2 : (u.dst == x) = true := by simpa using h2
          have hf : Hid (m + 1 = endsN (l.take (k + 1)) x) := by show _ = _; rw [hsn.out]; simp [oneN, h1, h2]
          clear h1 h2 hsn hm
          go_wp2_with fail
          go_round
          case rel => exact ⟨k + 1, by omega, by go_num, m + 1, by go_num, hf.out⟩
          case measure => simp [intOf]; omega
        · have e2 : (u.dst == x) = false := by simpa using h2
          have hf : Hid (m = endsN (l.take (k + 1)) x) := by show _ = _; rw [hsn.out]; simp [oneN, h1, h2]
          clear h1 h2 hsn hm
          go_wp2_with fail
          go_round
          case rel => exact ⟨k + 1, by omega, by go_num, m, rfl, hf.out⟩
          case measure => simp [intOf]; omega
    · have hf : Hid (m = endsN l x) := by show _ = _; rw [hm.out, List.take_of_length_le (by rw [← hN.out]; omega)]
      have i1 : ¬ (k : Int) < (N : Int) := by omega
      clear hm
      go_wp2_with fail
      go_ret
      exact ⟨ret_int (by rw [hf.out]), hB0.out⟩
end Go.Proofs.YtlaldnlgapeckaaGreat
namespace Go.Proofs.YtlaldnlgapeckaaGreat
theorem oneN_other (e : Ed) (a b i : Int) (h1 : i ≠ a) (h2 : i ≠ b) : oneN (ctE a b e) i = oneN e i := by
  unfold oneN ctE
  dsimp only
  by_cases s : e.src = a <;> by_cases d : e.dst = a <;> simp only [s, d, if_true, if_false] <;> (repeat' split) <;> first | omega | rfl
theorem oneN_to (e : Ed) (a b : Int) (h : a ≠ b) : oneN (ctE a b e) b = oneN e a + oneN e b := by
  unfold oneN ctE
  dsimp only
  by_cases s : e.src = a <;> by_cases d : e.dst = a <;> simp only [s, d, if_true, if_false] <;> (repeat' split) <;> first | omega | rfl
theorem endsN_other (l : List Ed) (a b i : Int) (h1 : i ≠ a) (h2 : i ≠ b) : endsN (l.map (ctE a b)) i = endsN l i := by
  rw [endsN_sum, endsN_sum, List.map_map]
  congr 1
  exact List.map_congr_left fun e _ => oneN_other e a b i h1 h2
theorem endsN_to (l : List Ed) (a b : Int) (h : a ≠ b) : endsN (l.map (ctE a b)) b = endsN l a + endsN l b := by
  rw [endsN_sum, endsN_sum, endsN_sum]
  induction l with
  | nil => rfl
  | cons e t ih =>
    simp only [List.map_cons, List.sum_cons, ih, oneN_to e a b h]; omega
theorem endsN_none (l : List Ed) (x : Int) (h : ∀ e ∈ l, e.src ≠ x ∧ e.dst ≠ x) : endsN l x = 0 := by
  rw [endsN_sum]
  induction l with
  | nil => rfl
  | cons e t ih =>
    have h1 := h e List.mem_cons_self
    simp only [List.map_cons, List.sum_cons, ih (fun e he => h e (List.mem_cons_of_mem _ he))]
    unfold oneN
    rw [if_neg h1.1, if_neg h1.2]
theorem Ok.at_key {g : Gr} (h : Ok g) (e : Ed) (he : e ∈ g.es) : e.src ∈ keysV g.vs ∧ e.dst ∈ keysV g.vs := by
  have := (Ed.okIn_iff e _).1 (h.eok e he)
  simp_all
theorem delV_len (l : List Vx) (a : Int) (h : Asc (keysV l)) (ha : a ∈ keysV l) : (delV l a).length + 1 = l.length := by
  obtain ⟨hp, _⟩ := posV_lt l a h ha
  rw [delV_eq l a h ha, List.length_append, List.length_take, List.length_drop]; omega
theorem insV_len (l : List Vx) (v : Vx) (h : Asc (keysV l)) : (insV l v).length = l.length + 1 := by
  rw [insV_eq l v h, List.length_append, List.length_cons, List.length_take, List.length_drop]; omega
/-- a contraction -/
def conC (a b : Int) : Ch := { zC with kind := 7, id := a, n := b }
def splC (a x s : Int) (ends : List Int) : Ch := { zC with kind := 8, id := a, v := ⟨x, s⟩, ends := ends }
theorem act_con (g : Gr) (a b : Int) : (actF g (conC a b)).map (·.1) = if (!decide (a = b) && decide (a ∈ keysV g.vs) && decide (b ∈ keysV g.vs) && !decide (a ∈ g.ds)) = true then some { g with vs := delV g.vs a, es := g.es.map (ctE a b) } else none := by
  have hb : bareF (conC a b) = true := by simp [bareF, bareC, isBare, conC, zC]
  unfold actF
  rw [if_pos hb]
  have : actK g (conC a b) = act7 g (conC a b) := rfl
  rw [this]
  unfold act7
  show Option.map _ (if (!decide (a = b) && decide (a ∈ keysV g.vs) && decide (b ∈ keysV g.vs) && !decide (a ∈ g.ds)) = true then _ else none) = _
  split <;> rfl
theorem act_spl (g : Gr) (hg : Ok g) (a x s : Int) (ha : a ∈ keysV g.vs) (hx : 0 ≤ x ∧ x ≤ 23) (hn : x ∉ keysV g.vs) (hs : 0 ≤ s ∧ s ≤ 3) : (actF g (splC a x s (endsF g.es a))).map (·.1) = some { g with vs := insV g.vs ⟨x, s⟩, es := g.es.map (mvE (endsF g.es a) x) } := by
  have hb : bareF (splC a x s (endsF g.es a)) = true := by simp [bareF, bareC, isBare, splC, zC]
  unfold actF
  rw [if_pos hb]
  have : actK g (splC a x s (endsF g.es a)) = act8 g (splC a x s (endsF g.es a)) := rfl
  rw [this]
  unfold act8
  rw [if_pos]
  · rfl
  · show (decide (a ∈ keysV g.vs) && ((⟨x, s⟩ : Vx).ok && !decide (x ∈ keysV g.vs)) && (ascI (endsF g.es a) && (endsF g.es a).all fun n => decide (n ∈ endsF g.es a))) = true
    have h1 : (⟨x, s⟩ : Vx).ok = true := (Vx.ok_iff _).2 ⟨hx, hs⟩
    have h2 : ascI (endsF g.es a) = true := by unfold ascI; exact decide_eq_true (asc_endsF g.es a hg.easc)
    rw [h1, h2]
    simp [ha, hn]
/-- splitting off all ends and contracting -/
theorem rename_run (g : Gr) (hg : Ok g) (a x s : Int) (ha : a ∈ keysV g.vs) (hd : a ∉ g.ds) (hx : 0 ≤ x ∧ x ≤ 23) (hn : x ∉ keysV g.vs) (hs : 0 ≤ s ∧ s ≤ 3) :
    runF g [splC a x s (endsF g.es a), conC a x] = some { g with vs := delV (insV g.vs ⟨x, s⟩) a, es := g.es.map (ctE a x) } := by
  have hax : a ≠ x := fun e => hn (e ▸ ha)
  rw [run_two, act_spl g hg a x s ha hx hn hs]
  simp only [Option.bind_some]
  rw [act_con, if_pos]
  · congr 2
    rw [List.map_map]
    apply List.map_congr_left
    intro e he
    have h1 := even_endsF hg.easc he a
    have h2 := odd_endsF hg.easc he a
    simp only [Function.comp, ctE, mvE, h1, h2]
    have hxa : ¬ x = a := fun e => hax e.symm
    by_cases q1 : e.src = a <;> by_cases q2 : e.dst = a <;> simp [q1, q2, hxa]
  · simp [hax, mem_keys_insV, ha, hd]
theorem rename_facts (g : Gr) (hg : Ok g) (a x s : Int) (ha : a ∈ keysV g.vs) (hn : x ∉ keysV g.vs) :
    (delV (insV g.vs ⟨x, s⟩) a).length = g.vs.length ∧ endsN (g.es.map (ctE a x)) x = endsN g.es a ∧ a ∉ keysV (delV (insV g.vs ⟨x, s⟩) a) := by
  have hax : a ≠ x := fun e => hn (e ▸ ha)
  refine ⟨?_, ?_, by rw [mem_keys_delV]; simp⟩
  · have h1 := delV_len (insV g.vs ⟨x, s⟩) a (asc_insV g.vs ⟨x, s⟩ hg.vasc hn) ((mem_keys_insV g.vs ⟨x, s⟩ a).2 (.inr ha))
    have h2 := insV_len g.vs ⟨x, s⟩ hg.vasc
    omega
  · rw [endsN_to g.es a x hax, endsN_none g.es x fun e he => ⟨fun h => hn (h ▸ (hg.at_key e he).1), fun h => hn (h ▸ (hg.at_key e he).2)⟩, Nat.add_zero]
end Go.Proofs.YtlaldnlgapeckaaGreat
namespace Go.Proofs.YtlaldnlgapeckaaGreat
section
variable {P : Program} {ops : Array Oper} {C : World → Prop} {Q : Act → Prop}
/-- wpQuiet as a structure: the elaborator can't unfold it -/
structure WQ (P : Program) (ops : Array Oper) (C : World → Prop) (Q : Act → Prop) (l : List Oper) (a : Act) : Prop where
  out : wpQuiet P ops C Q l a
theorem q_nil {a : Act} (h : Q a) : WQ P ops C Q [] a := ⟨h⟩
theorem q_take {a : Act} {o : Oper} {rest : List Oper} {v : Value} (hw : Region.wanted o (yielded ops a.tmps) = true) (hv : ∀ w, C w → (execOp a.eval o).run P w = .ok (.value v) w)
    (h : WQ P ops C Q rest (a.put o.dst v)) : WQ P ops C Q (o :: rest) a := by
  refine ⟨?_⟩
  unfold wpQuiet
  rw [if_pos hw]
  exact ⟨v, fun w hC => by unfold Oper.quietAt; rw [hv w hC]; exact ⟨rfl, rfl⟩, h.out⟩
theorem q_skip {a : Act} {o : Oper} {rest : List Oper} (hw : Region.wanted o (yielded ops a.tmps) = false)
    (h : WQ P ops C Q rest (a.put o.dst undef)) : WQ P ops C Q (o :: rest) a := by
  refine ⟨?_⟩
  unfold wpQuiet
  rw [if_neg (by rw [hw]; exact Bool.false_ne_true)]
  exact h.out
theorem q_call {a : Act} {o : Oper} {rest : List Oper} {v : Value} {f : Nat} {xs : Array Operand} {ts : Array TypeId} (fn : Func) (hw : Region.wanted o (yielded ops a.tmps) = true)
    (ho : o.op = .call { callee := .value (.func f), args := xs, argTypes := ts }) (hf : P.funcs[f]? = some fn) (hn : (fn.name == "runtime.NumGoroutine") = false) (hb : fn.body.isNone = false) (args : Array Value) (hargs : xs.map a.eval = args)
    (hc : ∀ w, C w → Calls P f args w fun e w'' => e = .returned v ∧ C w'') (h : WQ P ops C Q rest (a.put o.dst v)) : WQ P ops C Q (o :: rest) a := by
  have hrun : ∀ w, (execOp a.eval o).run P w = .ok (.enter f args) w := fun w => by
    simp only [execOp, ho, resolve, Act.eval, Deferred.ofValue, invoke, callFunc, Sem.run_bind, Sem.run_pure, Result.andThen_ok, hargs]
    have hn' : ¬ fn.name = "runtime.NumGoroutine" := by simpa using hn
    have hb' : ¬ fn.body = none := by intro e; rw [e] at hb; cases hb
    simp [hf, hn', hb']
  refine ⟨?_⟩
  unfold wpQuiet
  rw [if_pos hw]
  exact ⟨v, fun w hC => by unfold Oper.quietAt; rw [hrun w]; exact ⟨rfl, hc w hC⟩, h.out⟩
theorem q_region (C : World → Prop) {id : Nat} {Q : Exit → Act → World → Prop} {a : Act} {w : World} {l : List Oper} (hm : P.follows .mixedOrders = true) (hB : Region.lexB .any l.toArray = true) (hC : C { w with drawn := w.drawn + 1 })
    (h : WQ P l.toArray C (fun a' => ∀ w', C w' → Q .normal a' w') l a) : (Code.region id l.toArray true).wp P Q a w :=
  wp_region_quiet (C := C) hm hB hC (by simpa using h.out)
end
/-- the statements of a body from the n-th on -/
def dropC : Nat → Code → Code
  | 0, c => c
  | n + 1, .seq _ b => dropC n b
  | _, c => c
noncomputable def sfx9 (n : Nat) : Code := dropC n (Tryz.f9.body.getD .skip)
theorem wp_eq {C D : Code} {Q : Exit → Act → World → Prop} {a : Act} {w : World} (h : C = D) (hw : Code.wp Tryz.prog D Q a w) : Code.wp Tryz.prog C Q a w := by rw [h]; exact hw
end Go.Proofs.YtlaldnlgapeckaaGreat
namespace Go.Proofs.YtlaldnlgapeckaaGreat
open Go.RowKit
structure CtH (G : Gr) (a : Int) (pt : Nat) (a1 b1 c1 : Option Addr) (N1 a2 N2 b2 N3 c2 : Nat) (w w0 : World) : Prop where
  ok : Ok G
  ha : a ∈ keysV G.vs
  n1 : N1 = G.vs.length
  n2 : N2 = G.es.length
  n3 : N3 = G.ds.length
  gv : GV w0 (.agg #[.slice a1 N1 a2, .slice b1 N2 b2, .slice c1 N3 c2]) G
  box : w0.heap[pt]? = some (.cells #[.slice a1 N1 a2, .slice b1 N2 b2, .slice c1 N3 c2] 26 (0, 0))
  kw : Below w.heap.size w w0
section
variable {G : Gr} {a : Int} {pt : Nat} {a1 b1 c1 : Option Addr} {N1 a2 N2 b2 N3 c2 : Nat} {w w0 W : World}
theorem CtH.to (h : CtH G a pt a1 b1 c1 N1 a2 N2 b2 N3 c2 w w0) (B : Below w0.heap.size w0 W) : CtH G a pt a1 b1 c1 N1 a2 N2 b2 N3 c2 w W :=
  ⟨h.ok, h.ha, h.n1, h.n2, h.n3, h.gv.below B, (B.block _ (Array.getElem?_eq_some_iff.1 h.box).1).trans h.box, h.kw.trans (B.mono h.kw.size)⟩
theorem CtH.t (h : CtH G a pt a1 b1 c1 N1 a2 N2 b2 N3 c2 w w0) : w0.cell? ⟨pt, 0, none⟩ = some (.slice a1 N1 a2) ∧ w0.cell? ⟨pt, 1, none⟩ = some (.slice b1 N2 b2) ∧ w0.cell? ⟨pt, 2, none⟩ = some (.slice c1 N3 c2) := box3 h.box
theorem CtH.sz (h : CtH G a pt a1 b1 c1 N1 a2 N2 b2 N3 c2 w w0) : N1 ≤ 24 ∧ N2 ≤ 40 ∧ N3 ≤ 3 := by rw [h.n1, h.n2, h.n3]; exact ⟨h.ok.vlen, h.ok.elen, h.ok.dlen⟩
/-- an edge of the graph -/
theorem CtH.edge (h : CtH G a pt a1 b1 c1 N1 a2 N2 b2 N3 c2 w w0) (k : Nat) (hk : k < N2) : ∃ eb eo u, b1 = some ⟨eb, eo, none⟩ ∧ u ∈ G.es ∧ G.es[k]? = some u ∧ eb < w0.heap.size ∧ EdAt w0 eb (eo + k * 6) u := by
  have hk2 : k < G.es.length := by rw [← h.n2]; exact hk
  obtain ⟨eb, eo, e, h2⟩ := edges_in h.gv k hk2
  refine ⟨eb, eo, G.es[k], e, List.getElem_mem hk2, List.getElem?_eq_getElem hk2, ?_, h2 w0 (Below.refl _ _)⟩
  obtain ⟨a', b', c', he, _, h2, _⟩ := h.gv
  injection he with he
  simp only [Array.mk.injEq, List.cons.injEq] at he
  obtain ⟨_, he, _⟩ := he
  subst he
  obtain ⟨b, o, c2, e1, _, e2, _⟩ := h2.own (fun e => by rw [e] at hk2; simp at hk2)
  injection e1 with e1 _ _
  rw [e1] at e; injection e with e
  injection e with e _ _
  omega
/-- a vertex of the graph -/
theorem CtH.vert (h : CtH G a pt a1 b1 c1 N1 a2 N2 b2 N3 c2 w w0) (k : Nat) (hk : k < N1) : ∃ vb vo u, a1 = some ⟨vb, vo, none⟩ ∧ u ∈ G.vs ∧ G.vs[k]? = some u ∧ vb < w0.heap.size ∧ w0.cell? ⟨vb, vo + k * 2, none⟩ = some (.int .i64 u.id) ∧ w0.cell? ⟨vb, vo + k * 2 + 1, none⟩ = some (.int .i64 u.side) := by
  have hk2 : k < G.vs.length := by rw [← h.n1]; exact hk
  obtain ⟨eb, eo, e, h2⟩ := verts_in h.gv k hk2
  refine ⟨eb, eo, G.vs[k], e, List.getElem_mem hk2, List.getElem?_eq_getElem hk2, ?_, h2 w0 (Below.refl _ _)⟩
  obtain ⟨a', b', c', he, h2, _⟩ := h.gv
  injection he with he
  simp only [Array.mk.injEq, List.cons.injEq] at he
  obtain ⟨he, _⟩ := he
  subst he
  obtain ⟨b, o, c2, e1, _, e2, _⟩ := h2.own (fun e => by rw [e] at hk2; simp at hk2)
  injection e1 with e1 _ _
  rw [e1] at e; injection e with e
  injection e with e _ _
  omega
end
/-- the change that splits, in its box -/
def spC (a x s : Int) (v : Value) : Array Value := #[.int .i64 8, .int .i64 x, .int .i64 s, .int .i64 0, .int .i64 0, .int .i64 0, .bool false, .int .i64 0, .int .i64 0, .int .i64 a, .int .i64 0, v, .slice none 0 0]
structure SpS (w0 : World) (ps : Nat) (a x s : Int) (v : Value) (l : List Int) (W : World) : Prop where
  box : W.heap[ps]? = some (.cells (spC a x s v) 33 (0, 0))
  own : OwnI W (ps + 1) v l
  below : Below w0.heap.size w0 W
  low : w0.heap.size ≤ ps
  sz : ps + 1 ≤ W.heap.size
section
variable {w0 W W' : World} {ps : Nat} {a x s : Int} {v : Value} {l : List Int}
theorem SpS.to (h : SpS w0 ps a x s v l W) (B : Below W.heap.size W W') : SpS w0 ps a x s v l W' := by
  have hs := h.sz
  have hl := h.low
  exact ⟨(B.block _ (by omega)).trans h.box, own_below h.own B, h.below.trans (B.mono (by omega)), h.low, Nat.le_trans hs B.size⟩
theorem SpS.drew (h : SpS w0 ps a x s v l W) : SpS w0 ps a x s v l W.drew := h.to (Below.refl _ _).drew
theorem SpS.cell (h : SpS w0 ps a x s v l W) : W.cell? ⟨ps, 11, none⟩ = some v := by rw [cell_of_row _ _ _ _ _ _ h.box]; rfl
theorem SpS.add (h : SpS w0 ps a x s v l W) (u : Int) (hl : l.length ≤ 1000) :
    ∃ z1 z2 z3 w', (Builtin.append_ #[24, 24] 24 #[v, .slice (some ⟨W.heap.size, 0, none⟩) 1 1]).run Tryz.prog (W.alloc (.cells #[.int .i64 u] 3)) = .ok (.slice z1 z2 z3) w' ∧ w'.heap[ps]? = some (.cells (spC a x s v) 33 (0, 0)) ∧ SpS w0 ps a x s (.slice z1 z2 z3) (l ++ [u]) (w'.setCell ⟨ps, 11, none⟩ (.slice z1 z2 z3)) ∧ Below w0.heap.size w0 w' := by
  obtain ⟨i0, hi, hz0, hz1, hz2⟩ := info_parts info3
  have hs := h.sz
  have hlow := h.low
  obtain ⟨gg, cap, w', hr, ho2, hg⟩ := snocX (ps + 1) 24 3 i0 _ 1 8 Tryz.underlying24 hi hz0 hz1 hz2 rfl (by omega) (by omega) W v l.length (cI l) #[.int .i64 u] rfl (by simp [Value.oneCell']) h.own (by omega) h.sz
  have hbox := (grown_keep hg h.own ps (by omega) (fun q => absurd q (by omega))).trans h.box
  have hbel : Below w0.heap.size w0 w' := (h.below.alloc (by omega) _).grown hg (by simp; omega) (fun j hj => by have := (own_row h.own j hj).1; omega)
  have hown : OwnI w' (ps + 1) (.slice (some ⟨gg, 0, none⟩) (l.length + 1) cap) (l ++ [u]) := by
    unfold OwnI
    rw [List.length_append, cI, List.map_append]
    simpa [cI] using ho2
  refine ⟨_, _, _, w', hr, hbox, ⟨heap_setCell_same w' ps 11 _ 33 _ hbox, ?_, hbel.setCell (by exact hlow) _, hlow, ?_⟩, hbel⟩
  · exact ownsRow_setCell_other hown (fun e2 => by have := (own_row hown ps e2).1; omega) _
  · have := grown_size hg; simp; omega
end
theorem spC_cells {W : World} {g : Nat} {a x s : Int} {v : Value} (h : W.heap[g]? = some (.cells (spC a x s v) 33 (0, 0))) :
    W.cell? ⟨g, 0, none⟩ = some (.int .i64 8) ∧ W.cell? ⟨g, 1, none⟩ = some (.int .i64 x) ∧ W.cell? ⟨g, 2, none⟩ = some (.int .i64 s) ∧ W.cell? ⟨g, 3, none⟩ = some (.int .i64 0) ∧ W.cell? ⟨g, 4, none⟩ = some (.int .i64 0) ∧ W.cell? ⟨g, 5, none⟩ = some (.int .i64 0) ∧ W.cell? ⟨g, 6, none⟩ = some (.bool false) ∧ W.cell? ⟨g, 7, none⟩ = some (.int .i64 0) ∧ W.cell? ⟨g, 8, none⟩ = some (.int .i64 0) ∧ W.cell? ⟨g, 9, none⟩ = some (.int .i64 a) ∧ W.cell? ⟨g, 10, none⟩ = some (.int .i64 0) ∧ W.cell? ⟨g, 11, none⟩ = some v ∧ W.cell? ⟨g, 12, none⟩ = some (.slice none 0 0) := by
  refine ⟨?_, ?_, ?_, ?_, ?_, ?_, ?_, ?_, ?_, ?_, ?_, ?_, ?_⟩ <;> (rw [cell_of_row _ _ _ _ _ _ h]; rfl)
/-- both changes in a row, on the graph -/
theorem two_con {G : Gr} {a x s : Int} (hok : Ok G) (ha : a ∈ keysV G.vs) (hd : a ∉ G.ds) (hx : 0 ≤ x ∧ x ≤ 23) (hn : x ∉ keysV G.vs) (hs : 0 ≤ s ∧ s ≤ 3) (vG v : Value) (W : World) (hg : GV W vG G) (hv : DL W v (endsF G.es a)) :
    Calls Tryz.prog 24 #[vG, .slice (some ⟨W.heap.size, 0, none⟩) 2 2] (W.alloc (.cells #[.int .i64 8, .int .i64 x, .int .i64 s, .int .i64 0, .int .i64 0, .int .i64 0, .bool false, .int .i64 0, .int .i64 0, .int .i64 a, .int .i64 0, v, .slice none 0 0, .int .i64 7, .int .i64 0, .int .i64 0, .int .i64 0, .int .i64 0, .int .i64 0, .bool false, .int .i64 0, .int .i64 0, .int .i64 a, .int .i64 x, .slice none 0 0, .slice none 0 0] 33))
      fun e w' => ∃ x1 x2 x3 x4 x5 x6, ∃ n3 : Nat, e = .returned (.tuple #[.agg #[.slice x1 G.vs.length x2, .slice x3 G.es.length x4, .slice x5 n3 x6], .int .i64 2, .int .i64 0]) ∧ GV w' (.agg #[.slice x1 G.vs.length x2, .slice x3 G.es.length x4, .slice x5 n3 x6]) { G with vs := delV (insV G.vs ⟨x, s⟩) a, es := G.es.map (ctE a x) } ∧ Below W.heap.size W w' := by
  have h1 := hok.vlen
  have h2 := hok.elen
  have h3 := hok.dlen
  have h4 := endsF_len G.es a
  have hnil : ∀ W', DL W' (.slice none 0 0) [] := fun W' => .inl ⟨rfl, _, _, rfl⟩
  have hB : Below W.heap.size W (W.alloc (.cells #[.int .i64 8, .int .i64 x, .int .i64 s, .int .i64 0, .int .i64 0, .int .i64 0, .bool false, .int .i64 0, .int .i64 0, .int .i64 a, .int .i64 0, v, .slice none 0 0, .int .i64 7, .int .i64 0, .int .i64 0, .int .i64 0, .int .i64 0, .int .i64 0, .bool false, .int .i64 0, .int .i64 0, .int .i64 a, .int .i64 x, .slice none 0 0, .slice none 0 0] 33)) := (Below.refl _ W).alloc (Nat.le_refl _) _
  refine (all_two vG G (splC a x s (endsF G.es a)) (conC a x) v (.slice none 0 0) (.slice none 0 0) (.slice none 0 0) W hg ((ok_iff G).2 hok) ⟨by omega, by omega, by omega⟩ hv (hnil W) (hnil W) (hnil W) ⟨⟨by show (endsF G.es a).length ≤ _; omega, by simp [splC, zC]⟩, by simp [conC, zC], by simp [conC, zC]⟩).mono fun e w' h => ?_
  unfold TwoPost at h
  rw [rename_run G hok a x s ha hd hx hn hs] at h
  obtain ⟨r, he, x1, x2, x3, x4, x5, x6, hr, hgv, hb⟩ := h
  have e1 := (rename_facts G hok a x s ha hn).1
  have e2 : (G.es.map (ctE a x)).length = G.es.length := List.length_map _
  subst hr
  dsimp only at he hgv
  rw [e1, e2] at he hgv
  exact ⟨x1, x2, x3, x4, x5, x6, _, he, hgv, hB.trans (hb.mono hB.size)⟩
end Go.Proofs.YtlaldnlgapeckaaGreat
