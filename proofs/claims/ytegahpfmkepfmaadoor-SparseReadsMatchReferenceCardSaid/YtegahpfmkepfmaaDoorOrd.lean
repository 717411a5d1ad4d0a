import Derived.Test.YtegahpfmkepfmaaDoorItr
import Derived.OrdersIn
namespace Go.Proofs.YtegahpfmkepfmaaDoor
open Go.RowKit Go.Shelf
/-! One step of a region that draws its order, in a fence, in a round or not. -/
section
variable {F : Fence} {n : Nat} {P : Program} {md : Region.Mode} {ops : Array Oper} {Q : Exit → Act → World → Prop} {fuel : Nat} {listed : Array Bool} {a : Act} {w : World}
theorem any_one (i : Nat) (hr : Region.ready md ops listed = [i]) (h : wpOpIn F n P ops Q i (wpAnyIn F n P md ops Q fuel (listed.setIfInBounds i true)) a w) : wpAnyIn F n P md ops Q (fuel + 1) listed a w :=
  wpAnyIn_all hr (by simp) (fun j hj => by
    have e : j = i := by simpa using hj
    rw [e]; exact h)
theorem any_two (i j : Nat) (hr : Region.ready md ops listed = [i, j]) (h : wpOpIn F n P ops Q i (wpAnyIn F n P md ops Q fuel (listed.setIfInBounds i true)) a w)
    (h2 : wpOpIn F n P ops Q j (wpAnyIn F n P md ops Q fuel (listed.setIfInBounds j true)) a w) : wpAnyIn F n P md ops Q (fuel + 1) listed a w :=
  wpAnyIn_all hr (by simp) (fun k hk => by
    have : k = i ∨ k = j := by simpa using hk
    rcases this with rfl | rfl
    · exact h
    · exact h2)
theorem op_load_row {K : Act → World → Prop} (i : Nat) (o : Oper) (hi : ops[i]? = some o) (hgd : o.guard = none) (ty : TypeId) (x : Operand) (ho : o.op = .load ty x)
    (g : Nat) (hx : a.eval x = .pointer (some ⟨g, 0, none⟩)) (t : TypeId) (cs : Array Value) (fr : Nat × Nat) (d : TypeDesc) (hg : w.heap[g]? = some (.cells cs t fr))
    (hu : P.underlying ty = some d) (hd : (match d with | .struct _ | .array _ _ => true | _ => false) = true) (hs : (P.info? ty).map (·.size) = some cs.size)
    (h : K (a.put o.dst (.agg cs)) w) : wpOpIn F n P ops Q i K a w := by
  refine wpOpIn_step hi fun K' hK => ?_
  rw [if_pos (by simp [Region.wanted, hgd])]
  unfold Oper.wpIn
  refine ⟨by simp [Oper.about, ho], ?_⟩
  rw [Oper.semAt_plain F _ _ (by rw [ho]; intro c hc; cases hc)]
  simp only [execOp, ho, hx, Instr.loadAt, Instr.sureAddr, Sem.run_bind, Sem.run_pure, Result.andThen_ok, run_loadVar_row w g t ty cs fr d hg hu hd hs]
  exact hK _ _ h
theorem op_store_row {K : Act → World → Prop} (i : Nat) (o : Oper) (hi : ops[i]? = some o) (hgd : o.guard = none) (ty : TypeId) (x y : Operand) (ho : o.op = .store ty x y)
    (g : Nat) (cells : Array Value) (hx : a.eval x = .pointer (some ⟨g, 0, none⟩)) (hy : a.eval y = .agg cells)
    (t : TypeId) (old : Array Value) (hg : w.heap[g]? = some (.cells old t (0, 0))) (hs : (P.info? ty).map (·.size) = some cells.size)
    (hold : old.size = cells.size) (h1 : cells.all (·.oneCell') = true)
    (h : K (a.put o.dst undef) (w.setRow g cells)) : wpOpIn F n P ops Q i K a w := by
  refine wpOpIn_step hi fun K' hK => ?_
  rw [if_pos (by simp [Region.wanted, hgd])]
  unfold Oper.wpIn
  refine ⟨by simp [Oper.about, ho], ?_⟩
  rw [Oper.semAt_plain F _ _ (by rw [ho]; intro c hc; cases hc)]
  simp only [execOp, ho, hx, hy, Instr.storeAt, Instr.sureAddr, Sem.run_bind, Sem.run_pure, Result.andThen_ok, run_storeVar_row w g t ty old cells hg hs hold h1]
  exact hK _ _ h
theorem op_call {K : Act → World → Prop} (i : Nat) (o : Oper) (hi : ops[i]? = some o) (hgd : o.guard = none) (k : Nat) (xs : Array Operand) (ts : Array TypeId) (ho : o.op = .call { callee := .value (.func k), args := xs, argTypes := ts })
    (vs : Array Value) (hx : xs.map a.eval = vs) (hk : a.eval (.func k) = .func (.func k) #[] #[]) (eg : ∀ args w, (callFunc k args).run P w = .ok (.enter k args) w) (hF : F.fn k) (hn : 1 ≤ n) {u : Value} {R : World → Prop}
    (hc : CallsIn F (n - 1) P k vs w fun e w' => e = .returned u ∧ R w') (h : ∀ w', R w' → K (a.put o.dst u) w') : wpOpIn F n P ops Q i K a w := by
  refine wpOpIn_step hi fun K' hK => ?_
  rw [if_pos (by simp [Region.wanted, hgd])]
  unfold Oper.wpIn
  refine ⟨fun f hf => ?_, ?_⟩
  · simp [Oper.about, ho, resolve, hk, Sem.run_pure, Target.leads, hx, Deferred.ofValue] at hf
    subst hf; exact hF
  · rw [Oper.semAt_plain F _ _ (by rw [ho]; intro c hc; cases hc)]
    simp [execOp, ho, resolve, hk, invoke, hx, eg, Oper.uponIn_enter, Deferred.ofValue]
    refine ⟨fun _ => hn, hc.mono ?_⟩
    rintro e w' ⟨rfl, hr⟩
    exact hK _ _ (h w' hr)
theorem op_call1 {K : Act → World → Prop} (i : Nat) (o : Oper) (hi : ops[i]? = some o) (hgd : o.guard = none) (k : Nat) (x : Operand) (ts : Array TypeId) (ho : o.op = .call { callee := .value (.func k), args := #[x], argTypes := ts })
    (v : Value) (hx : a.eval x = v) (hk : a.eval (.func k) = .func (.func k) #[] #[]) (eg : ∀ args w, (callFunc k args).run P w = .ok (.enter k args) w) (hF : F.fn k) (hn : 1 ≤ n) {u : Value} {R : World → Prop}
    (hc : CallsIn F (n - 1) P k #[v] w fun e w' => e = .returned u ∧ R w') (h : ∀ w', R w' → K (a.put o.dst u) w') : wpOpIn F n P ops Q i K a w :=
  op_call i o hi hgd k #[x] ts ho #[v] (by simp [hx]) hk eg hF hn hc h
theorem op_call2 {K : Act → World → Prop} (i : Nat) (o : Oper) (hi : ops[i]? = some o) (hgd : o.guard = none) (k : Nat) (x y : Operand) (ts : Array TypeId) (ho : o.op = .call { callee := .value (.func k), args := #[x, y], argTypes := ts })
    (v z : Value) (hx : a.eval x = v) (hy : a.eval y = z) (hk : a.eval (.func k) = .func (.func k) #[] #[]) (eg : ∀ args w, (callFunc k args).run P w = .ok (.enter k args) w) (hF : F.fn k) (hn : 1 ≤ n) {u : Value} {R : World → Prop}
    (hc : CallsIn F (n - 1) P k #[v, z] w fun e w' => e = .returned u ∧ R w') (h : ∀ w', R w' → K (a.put o.dst u) w') : wpOpIn F n P ops Q i K a w :=
  op_call i o hi hgd k #[x, y] ts ho #[v, z] (by simp [hx, hy]) hk eg hF hn hc h
end
end Go.Proofs.YtegahpfmkepfmaaDoor
