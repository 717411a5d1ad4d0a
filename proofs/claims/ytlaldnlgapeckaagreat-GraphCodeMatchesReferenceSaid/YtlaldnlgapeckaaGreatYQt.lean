/- Regions that draw their order, whose operations only read, or call what answers one value and leaves a world of a class: one walk in the order of the text serves every order. Suffixes of a body. -/
import Derived.Test.YtlaldnlgapeckaaGreatProg
import Derived.Deep.Quiet
set_option maxHeartbeats 4000000
namespace Go.Proofs.YtlaldnlgapeckaaGreat
section
variable {P : Program} {ops : Array Oper} {C : World → Prop} {Q : Act → Prop}
/-- wpQuiet as a structure: the elaborator can't unfold it -/
structure WQ (P : Program) (ops : Array Oper) (C : World → Prop) (Q : Act → Prop) (l : List Oper) (a : Act) : Prop where
 out : wpQuiet P ops C Q l a
theorem q_nil {a : Act} (h : Q a) : WQ P ops C Q [] a := ⟨h⟩
theorem q_take {a : Act} {o : Oper} {rest : List Oper} {v : Value} (hw : Region.wanted o (yielded ops a.tmps) = true) (hv : ∀ w, C w → (execOp a.eval o).run P w = .ok (.value v) w)
  (h : WQ P ops C Q rest (a.put o.dst v)) : WQ P ops C Q (o :: rest) a := by
 refine ⟨?_⟩;unfold wpQuiet;rw [if_pos hw];exact ⟨v, fun w hC => by unfold Oper.quietAt; rw [hv w hC]; exact ⟨rfl, rfl⟩, h.out⟩
theorem q_skip {a : Act} {o : Oper} {rest : List Oper} (hw : Region.wanted o (yielded ops a.tmps) = false)
  (h : WQ P ops C Q rest (a.put o.dst undef)) : WQ P ops C Q (o :: rest) a := by
 refine ⟨?_⟩;unfold wpQuiet;rw [if_neg (by rw [hw]; exact Bool.false_ne_true)];exact h.out
theorem q_call {a : Act} {o : Oper} {rest : List Oper} {v : Value} {f : Nat} {xs : Array Operand} {ts : Array TypeId} (fn : Func) (hw : Region.wanted o (yielded ops a.tmps) = true)
  (ho : o.op = .call { callee := .value (.func f), args := xs, argTypes := ts }) (hf : P.funcs[f]? = some fn) (hn : (fn.name == "runtime.NumGoroutine") = false) (hb : fn.body.isNone = false) (args : Array Value) (hargs : xs.map a.eval = args)
  (hc : ∀ w, C w → Calls P f args w fun e w'' => e = .returned v ∧ C w'') (h : WQ P ops C Q rest (a.put o.dst v)) : WQ P ops C Q (o :: rest) a := by
 have hrun : ∀ w, (execOp a.eval o).run P w = .ok (.enter f args) w := fun w => by
  simp only [execOp, ho, resolve, Act.eval, Deferred.ofValue, invoke, callFunc, Sem.run_bind, Sem.run_pure, Result.andThen_ok, hargs];have hn' : ¬ fn.name = "runtime.NumGoroutine" := by simpa using hn
  have hb' : ¬ fn.body = none := by intro e; rw [e] at hb; cases hb
  simp [hf, hn', hb']
 refine ⟨?_⟩;unfold wpQuiet;rw [if_pos hw];exact ⟨v, fun w hC => by unfold Oper.quietAt; rw [hrun w]; exact ⟨rfl, hc w hC⟩, h.out⟩
theorem q_region (C : World → Prop) {id : Nat} {Q : Exit → Act → World → Prop} {a : Act} {w : World} {l : List Oper} (hm : P.follows .mixedOrders = true) (hB : Region.lexB .any l.toArray = true) (hC : C { w with drawn := w.drawn + 1 })
  (h : WQ P l.toArray C (fun a' => ∀ w', C w' → Q .normal a' w') l a) : (Code.region id l.toArray true).wp P Q a w :=
 wp_region_quiet (C := C) hm hB hC (by simpa using h.out)
end
/-- the statements of a body from the n-th on -/
def dropC : Nat → Code → Code
 | 0, c => c
 | n + 1, .seq _ b => dropC n b
 | _, c => c
theorem wp_eq {C D : Code} {Q : Exit → Act → World → Prop} {a : Act} {w : World} (h : C = D) (hw : Code.wp Tryz.prog D Q a w) : Code.wp Tryz.prog C Q a w := by rw [h]; exact hw
end Go.Proofs.YtlaldnlgapeckaaGreat
