/- Contracts and facts. -/
import Derived.Deep.LoopGhost
import Derived.Handy
import Derived.RangeFuncNested
import Derived.RangeFuncBound
import Derived.RangeFuncBox
import Derived.RangeFuncCalls
import Derived.RangeFuncLeaves
import Derived.Shelf.Abstract
import Derived.Shelf.RegionOpen
import Derived.WalkKit
import Derived.OwnWalkIn
import Derived.TacticsInMore
import Derived.LoopNIn
import Derived.LoopIn
import Derived.Maps.OwnIn
import Derived.WalkMore
import Derived.BigRegion
import Derived.Laws.EntriesVeiled
import Derived.Test.YtlnbobclbaieoaaUFX
set_option linter.unusedSimpArgs false
set_option maxRecDepth 100000
set_option maxHeartbeats 4000000
namespace Go.Proofs.Ytlnbobclbaieoaa
open Go.RowKit Go.Shelf
attribute [local go_sem] Oper.semAt_some
def KB (n₀ Bs : Nat) (A B : World) : Prop := Below n₀ A B ∧ B.heap[Bs]? = A.heap[Bs]?
theorem KB.trans {n₀ Bs : Nat} {A B C : World} (h : KB n₀ Bs A B) (g : KB n₀ Bs B C) : KB n₀ Bs A C := ⟨h.1.trans g.1, g.2.trans h.2⟩
set_option maxRecDepth 100000 in
/-- slices.Backward's closure: for every body that keeps what lay below n₀ -/
theorem back1_in {α : Type} (F : Fence) (n : Nat) (h7 : F.fn 84) (hro : F.round = none) (hn : 1 ≤ n) (l Bs n₀ len cap : Nat) (a : Option Addr) (enc : α → Array Value) (zs : List α) (hl : zs.length = len) (hlen : len ≤ 1000000000) (J Jx : List α → World → Prop)
    (hY : ∀ pre x W, J pre W → pre.length < len → YieldAt F (n - 1) Try.prog l (enc x) W fun e W' =>
      (e = .returned (.bool true) ∧ J (pre ++ [x]) W' ∧ KB n₀ Bs W W') ∨ (e = .returned (.bool false) ∧ Jx (pre ++ [x]) W'))
    (W : World) (hBs : Boxed W Bs 46 (.slice a len cap))
    (hc : ∀ j (h : j < zs.length), ∃ b o i lv, a = some ⟨b, o, none⟩ ∧ b < n₀ ∧ W.cell? ⟨b, o + j * 2, none⟩ = some (.int .i64 i) ∧ W.cell? ⟨b, o + j * 2 + 1, none⟩ = some lv ∧ enc zs[j] = #[.int .i64 j, .agg #[.int .i64 i, lv]]) (h0 : J [] W) :
    CallsIn F n Try.prog 84 #[.func (.yield l) #[] #[], .pointer (some ⟨Bs, 0, none⟩)] W fun e W' => (∃ v, e = .returned v) ∧
      ((∃ ys, ys = zs.reverse ∧ J ys W') ∨ (∃ pre, True ∧ Jx pre W')) := by
  refine callsIn_of_wp Try.func84 rfl h7 ?_ hro
  simp only [Try.ntmps84, List.size_toArray, List.length_cons, List.length_nil, Nat.reduceAdd, Nat.reduceSub, Array.replicate_succ, Array.replicate_zero, List.push_toArray, List.append_toArray, List.nil_append, List.cons_append]
  have cB := hBs.cell
  gi_wp2
  gi_loopw [3] (fun i wr => ∃ k : Nat, k ≤ len ∧ i = .int .i64 ((k : Int) - 1) ∧ J (zs.drop k).reverse wr ∧ KB n₀ Bs W wr)
    (fun i _ => (intOf i + 1).toNat)
  case atStart => exact ⟨len, Nat.le_refl _, by go_num, by rw [← hl, List.drop_length]; exact h0, Below.refl _ _, rfl⟩
  case round =>
    obtain ⟨k, hk, rfl, hJs, hnx⟩ := hrel
    cases k with
    | zero =>
      have i1 : ¬ (0 : Int) ≤ ((0 : Nat) : Int) - 1 := by omega
      gi_wp2
      go_end0
      exact ⟨⟨_, rfl⟩, .inl (by simpa using hJs)⟩
    | succ m =>
      have hm : m < zs.length := by omega
      obtain ⟨b, o, i, lv, rfl, hb, c0, c1, he⟩ := hc m hm
      obtain ⟨fn, tmps, assign, body, hy, hR⟩ := hY _ zs[m] wr hJs (by rw [List.length_reverse, List.length_drop]; omega)
      rw [he] at hy
      have c0' := (hnx.1.cell (p := ⟨b, o + m * 2, none⟩) hb).trans c0
      have c1' := (hnx.1.cell (p := ⟨b, o + m * 2 + 1, none⟩) hb).trans c1
      have cB := (show Boxed wr Bs 46 (.slice (some ⟨b, o, none⟩) len cap) from hnx.2.trans hBs).cell
      rw [show ((m + 1 : Nat) : Int) - 1 = (m : Int) by omega]
      have i0 : (0 : Int) ≤ (m : Int) := by omega
      have i1 : (m : Int) < (len : Int) := by omega
      gi_wp2
      refine hR.mono ?_
      rintro e W3 (⟨rfl, hJ3, hk3⟩ | ⟨rfl, hJx3⟩)
      · gi_wp2
        go_roundw
        case rel => exact ⟨m, by omega, by go_num, by rw [List.drop_eq_getElem_cons hm, List.reverse_cons]; exact hJ3, hnx.trans hk3⟩
        case measure => simp [intOf]
      · gi_wp2
        refine bodyPost_ret (results_none rfl _ _ _) rfl ?_
        exact ⟨⟨_, rfl⟩, .inr ⟨_, trivial, hJx3⟩⟩
theorem back_in (F : Fence) (n : Nat) (h5 : F.fn 74) (hro : F.round = none) (a : Option Addr) (len cap : Nat) (w : World) :
    CallsIn F n Try.prog 74 #[.slice a len cap] w fun e w' => e = .returned (.func (.func 84) #[] #[.pointer (some ⟨w.heap.size, 0, none⟩)]) ∧ w' = w.alloc (.cells #[.slice a len cap] 46) := by
  refine callsIn_of_wp Try.func74 rfl h5 ?_ hro
  simp only [Try.ntmps74, List.size_toArray, List.length_cons, List.length_nil, Nat.reduceAdd, Nat.reduceSub, Array.replicate_succ, Array.replicate_zero, List.push_toArray, List.append_toArray, List.nil_append, List.cons_append]
  gi_wp2
  go_ret
  exact ⟨rfl, rfl⟩
theorem list_choose {α β : Type} : ∀ (L : List β) (Q : Nat → β → α → Prop), (∀ j x, L[j]? = some x → ∃ y, Q j x y) → ∃ zs : List α, zs.length = L.length ∧ ∀ j (h1 : j < zs.length) (x : β), L[j]? = some x → Q j x zs[j] := by
  intro L
  induction L with
  | nil => intro Q _; exact ⟨[], rfl, fun j h1 => absurd h1 (by simp)⟩
  | cons b L ih =>
    intro Q h
    obtain ⟨y, hy⟩ := h 0 b rfl
    obtain ⟨zs, h1, h2⟩ := ih (fun j x y => Q (j + 1) x y) (fun j x hx => h (j + 1) x (by simpa using hx))
    refine ⟨y :: zs, by simp [h1], fun j hj x hx => ?_⟩
    cases j with
    | zero => simp at hx; subst hx; exact hy
    | succ j => exact h2 j (by simpa using hj) x (by simpa using hx)
theorem wlIn_delete {F : Fence} {nF : Nat} {P : Program} {ops : Array Oper} {rest : List Oper} {o : Oper} {a : Act} {Q : Exit → Act → World → Prop} {w : World} (hg : o.guard = none) (m x : Operand) (t k : TypeId)
    (hop : o.op = Op.call { callee := Callee.builtin Builtin.delete, args := #[m, x], argTypes := #[t, k] }) (mv kv : Value) (hm : a.eval m = mv) (hx : a.eval x = kv) (w' : World)
    (hrun : (Builtin.delete_ #[t, k] o.type #[mv, kv]).run P w = .ok (.tuple #[]) w') (h : wpListIn F nF P ops Q rest (a.put o.dst (.tuple #[])) w') : wpListIn F nF P ops Q (o :: rest) a w := by
  refine wpListIn_plain hg fun K' hK' => ?_
  unfold Oper.wpIn
  refine ⟨by simp [Oper.about, hop, resolve, Target.leads, Sem.run_pure], ?_⟩
  rw [Oper.semAt_plain F _ _ (by rw [hop]; intro c hc'; cases hc')]
  simp [execOp, hop, resolve, invoke, builtin, hm, hx, hrun, Result.andThen]
  exact hK' _ _ h
theorem wlIn_update {F : Fence} {nF : Nat} {P : Program} {ops : Array Oper} {rest : List Oper} {o : Oper} {a : Act} {Q : Exit → Act → World → Prop} {w : World} (hg : o.guard = none) (m x v : Operand) (t : TypeId)
    (hop : o.op = Op.mapUpdate t m x v) (mv kv vv : Value) (hm : a.eval m = mv) (hx : a.eval x = kv) (hv : a.eval v = vv) (w' : World)
    (hrun : (Instr.mapUpdate t mv kv vv).run P w = .ok () w') (h : wpListIn F nF P ops Q rest (a.put o.dst undef) w') : wpListIn F nF P ops Q (o :: rest) a w := by
  refine wpListIn_plain hg fun K' hK' => ?_
  unfold Oper.wpIn
  refine ⟨by simp [Oper.about, hop], ?_⟩
  rw [Oper.semAt_plain F _ _ (by rw [hop]; intro c hc'; cases hc')]
  simp [execOp, hop, hm, hx, hv, hrun, Result.andThen]
  exact hK' _ _ h
def stepR (m : PM) (x : Nm) : PM := if x.2.length = 3 then putP m x.1 ⟨x.2[0]?.getD 0, x.2[1]?.getD 0, x.2[2]?.getD 0⟩ else fun k => if k = x.1 then none else m k
def readF (L : List Nm) : PM := L.reverse.foldl stepR (fun _ => none)
theorem PMV.strike {W : World} {mb : Nat} {m : PM} (h : PMV W mb m) (i : Int) (ty : TypeId) : ∃ W', (Builtin.delete_ #[74, 3] ty #[.map (some mb), .int .i64 i]).run Try.prog W = .ok (.tuple #[]) W' ∧ PMV W' mb (fun k => if k = i then none else m k) ∧ W.grownBy W' (some mb) ∧ W'.heap.size = W.heap.size := by
  obtain ⟨W', h1, h2, h3, h4⟩ := MI.MI.strike Try.underlying74 Try.underlying3 h i ty
  refine ⟨W', h1, MI.MI.congr h2 (fun k => ?_), h3, h4⟩
  show (if k = i then none else (m k).map plV) = ((if k = i then none else m k) : Option Pl).map plV
  split <;> rfl
abbrev RX (n₀ : Nat) (w : World) := { x : Nat × Int × Value × List Int // ∀ W, Below n₀ w W → DL W x.2.2.1 x.2.2.2 }
def RX.enc {n₀ : Nat} {w : World} (x : RX n₀ w) : Array Value := #[.int .i64 x.1.1, .agg #[.int .i64 x.1.2.1, x.1.2.2.1]]
def RX.nm {n₀ : Nat} {w : World} (x : RX n₀ w) : Nm := (x.1.2.1, x.1.2.2.2)

end Go.Proofs.Ytlnbobclbaieoaa
