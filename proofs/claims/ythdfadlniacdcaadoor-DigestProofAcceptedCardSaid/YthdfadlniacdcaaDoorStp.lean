import Derived.Test.YthdfadlniacdcaaDoorCpy
namespace Go.Proofs.YthdfadlniacdcaaDoor
open Go.RowKit
/-- append([]string{}, v...) at a step of a region that draws its order -/
theorem step_copy {w : World} {ops : Array Oper} {o : Oper} {a : Act} {K : Act → World → Prop} {Q : Exit → Act → World → Prop} {E : Prop} (hgd : o.guard = none) (s x : Operand)
    (ho : o.op = .call { callee := .builtin .append, args := #[s, x], argTypes := #[26, 26] }) (g base : Nat) (v : Value) (l : List Str) (hs : a.eval s = .slice (some ⟨g, 0, none⟩) 0 0) (hx : a.eval x = v)
    (hown : w.ownsRow base 9 1 (.slice (some ⟨g, 0, none⟩) 0 0) 0 []) (hv : SL w v l) (hl : l.length ≤ 100000) (hbase : base ≤ w.heap.size)
    (h : ∀ v' w', OwnS w' base v' l → w.grownBy w' (some g) → K (a.put o.dst v') w') :
    if Region.wanted o (yielded ops a.tmps) = true then Oper.wp Tryd.prog o a w K Q else E := by
  have hw : Region.wanted o (yielded ops a.tmps) = true := by simp [Region.wanted, hgd]
  rw [if_pos hw]
  obtain ⟨f0, hf, hz0, hz1, hz2⟩ := info_parts info9
  rcases hv with ⟨rfl, b, c, rfl⟩ | ⟨h1, b, of, c, rfl, h3, h4, hL⟩
  · have hr : (Builtin.append_ #[26, 26] o.type #[.slice (some ⟨g, 0, none⟩) 0 0, .slice b 0 c]).run Tryd.prog w = .ok (.slice (some ⟨g, 0, none⟩) 0 0) w := by
      have hfn := run_firstCells_none (P := Tryd.prog) (w := w) f0.size 0 0 c
      have hfs := fun a => run_firstCells_some (P := Tryd.prog) w f0.size 0 a 0 c [] (by simp) (by simp)
      cases b with
      | none => simp [Builtin.append_, run_underlying Tryd.underlying26, sizeOf, typeInfo, zeroValue, hf, hz0, Builtin.lenOf, Question.forced, hfn, storeCells]
      | some x => simp [Builtin.append_, run_underlying Tryd.underlying26, sizeOf, typeInfo, zeroValue, hf, hz0, Builtin.lenOf, Question.forced, hfs, storeCells]
    unfold Oper.wp execOp
    simp only [ho, resolve, invoke, builtin, Sem.run_bind, Sem.run_pure, Result.andThen_ok, List.map_toArray, List.map_cons, List.map_nil, hs, hx, hr]
    exact h _ _ hown (World.grownBy.refl w _)
  · have hn : l.length ≠ 0 := fun e => h1 (List.length_eq_zero_iff.1 e)
    refine wp_append_lies w s x 26 ho base 9 f0 _ 1 16 Tryd.underlying26 hf hz0 hz1 hz2 rfl (by omega) _ 0 [] hs hown ⟨b, of, none⟩ l.length c (cT l) hx (by simp [cT])
      (fun j u e => by
        simp only [cT, List.getElem?_map, Option.map_eq_some_iff] at e
        obtain ⟨y, hy, rfl⟩ := e
        rw [Addr.add_lit]
        exact hL j y hy) (fun u hu => by obtain ⟨y, _, rfl⟩ := List.mem_map.1 hu; rfl) (by omega) (by unfold maxLen; omega) (by omega) hbase w.heap.size rfl ?_
    intro g' cap w' ho' hg' _ _
    rw [Nat.zero_add] at ho' ⊢
    exact h _ _ ho' hg'
/-- append(v, r), r in a block of its own -/
theorem step_snoc {w : World} {ops : Array Oper} {o : Oper} {a : Act} {K : Act → World → Prop} {Q : Exit → Act → World → Prop} {E : Prop} (hgd : o.guard = none) (s x : Operand)
    (ho : o.op = .call { callee := .builtin .append, args := #[s, x], argTypes := #[26, 26] }) (b base : Nat) (v : Value) (p : List Str) (r : Str) (hs : a.eval s = v) (hx : a.eval x = .slice (some ⟨b, 0, none⟩) 1 1)
    (hown : OwnS w base v p) (hc : w.cell? ⟨b, 0, none⟩ = some (.string ⟨r.toArray⟩)) (hl : p.length ≤ 100000) (hbase : base ≤ w.heap.size)
    (h : ∀ g cap w', OwnS w' base (.slice (some ⟨g, 0, none⟩) (p.length + 1) cap) (p ++ [r]) → w.grownBy w' v.ownBlock → K (a.put o.dst (.slice (some ⟨g, 0, none⟩) (p.length + 1) cap)) w') :
    if Region.wanted o (yielded ops a.tmps) = true then Oper.wp Tryd.prog o a w K Q else E := by
  obtain ⟨f0, hf, hz0, hz1, hz2⟩ := info_parts info9
  refine step_append_lies w hgd s x 26 ho base 9 f0 _ 1 16 Tryd.underlying26 hf hz0 hz1 hz2 rfl (by omega) v p.length (cT p) hs hown ⟨b, 0, none⟩ 1 1 [.string ⟨r.toArray⟩] hx rfl
    (fun j u e => by
      match j, e with
      | 0, e => simp at e; rw [← e]; exact hc) (by simp [Value.oneCell']) (by omega) (by unfold maxLen; omega) (by omega) hbase w.heap.size rfl ?_
  intro g cap w' ho' hg _ _
  exact h _ _ _ (own_snoc ho') hg
end Go.Proofs.YthdfadlniacdcaaDoor
