import Derived.Test.YthdfadlniacdcaaDoorFct
namespace Go.Proofs.YthdfadlniacdcaaDoor
open Go.RowKit
/-- append(v, r), as the program lays it: r in a block of its own -/
theorem snoc_run (W : World) (base : Nat) (v : Value) (p : List Str) (r : ByteArray) (hown : OwnS W base v p) (hbase : base ≤ W.heap.size) (hp : p.length ≤ 100000) :
    ∃ v' w', (Builtin.append_ #[26, 26] 26 #[v, .slice (some ⟨W.heap.size, 0, none⟩) 1 1]).run Tryd.prog (W.alloc (.cells #[.string r] 9)) = .ok v' w' ∧ OwnS w' base v' (p ++ [r.data.toList]) ∧
      (∀ b0 W0, Below b0 W0 W → b0 ≤ base → b0 ≤ W.heap.size → Below b0 W0 w') := by
  obtain ⟨f0, hf, hz0, hz1, hz2⟩ := info_parts info9
  obtain ⟨g, cap, w', hr, ho, hg, _, _⟩ := run_append_lies (P := Tryd.prog) (W.alloc (.cells #[.string r] 9)) 26 26 base 9 f0 _ 1 16 Tryd.underlying26 hf hz0 hz1 hz2 rfl (by omega) v p.length (cT p) (World.ownsRow.alloc hown _) ⟨W.heap.size, 0, none⟩ 1 1 [.string r] (by rfl)
    (World.news_of_block (cs := #[.string r]) (t := 9) (fr := (0, 0)) (heap_alloc_new W _)) (by simp [Value.oneCell']) (by omega) (by unfold maxLen; omega) (by omega) (by simp; omega) (W.heap.size + 1) (by simp)
  refine ⟨_, w', hr, ?_, fun b0 W0 B h1 h2 => ?_⟩
  · exact own_snoc ho
  · exact (B.alloc h2 _).grown hg (by simp; omega) (fun k hk => Nat.le_trans h1 (hown.lt k hk).1)
/-- append([]string{}, v...) -/
theorem copy_run (W : World) (v : Value) (l : List Str) (hv : SL W v l) (hl : l.length ≤ 100000) :
    ∃ v' w', (Builtin.append_ #[26, 26] 26 #[.slice (some ⟨W.heap.size, 0, none⟩) 0 0, v]).run Tryd.prog (W.alloc (.cells #[] 9)) = .ok v' w' ∧ OwnS w' W.heap.size v' l ∧ Below W.heap.size W w' := by
  obtain ⟨f0, hf, hz0, hz1, hz2⟩ := info_parts info9
  have B1 : Below W.heap.size W (W.alloc (.cells #[] 9)) := (Below.refl _ W).alloc (Nat.le_refl _) _
  have hown : World.ownsRow (W.alloc (.cells #[] 9)) W.heap.size 9 1 (.slice (some ⟨W.heap.size, 0, none⟩) 0 0) 0 [] := World.ownsRow_made W #[] 0 (Nat.le_refl _) (Nat.zero_le _) rfl
  rcases hv with ⟨rfl, a, c, rfl⟩ | ⟨h1, b, o, c, rfl, h3, h4, hL⟩
  · refine ⟨.slice (some ⟨W.heap.size, 0, none⟩) 0 0, W.alloc (.cells #[] 9), ?_, hown, B1⟩
    have hfn := run_firstCells_none (P := Tryd.prog) (w := W.alloc (.cells #[] 9)) f0.size 0 0 c
    have hfs := fun a => run_firstCells_some (P := Tryd.prog) (W.alloc (.cells #[] 9)) f0.size 0 a 0 c [] (by simp) (by simp)
    cases a with
    | none => simp [Builtin.append_, run_underlying Tryd.underlying26, sizeOf, typeInfo, zeroValue, hf, hz0, Builtin.lenOf, Question.forced, hfn, storeCells]
    | some x => simp [Builtin.append_, run_underlying Tryd.underlying26, sizeOf, typeInfo, zeroValue, hf, hz0, Builtin.lenOf, Question.forced, hfs, storeCells]
  · have hn : l.length ≠ 0 := fun e => h1 (List.length_eq_zero_iff.1 e)
    obtain ⟨g, cap, w', hr, ho, hg, _, _⟩ := run_append_lies (P := Tryd.prog) (W.alloc (.cells #[] 9)) 26 26 W.heap.size 9 f0 _ 1 16 Tryd.underlying26 hf hz0 hz1 hz2 rfl (by omega) _ 0 [] hown ⟨b, o, none⟩ l.length c (cT l) (by simp [cT])
      (fun j u e => by
        simp only [cT, List.getElem?_map, Option.map_eq_some_iff] at e
        obtain ⟨x, hx, rfl⟩ := e
        rw [Addr.add_lit, B1.cell (p := ⟨b, o + j, none⟩) h4]
        exact hL j x hx) (fun u hu => by obtain ⟨x, _, rfl⟩ := List.mem_map.1 hu; rfl) (by omega) (by unfold maxLen; omega) (by omega) (by simp) (W.heap.size + 1) (by simp)
    refine ⟨_, w', hr, ?_, B1.grown hg (by simp) (fun k hk => (hown.lt k hk).1)⟩
    unfold OwnS
    simpa using ho
/-- append at the walk's list, its run known -/
theorem wpList_append_run {P : Program} {w : World} {ops : Array Oper} {rest : List Oper} {o : Oper} {a : Act} {Q : Exit → Act → World → Prop} (hgd : o.guard = none) (s x : Operand) (t : TypeId)
    (ho : o.op = .call { callee := .builtin .append, args := #[s, x], argTypes := #[t, t] }) (u v : Value) (hs : a.eval s = u) (hx : a.eval x = v) (v' : Value) (w' : World)
    (hr : (Builtin.append_ #[t, t] o.type #[u, v]).run P w = .ok v' w') (h : wpList P ops Q rest (a.put o.dst v') w') : wpList P ops Q (o :: rest) a w := by
  refine wpList_plain hgd fun K hK => ?_
  unfold Oper.wp execOp
  simp only [ho, resolve, invoke, builtin, Sem.run_bind, Sem.run_pure, Result.andThen_ok, List.map_toArray, List.map_cons, List.map_nil, hs, hx, hr]
  exact hK _ _ h
end Go.Proofs.YthdfadlniacdcaaDoor
