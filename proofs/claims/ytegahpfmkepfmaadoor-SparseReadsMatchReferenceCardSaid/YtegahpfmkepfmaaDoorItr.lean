import Derived.Test.YtegahpfmkepfmaaDoorRng
import Derived.Test.YtegahpfmkepfmaaDoorCat
import Derived.Laws.CopyRow
import Derived.WalkSpells
import Derived.Scope
import Derived.Lib.IndexBytes
import Derived.WalkMore
namespace Go.Proofs.YtegahpfmkepfmaaDoor
open Go.RowKit Go.Shelf
attribute [local go_sem] Oper.semAt_some

section
variable {P : Program} {F : Fence} {n : Nat} {b : Frame} {a : Act} {k : List Item} {cs : List Frame} {w : World} {Q : Exit → Act → World → Prop}
theorem scope_into {c : Code} : step P (lone (b.atR a (.code (.scope c) :: k)) cs w) = .next (lone (b.atR a (.code c :: .inScope c :: k)) cs w) :=
  step_lone_go (by simp [stepG, stepG.exec, Frame.atR])
theorem scope_out {c : Code} : step P (lone (b.atR a (.inScope c :: k)) cs w) = .next (lone (b.atR a k) cs w) :=
  step_lone_go (by simp [stepG, stepG.exec, Frame.atR])
/-- A scope in a fence through which the run goes without a goto. -/
theorem wpIn_scope {c : Code} (h : c.wpIn F n P (Exit.noGoto Q) a w) : (Code.scope c).wpIn F n P Q a w := by
  intro b k cs hro hb hr
  have start : (lone (b.atR a (.code (.scope c) :: k)) cs w).fenced P F := fenced_calm hb hr rfl
  obtain ⟨e, a1, w1, hq, arr⟩ := h b (.inScope c :: k) cs hro hb hr
  cases e with
  | normal => exact ⟨.normal, a1, w1, hq, .head start scope_into (StepsIn.trans arr (.one (fenced_calm hb hr rfl) scope_out))⟩
  | goto l => exact hq.elim
  | exit id =>
    have hx : exitTo id (.inScope c :: k) = exitTo id k := by simp [exitTo]
    refine ⟨.exit id, a1, w1, hq, fun k' hk => .head start scope_into (arr.1 k' (by rw [hx]; exact hk)), fun hr' hk => ?_⟩
    obtain ⟨k1, p1, p2⟩ := arr.2 hr' (by rw [hx]; exact hk)
    exact ⟨k1, p1, .head start scope_into p2⟩
  | ret => exact ⟨_, a1, w1, hq, .of_steps (.one start scope_into) arr⟩
  | panic ch => exact ⟨_, a1, w1, hq, .of_steps (.one start scope_into) arr⟩
  | outgrown => exact ⟨_, a1, w1, hq, .of_steps (.one start scope_into) arr⟩
end
section
variable {F : Fence} {n : Nat} {P : Program}
theorem wpListIn_load_row {ops : Array Oper} {rest : List Oper} {o : Oper} {a : Act} {w : World} {Q : Exit → Act → World → Prop} (hgd : o.guard = none) (ty : TypeId) (x : Operand) (ho : o.op = .load ty x)
    (g : Nat) (hx : a.eval x = .pointer (some ⟨g, 0, none⟩)) (t : TypeId) (cs : Array Value) (fr : Nat × Nat) (d : TypeDesc) (hg : w.heap[g]? = some (.cells cs t fr))
    (hu : P.underlying ty = some d) (hd : (match d with | .struct _ | .array _ _ => true | _ => false) = true) (hi : (P.info? ty).map (·.size) = some cs.size)
    (h : wpListIn F n P ops Q rest (a.put o.dst (.agg cs)) w) : wpListIn F n P ops Q (o :: rest) a w := by
  refine wpListIn_plain hgd fun K hK => ?_
  unfold Oper.wpIn
  refine ⟨by simp [Oper.about, ho], ?_⟩
  rw [Oper.semAt_plain F _ _ (by rw [ho]; intro c hc; cases hc)]
  simp only [execOp, ho, hx, Instr.loadAt, Instr.sureAddr, Sem.run_bind, Sem.run_pure, Result.andThen_ok, run_loadVar_row w g t ty cs fr d hg hu hd hi]
  exact hK _ _ h
theorem wpListIn_store_row {ops : Array Oper} {rest : List Oper} {o : Oper} {a : Act} {w : World} {Q : Exit → Act → World → Prop} (hgd : o.guard = none) (ty : TypeId) (x y : Operand) (ho : o.op = .store ty x y)
    (g : Nat) (cells : Array Value) (hx : a.eval x = .pointer (some ⟨g, 0, none⟩)) (hy : a.eval y = .agg cells)
    (t : TypeId) (old : Array Value) (hg : w.heap[g]? = some (.cells old t (0, 0))) (hi : (P.info? ty).map (·.size) = some cells.size)
    (hold : old.size = cells.size) (h1 : cells.all (·.oneCell') = true)
    (h : wpListIn F n P ops Q rest (a.put o.dst undef) (w.setRow g cells)) : wpListIn F n P ops Q (o :: rest) a w := by
  refine wpListIn_plain hgd fun K hK => ?_
  unfold Oper.wpIn
  refine ⟨by simp [Oper.about, ho], ?_⟩
  rw [Oper.semAt_plain F _ _ (by rw [ho]; intro c hc; cases hc)]
  simp only [execOp, ho, hx, hy, Instr.storeAt, Instr.sureAddr, Sem.run_bind, Sem.run_pure, Result.andThen_ok, run_storeVar_row w g t ty old cells hg hi hold h1]
  exact hK _ _ h
end
theorem size119 : (Tryd.prog.info? 119).map (·.size) = some 64 := by kernel_rfl
theorem sizeB (l : List UInt8) (h : l.length = 64) : (Tryd.prog.info? 119).map (·.size) = some (cB l).toArray.size := by
  have e : (cB l).toArray.size = 64 := by simp [cB, h]
  rw [e]; exact size119
/-- a block of 64 bytes -/
abbrev Blk := { x : List UInt8 // x.length = 64 }
/-- what has been done: D has been taken in, bl is the row, pre the blocks that were handed out -/
structure Fed (X D bl : List UInt8) (pre : List Blk) : Prop where
  len : bl.length = 64
  row : bl.take (D.length % 64) = D.drop (64 * (D.length / 64))
  out : pre.map Subtype.val = (List.range (D.length / 64)).map (blk X)

theorem Fed.preLen {X D bl : List UInt8} {pre : List Blk} (h : Fed X D bl pre) : pre.length = D.length / 64 := by
  have := congrArg List.length h.out
  simpa using this
theorem fed_zero (X : List UInt8) : Fed X [] (List.replicate 64 0) [] := ⟨by simp, by simp, by simp⟩
/-- the row behind a copy of k bytes of p at full -/
def put (bl p : List UInt8) (full k : Nat) : List UInt8 := bl.take full ++ p.take k ++ bl.drop (full + k)
theorem put_len (bl p : List UInt8) (full k : Nat) (h : bl.length = 64) (hk : k ≤ p.length) (hf : full + k ≤ 64) : (put bl p full k).length = 64 := by
  simp [put]; omega
theorem Fed.some {X D bl p : List UInt8} {pre : List Blk} (h : Fed X D bl pre) (hlt : D.length % 64 + p.length < 64) : Fed X (D ++ p) (put bl p (D.length % 64) p.length) pre := by
  have hl := h.len
  have h1 : (D ++ p).length % 64 = D.length % 64 + p.length := by simp; omega
  have h2 : (D ++ p).length / 64 = D.length / 64 := by simp; omega
  refine ⟨put_len _ _ _ _ hl (Nat.le_refl _) (by omega), ?_, by rw [h2]; exact h.out⟩
  rw [h1, h2, put, List.take_of_length_le (Nat.le_refl p.length)]
  have e : (bl.take (D.length % 64) ++ p).length = D.length % 64 + p.length := by simp; omega
  rw [List.take_append_of_le_length (by omega), List.take_of_length_le (by omega), h.row, List.drop_append_of_le_length (by omega)]
theorem Fed.full {X D bl p rest : List UInt8} {pre : List Blk} (h : Fed X D bl pre) (k : Nat) (hX : X = D ++ p ++ rest) (hk : k ≤ p.length) (hlt : D.length % 64 + k = 64) :
    put bl p (D.length % 64) k = blk X (D.length / 64) := by
  have hl := h.len
  have e : (bl.take (D.length % 64) ++ p.take k).length = 64 := by simp; omega
  rw [put, List.drop_of_length_le (by omega), List.append_nil, h.row, blk, hX, List.append_assoc, List.drop_append_of_le_length (by omega)]
  have e2 : (D.drop (64 * (D.length / 64))).length = D.length % 64 := by simp; omega
  rw [List.take_append, List.take_of_length_le (l := D.drop _) (by omega), e2, show 64 - D.length % 64 = k by omega, List.take_append_of_le_length hk]
theorem Fed.next {X D bl p rest : List UInt8} {pre : List Blk} (h : Fed X D bl pre) (k : Nat) (hX : X = D ++ p ++ rest) (hk : k ≤ p.length) (hlt : D.length % 64 + k = 64) (x : Blk) (hx : x.1 = put bl p (D.length % 64) k) :
    Fed X (D ++ p.take k) (put bl p (D.length % 64) k) (pre ++ [x]) := by
  have hl := h.len
  have e1 : (D ++ p.take k).length = 64 * (D.length / 64 + 1) := by simp; omega
  have h1 : (D ++ p.take k).length % 64 = 0 := by rw [e1]; omega
  have h2 : (D ++ p.take k).length / 64 = D.length / 64 + 1 := by rw [e1]; omega
  refine ⟨put_len _ _ _ _ hl hk (by omega), ?_, ?_⟩
  · rw [h1, h2, List.take_zero, List.drop_of_length_le (by omega)]
  · rw [h2, List.range_succ, List.map_append, List.map_append, h.out]
    simp only [List.map_cons, List.map_nil]
    rw [hx, h.full k hX hk hlt]
/-- 'copy(row[o:], s)': as much of s as there is room for -/
theorem run_copy_cut {P : Program} (w : World) (dT sT ty elem : TypeId) (g o dLen dCap : Nat) (s : ByteArray) (k : Nat) (hk : k = min s.size dLen) (bl : List UInt8) (t : TypeId)
    (hu : P.underlying dT = some (.slice elem)) (hs : (P.info? elem).map (·.size) = some 1) (hg : w.heap[g]? = some (.cells (cB bl).toArray t (0, 0))) (hfit : o + k ≤ bl.length) :
    (Builtin.copy_ #[dT, sT] ty #[.slice (some ⟨g, o, none⟩) dLen dCap, .string s]).run P w =
      .ok (goInt k) (w.setRow g (cB (put bl s.data.toList o k)).toArray) := by
  have hls : s.data.toList.length = s.size := by simp
  have hlen : (cB (s.data.toList.take k)).length = k := by simp [cB]; omega
  have hst := run_storeCells_at (P := P) g o t (cB (s.data.toList.take k)) 0 (cB bl).toArray w hg (by rw [hlen]; simpa [cB] using hfit) (fun v hv => by obtain ⟨b, _, rfl⟩ := List.mem_map.1 hv; rfl)
  rw [hlen] at hst
  simp only [Nat.add_zero] at hst
  have hrow : (cB bl).toArray.toList.take o ++ cB (s.data.toList.take k) ++ (cB bl).toArray.toList.drop (o + k) = cB (put bl s.data.toList o k) := by
    simp [cB, put, List.map_append, List.map_take, List.map_drop]
  rw [hrow] at hst
  have hmin : Nat.min s.size dLen = k := hk.symm
  have htk : List.take k (List.map (fun b : UInt8 => Value.int IntKind.u8 (b.toNat : Int)) s.data.toList) = cB (s.data.toList.take k) := by
    rw [← List.map_take]; rfl
  cases hq : P.info? elem with
  | none => simp [hq] at hs
  | some i =>
    simp [Builtin.copy_, run_underlying hu, Builtin.lenOf, Builtin.firstCells, sizeOf, typeInfo, hq, hmin]
    rw [htk, hst]
    simp [Result.andThen]
theorem grownBy_setRow (W : World) (g : Nat) (cs : Array Value) : W.grownBy (W.setRow g cs) (some g) :=
  ⟨rfl, rfl, rfl, by simp, fun k _ hk => setRow_other _ _ _ _ (fun e => hk (by rw [e]))⟩
/-- every row of cells but block h stays -/
def KpX (h : Nat) (W W' : World) : Prop := W.heap.size ≤ W'.heap.size ∧ ∀ k cs t fr, k ≠ h → W.heap[k]? = some (.cells cs t fr) → W'.heap[k]? = some (.cells cs t fr)
theorem KpX.refl (h : Nat) (W : World) : KpX h W W := ⟨Nat.le_refl _, fun _ _ _ _ _ e => e⟩
theorem KpX.trans {h : Nat} {A B C : World} (x : KpX h A B) (y : KpX h B C) : KpX h A C := ⟨Nat.le_trans x.1 y.1, fun k cs t fr hk e => y.2 k cs t fr hk (x.2 k cs t fr hk e)⟩
theorem KpX.puts {h : Nat} (W : World) (l : Nat) (o o' : Obj) (hl : W.heap[l]? = some o) (ho : o.isCells = false) : KpX h W (W.putObj l o') := by
  refine ⟨by simp, fun k cs t fr _ e => ?_⟩
  by_cases hk : k = l
  · subst hk
    rw [hl] at e
    cases e
    simp [Obj.isCells] at ho
  · rw [World.putObj_heap_other hk]; exact e
theorem KpX.cell {h : Nat} {W W' : World} (x : KpX h W W') {a : Addr} {v : Value} (ha : a.block ≠ h) (e : W.cell? a = some v) : W'.cell? a = some v := by
  unfold World.cell? at e ⊢
  cases hb : W.heap[a.block]? with
  | none => rw [hb] at e; cases e
  | some o =>
    rw [hb] at e
    cases o with
    | cells cs t fr => rw [x.2 _ _ _ _ ha hb]; exact e
    | _ => cases e
theorem KpX.below {h n : Nat} {W W' : World} (x : Below n W W') (hn : W.heap.size ≤ n) : KpX h W W' := by
  refine ⟨x.size, fun k cs t fr _ e => ?_⟩
  have : k < W.heap.size := (Array.getElem?_eq_some_iff.1 e).1
  rw [x.block _ (by omega)]; exact e

def cat (l : List ByteArray) : List UInt8 := l.flatMap fun s => s.data.toList
theorem cat_drop (l : List ByteArray) (i : Nat) (h : i < l.length) : cat (l.drop i) = l[i].data.toList ++ cat (l.drop (i + 1)) := by
  rw [List.drop_eq_getElem_cons h, cat, List.flatMap_cons]; rfl
theorem slice119 (W : World) (b m : Nat) (hm : m < 64) : (Instr.sliceAt 119 (.pointer (some ⟨b, 0, none⟩)) (some (.int .i64 (m : Int))) none none).run Tryd.prog W = .ok (.slice (some ⟨b, m, none⟩) (64 - m) (64 - m)) W := by
  have e1 : Tryd.prog.arrayLen 119 = 64 := by kernel_rfl
  have e2 : Tryd.prog.elem 119 = 5 := by kernel_rfl
  have size5 : ∀ w, (Go.sizeOf 5).run Tryd.prog w = .ok 1 w := fun _ => by kernel_rfl
  rw [run_sliceAt_array_l W 119 ⟨b, 0, none⟩ (by kernel_rfl) .i64 m (by omega) (by rw [e1]; omega), e2, size5, e1]
  by_cases h : m = 0
  · subst h; simp [Result.andThen, slicedAt, Addr.add]
  · simp [Result.andThen, slicedAt, Addr.add, h]; omega
/-- a string's size -/
def sizeOfS : Value → Nat | .string s => s.size | _ => 0
theorem zb64 : (#[.int .u8 0, .int .u8 0, .int .u8 0, .int .u8 0, .int .u8 0, .int .u8 0, .int .u8 0, .int .u8 0, .int .u8 0, .int .u8 0, .int .u8 0, .int .u8 0, .int .u8 0, .int .u8 0, .int .u8 0, .int .u8 0, .int .u8 0, .int .u8 0, .int .u8 0, .int .u8 0, .int .u8 0, .int .u8 0, .int .u8 0, .int .u8 0, .int .u8 0, .int .u8 0, .int .u8 0, .int .u8 0, .int .u8 0, .int .u8 0, .int .u8 0, .int .u8 0, .int .u8 0, .int .u8 0, .int .u8 0, .int .u8 0, .int .u8 0, .int .u8 0, .int .u8 0, .int .u8 0, .int .u8 0, .int .u8 0, .int .u8 0, .int .u8 0, .int .u8 0, .int .u8 0, .int .u8 0, .int .u8 0, .int .u8 0, .int .u8 0, .int .u8 0, .int .u8 0, .int .u8 0, .int .u8 0, .int .u8 0, .int .u8 0, .int .u8 0, .int .u8 0, .int .u8 0, .int .u8 0, .int .u8 0, .int .u8 0, .int .u8 0, .int .u8 0] : Array Value) = (cB (List.replicate 64 0)).toArray := rfl
theorem info5' : (Tryd.prog.info? 5).map (·.size) = some 1 := by kernel_rfl

set_option maxRecDepth 100000 in
set_option maxHeartbeats 1000000 in
theorem blocks_in (F : Fence) (n : Nat) (h62 : F.fn 90) (hro : F.round = none) (hn : 1 ≤ n) (l Bn g h cap m : Nat) (ss : List ByteArray) (w : World) (J : List Blk → World → Prop) (W : World) (hW : Below w.heap.size w W) (hJ : Apart W.heap.size J)
    (hm : (cat ss).length = 64 * m) (hk1 : 1 ≤ ss.length) (hk : ss.length ≤ 1000000) (hz : ∀ s ∈ ss, ByteArray.size s ≤ 1000000000000000)
    (hBn : Bn < w.heap.size) (hg : g < w.heap.size) (hhg : g ≠ h) (hh : h < w.heap.size)
    (hc : w.cell? ⟨Bn, 0, none⟩ = some (.slice (some ⟨g, 0, none⟩) ss.length cap)) (hs : ∀ j u, (cS ss)[j]? = some u → w.cell? ⟨g, j, none⟩ = some u)
    (hY : ∀ pre x W1, J pre W1 → pre.length < m → YieldAt F (n - 1) Tryd.prog l #[.agg (cB x.1).toArray] W1 fun e W' => e = .returned (.bool true) ∧ J (pre ++ [x]) W' ∧ KpX h W1 W')
    (h0 : J [] W) :
    CallsIn F n Tryd.prog 90 #[.func (.yield l) #[] #[], .pointer (some ⟨Bn, 0, none⟩)] W fun e W' => (∃ v, e = .returned v) ∧ ∃ xs : List Blk, xs.map Subtype.val = (List.range m).map (blk (cat ss)) ∧ J xs W' := by
  obtain ⟨X, hX⟩ : ∃ X, Hid (X = cat ss) := ⟨_, rfl⟩
  have hXm : Hid (X.length = 64 * m) := by show _ = _; rw [hX.out]; exact hm
  have hWs := hW.size
  have cBn := (hW.cell (p := ⟨Bn, 0, none⟩) hBn).trans hc
  refine callsIn_of_wp Tryd.func90 rfl h62 ?_ hro
  simp only [Tryd.ntmps90, List.size_toArray, List.length_cons, List.length_nil, Nat.reduceAdd, Nat.reduceSub, Array.replicate_succ, Array.replicate_zero, List.push_toArray, List.append_toArray, List.nil_append, List.cons_append]
  gi_wp2
  refine wpIn_scope ?_
  gi_wp2
  refine wpIn_label ?_
  rw [zb64]
  obtain ⟨V, hV⟩ : ∃ V, V = W.alloc (.cells (cB (List.replicate 64 0)).toArray 119) := ⟨_, rfl⟩
  rw [← hV]
  have VB : Below W.heap.size W V := by rw [hV]; exact (Below.refl _ W).alloc (Nat.le_refl _) _
  have Vrow : V.heap[W.heap.size]? = some (.cells (cB (List.replicate 64 0)).toArray 119 (0, 0)) := by rw [hV]; exact heap_alloc_new _ _
  have VJ : J [] V := hJ [] W V none h0 (by rw [hV]; exact World.grownBy_alloc W _ none) (fun r e => by cases e)
  have VBn := (VB.cell (p := ⟨Bn, 0, none⟩) (Nat.lt_of_lt_of_le hBn hWs)).trans cBn
  have Vs : ∀ j u, (cS ss)[j]? = some u → V.cell? ⟨g, j, none⟩ = some u := fun j u e => by
    rw [VB.cell (p := ⟨g, j, none⟩) (Nat.lt_of_lt_of_le hg hWs), hW.cell (p := ⟨g, j, none⟩) hg]; exact hs j u e
  obtain ⟨Bb, hBb⟩ : ∃ Bb, Bb = W.heap.size := ⟨_, rfl⟩
  rw [← hBb] at Vrow hJ ⊢
  have hgb : g ≠ Bb := by omega
  have hhb : Bb ≠ h := by omega
  obtain ⟨N, hN⟩ : ∃ N, Hid (N = ss.length) := ⟨_, rfl⟩
  rw [← hN.out] at VBn hk hk1
  have hX2 : Hid (X = [] ++ cat (ss.drop 0)) := by show _ = _; rw [hX.out]; simp
  have hBb2 := Lib.hid hBb
  have hz2 := Lib.hid hz
  have Vs2 := Lib.hid Vs
  have hY2 := Lib.hid hY
  have hJ2 := Lib.hid hJ
  clear hV hc cBn hs h0 hm hz Vs hY hJ hBb
  gi_wp2
  gi_loopw [4, 10] (fun f v wr => ∃ (i : Nat) (D bl : List UInt8) (pre : List Blk), i ≤ N ∧ v = .int .i64 i ∧ f = .int .i64 (D.length % 64 : Nat) ∧ Hid (X = D ++ cat (ss.drop i)) ∧ Hid (Fed X D bl pre) ∧ Hid (wr.heap[Bb]? = some (.cells (cB bl).toArray 119 (0, 0))) ∧
    Hid (∀ j u, (cS ss)[j]? = some u → wr.cell? ⟨g, j, none⟩ = some u) ∧ Hid (J pre wr)) (fun _ v _ => N - (intOf v).toNat)
  case atStart => exact ⟨0, [], List.replicate 64 0, [], by omega, rfl, rfl, hX2, fed_zero _, Vrow, Vs2, VJ⟩
  case round =>
    obtain ⟨i, D, bl, pre, hi, rfl, rfl, hXD, hfed, hrow, hcs, hJp⟩ := hrel
    by_cases hlt : i < N
    · have hlt2 : i < ss.length := by rw [← hN.out]; exact hlt
      have ci := hcs.out i (.string ss[i]) (by simp [cS, List.getElem?_eq_getElem hlt2])
      have zi := hz2.out ss[i] (List.getElem_mem hlt2)
      have hXi : Hid (X = D ++ ss[i].data.toList ++ cat (ss.drop (i + 1))) := by show _ = _; rw [List.append_assoc, ← cat_drop ss i hlt2]; exact hXD.out
      generalize ss[i] = p0 at *
      clear hXD
      gi_wp2
      clear ci
      obtain ⟨wo, hwo⟩ : ∃ wo : World, wo = wr := ⟨_, rfl⟩
      rw [← hwo] at hrow hcs hJp ⊢
      clear hwo
      gi_loopw [4, 6] (fun f p wr => ∃ (D bl : List UInt8) (pre : List Blk) (q : ByteArray), p = .string q ∧ q.size ≤ 1000000000000000 ∧ f = .int .i64 (D.length % 64 : Nat) ∧ Hid (X = D ++ q.data.toList ++ cat (ss.drop (i + 1))) ∧ Hid (Fed X D bl pre) ∧ Hid (wr.heap[Bb]? = some (.cells (cB bl).toArray 119 (0, 0))) ∧
        Hid (∀ j u, (cS ss)[j]? = some u → wr.cell? ⟨g, j, none⟩ = some u) ∧ Hid (J pre wr)) (fun _ p _ => sizeOfS p)
      case atStart => exact ⟨D, bl, pre, p0, rfl, zi, rfl, hXi, hfed, hrow, hcs, hJp⟩
      case round =>
        clear hXi hfed hrow hcs hJp zi
        obtain ⟨E, bl2, pre2, q, rfl, zq, rfl, hXD, hfed, hrow, hcs, hJp⟩ := hrel
        have hql : q.data.toList.length = q.size := by simp
        have hql := Lib.hid hql
        obtain ⟨f, hf⟩ : ∃ f, Hid (f = E.length % 64) := ⟨_, rfl⟩
        have hf64 : f < 64 := by rw [hf.out]; omega
        rw [← hf.out]
        have hsl := fun w => slice119 w Bb f hf64
        by_cases hc : f + q.size < 64
        · have hcp := fun ty => run_copy_cut (P := Tryd.prog) wr 93 9 ty 5 Bb f (64 - f) (64 - f) q q.size (by omega) bl2 119 Tryd.underlying93 info5' hrow.out (by rw [hfed.out.len]; omega)
          gi_wp2
          clear hcp hsl
          go_roundw
          case rel =>
            have hd : (E ++ q.data.toList).length % 64 = f + q.size := by rw [List.length_append, hql.out]; have := hf.out; omega
            have hfd := hfed.out.some (p := q.data.toList) (by rw [hql.out, ← hf.out]; exact hc)
            rw [← hf.out, hql.out] at hfd
            refine ⟨i + 1, E ++ q.data.toList, put bl2 q.data.toList f q.size, pre2, by omega, by go_num, by rw [hd]; go_num, hXD.out, hfd, setRow_heap _ _ _ _ _ _ hrow.out, fun j u e => ?_, hJ2.out _ _ _ _ hJp.out (grownBy_setRow _ _ _) (fun r e => by cases e; exact Nat.le_refl _)⟩
            rw [cell_setRow_other _ _ _ _ hgb]; exact hcs.out j u e
          case measure => simp [intOf]; omega
        · obtain ⟨k, hk⟩ : ∃ k, k = 64 - f := ⟨_, rfl⟩
          have hkq : k ≤ q.size := by omega
          have hk1 : 1 ≤ k := by omega
          have hfk : f + k = 64 := by omega
          have hcp := fun ty => run_copy_cut (P := Tryd.prog) wr 93 9 ty 5 Bb f (64 - f) (64 - f) q k (by omega) bl2 119 Tryd.underlying93 info5' hrow.out (by rw [hfed.out.len]; omega)
          have hpl := put_len bl2 q.data.toList f k hfed.out.len (by rw [hql.out]; exact hkq) (by omega)
          have hnx := fun x hx => hfed.out.next k (p := q.data.toList) (rest := cat (ss.drop (i + 1))) hXD.out (by rw [hql.out]; exact hkq) (by rw [← hf.out]; exact hfk) x hx
          rw [← hf.out] at hnx
          have hpre : pre2.length < m := by
            rw [hfed.out.preLen]
            have h1 : X.length = E.length + q.size + (cat (ss.drop (i + 1))).length := by rw [hXD.out, List.length_append, List.length_append, hql.out]
            have h2 := hXm.out
            have h3 := hf.out
            omega
          obtain ⟨x, hx⟩ : ∃ x : Blk, Hid (x.1 = put bl2 q.data.toList f k) := ⟨⟨_, hpl⟩, rfl⟩
          rw [← hx.out] at hcp hnx
          have hnx := Lib.hid (hnx x rfl)
          obtain ⟨W2, hW2⟩ : ∃ W2, W2 = wr.setRow Bb (cB x.1).toArray := ⟨_, rfl⟩
          rw [← hW2] at hcp
          have r2 : Hid (W2.heap[Bb]? = some (.cells (cB x.1).toArray 119 (0, 0))) := by show _ = _; rw [hW2]; exact setRow_heap _ _ _ _ _ _ hrow.out
          have c2 : Hid (∀ j u, (cS ss)[j]? = some u → W2.cell? ⟨g, j, none⟩ = some u) := fun j u e => by rw [hW2, cell_setRow_other _ _ _ _ hgb]; exact hcs.out j u e
          have j2 := hJ2.out pre2 _ W2 _ hJp.out (by rw [hW2]; exact grownBy_setRow _ _ _) (fun r e => by cases e; exact Nat.le_refl _)
          obtain ⟨fn, tmps, assign, body, hy, hR⟩ := hY2.out pre2 x W2 j2 hpre
          clear hW2 hrow hcs j2
          have hkI : (f : Int) + (k : Int) = 64 := by omega
          have hsum : wrap64 ((f : Int) + (k : Int)) = 64 := by rw [hkI]; decide +kernel
          clear hk
          have hR2 := Lib.hid hR
          have hpl2 := Lib.hid hpl
          rename_i hnxo
          clear hR hpl hnxo
          gi_wp2_with (refine wpListIn_load_row rfl 119 (.tmp 3) rfl Bb rfl 119 (cB x.1).toArray (0, 0) _ r2.out Tryd.underlying119 rfl (sizeB _ x.2) ?_)
          refine hR2.out.mono ?_
          rintro e W3 ⟨rfl, j3, kp3⟩
          have r3 : Hid (W3.heap[Bb]? = some (.cells (cB x.1).toArray 119 (0, 0))) := kp3.2 _ _ _ _ hhb r2.out
          have c3 : Hid (∀ j u, (cS ss)[j]? = some u → W3.cell? ⟨g, j, none⟩ = some u) := fun j u e => kp3.cell (a := ⟨g, j, none⟩) hhg (c2.out j u e)
          clear hy hcp
          gi_wp2
          go_roundw
          case rel =>
            have hd : (E ++ q.data.toList.take k).length % 64 = 0 := by rw [List.length_append, List.length_take, hql.out, Nat.min_eq_left hkq]; have := hf.out; omega
            refine ⟨E ++ q.data.toList.take k, x.1, pre2 ++ [x], q.extract k q.size, rfl, by simp; omega, by rw [hd]; rfl, ?_, hnx.out, r3, c3, j3⟩
            show _ = _
            rw [Lib.extract_to_end, List.append_assoc, List.append_assoc, ← List.append_assoc (List.take k _), List.take_append_drop, ← List.append_assoc]
            exact hXD.out
          case measure => simp [sizeOfS]; omega
    · obtain rfl : i = N := by omega
      gi_wp2
      rw [Exit.noGoto_normal]
      go_end0
      have hD : D = X := by rw [hXD.out, hN.out, List.drop_length]; simp [cat]
      refine ⟨⟨_, rfl⟩, pre, ?_, hJp.out⟩
      have := hfed.out.out
      rw [this, hD, hXm.out, hX.out, Nat.mul_div_cancel_left _ (by omega)]
end Go.Proofs.YtegahpfmkepfmaaDoor
