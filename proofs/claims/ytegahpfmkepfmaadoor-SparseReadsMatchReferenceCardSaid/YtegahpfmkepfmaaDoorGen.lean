/- Rows of things of any size: slices that are read, rows of the call's own, what append makes of them. -/
import Derived.Test.YtegahpfmkepfmaaDoorCat
import Derived.Test.YtegahpfmkepfmaaDoorSpTree
import Derived.Deep.AppendLies
namespace Go.Proofs.YtegahpfmkepfmaaDoor
open Go.RowKit

section
variable {α : Type} (enc : α → List Value) (sz : Nat)
/-- the things l lie from the cell o of the block b on -/
def LieG (W : World) (b o : Nat) (l : List α) : Prop := ∀ j x i u, l[j]? = some x → (enc x)[i]? = some u → W.cell? ⟨b, o + j * sz + i, none⟩ = some u
/-- v is a slice of the things l -/
def SLG (W : World) (v : Value) (l : List α) : Prop :=
  (l = [] ∧ ∃ a c, v = .slice a 0 c) ∨ (l ≠ [] ∧ ∃ b o c, v = .slice (some ⟨b, o, none⟩) l.length c ∧ l.length ≤ c ∧ b < W.heap.size ∧ LieG enc sz W b o l)
variable {enc sz}
theorem LieG.below {W W' : World} {b o : Nat} {l : List α} (h : LieG enc sz W b o l) (hb : b < W.heap.size) (B : Below W.heap.size W W') : LieG enc sz W' b o l := fun j x i u e1 e2 => by
  rw [B.cell (p := ⟨b, o + j * sz + i, none⟩) hb]; exact h j x i u e1 e2
theorem SLG.below {W W' : World} {v : Value} {l : List α} (h : SLG enc sz W v l) (B : Below W.heap.size W W') : SLG enc sz W' v l := by
  rcases h with h | ⟨h1, b, o, c, h2, h3, h4, h5⟩
  · exact .inl h
  · exact .inr ⟨h1, b, o, c, h2, h3, Nat.lt_of_lt_of_le h4 B.size, h5.below h4 B⟩
theorem SLG.shape {W : World} {v : Value} {l : List α} (h : SLG enc sz W v l) : ∃ a c, v = .slice a l.length c := by
  rcases h with ⟨rfl, a, c, rfl⟩ | ⟨_, b, o, c, rfl, _⟩
  · exact ⟨_, _, rfl⟩
  · exact ⟨_, _, rfl⟩
theorem SLG.own {W : World} {v : Value} {l : List α} (h : SLG enc sz W v l) (hl : l ≠ []) : ∃ b o c, v = .slice (some ⟨b, o, none⟩) l.length c ∧ l.length ≤ c ∧ b < W.heap.size ∧ LieG enc sz W b o l := by
  rcases h with ⟨rfl, _⟩ | ⟨_, h⟩
  · exact absurd rfl hl
  · exact h
theorem SLG.nil (W : World) (a : Option Addr) (c : Nat) : SLG enc sz W (.slice a 0 c) ([] : List α) := .inl ⟨rfl, _, _, rfl⟩

theorem flat_len (henc : ∀ x, (enc x).length = sz) (l : List α) : (l.flatMap enc).length = l.length * sz := by
  induction l with
  | nil => simp
  | cons e t ih => rw [List.flatMap_cons, List.length_append, ih, henc, List.length_cons, Nat.add_mul]; omega
theorem flat_at (henc : ∀ x, (enc x).length = sz) (l : List α) : ∀ (j : Nat) (e : α) (i : Nat), l[j]? = some e → i < sz → (l.flatMap enc)[j * sz + i]? = (enc e)[i]? := by
  induction l with
  | nil => intro j e i h; simp at h
  | cons x t ih =>
    intro j e i h hi
    have hx := henc x
    rw [List.flatMap_cons]
    cases j with
    | zero =>
      simp at h
      subst h
      rw [Nat.zero_mul, Nat.zero_add, List.getElem?_append_left (by omega)]
    | succ j =>
      have e1 : (j + 1) * sz = j * sz + sz := by rw [Nat.add_mul]; omega
      rw [List.getElem?_append_right (by omega), show (j + 1) * sz + i - (enc x).length = j * sz + i by omega]
      exact ih j e i (by simpa using h) hi
variable (enc sz)
/-- things in a row of the call's own -/
def OwnG (t : TypeId) (W : World) (base : Nat) (v : Value) (l : List α) : Prop := W.ownsRow base t sz v l.length (l.flatMap enc)
variable {enc sz} {t : TypeId}
theorem OwnG.SL (henc : ∀ x, (enc x).length = sz) {W : World} {base : Nat} {v : Value} {l : List α} (h : OwnG enc sz t W base v l) : SLG enc sz W v l := by
  unfold OwnG at h
  rcases h.2 with ⟨rfl, h0⟩ | ⟨g, cap, cur, rfl, hb, hg, hc, hm, hs, ht⟩
  · exact .inl ⟨List.length_eq_zero_iff.1 h0, _, _, rfl⟩
  · by_cases hl : l = []
    · subst hl; exact .inl ⟨rfl, _, _, rfl⟩
    · refine .inr ⟨hl, g, 0, cap, rfl, hc, (Array.getElem?_eq_some_iff.1 hg).1, fun j x i u he hi => ?_⟩
      have hj : j < l.length := (List.getElem?_eq_some_iff.1 he).1
      have hi2 : i < sz := by rw [← henc x]; exact (List.getElem?_eq_some_iff.1 hi).1
      have hlt : j * sz + i < l.length * sz := by
        have : (j + 1) * sz ≤ l.length * sz := Nat.mul_le_mul_right _ (by omega)
        rw [Nat.add_mul] at this; omega
      rw [Nat.zero_add, cell_of_row _ _ _ _ _ _ hg, ← hi, ← flat_at henc l j x i he hi2, ← ht, List.getElem?_take_of_lt hlt]
      simp
theorem OwnG.base {W : World} {base : Nat} {v : Value} {l : List α} (h : OwnG enc sz t W base v l) (k : Nat) (hk : v.ownBlock = some k) : base ≤ k := by
  unfold OwnG at h
  rcases h.2 with ⟨rfl, _⟩ | ⟨g, cap, cur, rfl, hg, _⟩
  · simp [Value.ownBlock] at hk
  · simp [Value.ownBlock] at hk; omega
theorem OwnG.below {W W' : World} {base : Nat} {v : Value} {l : List α} (h : OwnG enc sz t W base v l) (B : Below W.heap.size W W') : OwnG enc sz t W' base v l := by
  unfold OwnG at h ⊢
  refine h.kept (w' := W') (row := none) ⟨B.os, B.tape, B.output, B.size, fun k hk _ => B.block k hk⟩ ?_
  cases hv : v.ownBlock with
  | none => exact .inl rfl
  | some k => exact .inr (by simp)
theorem OwnG.mono {W : World} {base base' : Nat} {v : Value} {l : List α} (h : OwnG enc sz t W base v l) (hb : base' ≤ base) : OwnG enc sz t W base' v l := by
  unfold OwnG at h ⊢
  refine ⟨h.1, ?_⟩
  rcases h.2 with h | ⟨g, cap, cur, h1, h2, h3⟩
  · exact .inl h
  · exact .inr ⟨g, cap, cur, h1, Nat.le_trans hb h2, h3⟩
theorem OwnG.alloc {W : World} {base : Nat} {v : Value} {l : List α} (h : OwnG enc sz t W base v l) (o : Obj) : OwnG enc sz t (W.alloc o) base v l := World.ownsRow.alloc (show W.ownsRow _ _ _ _ _ _ from h) o
theorem OwnG.nil (W : World) (base : Nat) : OwnG enc sz t W base (.slice none 0 0) ([] : List α) := World.ownsRow_nil _ _ _ _
/-- append(v, x): the run -/
theorem OwnG.snoc (henc : ∀ x, (enc x).length = sz) (hone : ∀ x, ∀ u ∈ enc x, u.oneCell' = true) (hsz : 0 < sz) (T ty : TypeId) {i0 : TypeInfo} {z : Value} {bytes : Nat}
    (hT : Tryd.prog.underlying T = some (.slice t)) (hi : Tryd.prog.info? t = some i0) (hz0 : i0.zero = some z) (hz1 : i0.size = sz) (hz2 : i0.bytes = bytes) (hz3 : z.cells.size = sz)
    (W : World) (base : Nat) (v : Value) (l : List α) (x : α) (h : OwnG enc sz t W base v l) (hl : l.length ≤ 1000000000) (hby : bytes ≤ 1000) (hb : base ≤ W.heap.size) :
    ∃ v' w', (Builtin.append_ #[T, T] ty #[v, .slice (some ⟨W.heap.size, 0, none⟩) 1 1]).run Tryd.prog (W.alloc (.cells (enc x).toArray t)) = .ok v' w' ∧ OwnG enc sz t w' base v' (l ++ [x]) ∧ Below base W w' := by
  have hbb : (l.length + 1) * bytes ≤ 140737488355328 := by
    have : (l.length + 1) * bytes ≤ (l.length + 1) * 1000 := Nat.mul_le_mul_left _ hby
    omega
  obtain ⟨g, cap, w', hr, ho, hg, _, _⟩ := run_append_lies (P := Tryd.prog) (W.alloc (.cells (enc x).toArray t)) T ty base t i0 z sz bytes hT hi hz0 hz1 hz2 hz3 hsz v l.length (l.flatMap enc) ((show W.ownsRow base t sz v l.length (l.flatMap enc) from h).alloc _) ⟨W.heap.size, 0, none⟩ 1 1 (enc x) (by rw [henc]; omega)
    (World.news_of_block (cs := (enc x).toArray) (t := t) (fr := (0, 0)) (heap_alloc_new W _)) (hone x) (by omega) (by unfold maxLen; omega) hbb (by simp; omega) (W.heap.size + 1) (by simp)
  refine ⟨_, w', hr, ?_, ?_⟩
  · unfold OwnG
    rw [List.length_append, List.flatMap_append]
    simpa using ho
  · exact ((Below.refl base W).alloc (by omega) _).grown hg (by simp; omega) (fun k hk => by have := h.base k hk; omega)
end

/-- append at the walk's list, its run known -/
theorem wpList_append_runB {P : Program} {w : World} {ops : Array Oper} {rest : List Oper} {o : Oper} {a : Act} {Q : Exit → Act → World → Prop} (hgd : o.guard = none) (s x : Operand) (t : TypeId)
    (ho : o.op = .call { callee := .builtin .append, args := #[s, x], argTypes := #[t, t] }) (u v : Value) (hs : a.eval s = u) (hx : a.eval x = v) (v' : Value) (w' : World)
    (hr : (Builtin.append_ #[t, t] o.type #[u, v]).run P w = .ok v' w') (h : wpList P ops Q rest (a.put o.dst v') w') : wpList P ops Q (o :: rest) a w := by
  refine wpList_plain hgd fun K hK => ?_
  unfold Oper.wp execOp
  simp only [ho, resolve, invoke, builtin, Sem.run_bind, Sem.run_pure, Result.andThen_ok, List.map_toArray, List.map_cons, List.map_nil, hs, hx, hr]
  exact hK _ _ h

/-! texts, integers, entries, pairs -/
def eS (u : Str) : List Value := [.string ⟨u.toArray⟩]
def eI (x : Int) : List Value := [.int .i64 x]
abbrev Ent := Int × Str
def eE (e : Ent) : List Value := [.int .i64 e.1, .string ⟨e.2.toArray⟩]
def eP (p : Int × Int) : List Value := [.int .i64 p.1, .int .i64 p.2]
theorem eS_len (x : Str) : (eS x).length = 1 := rfl
theorem eI_len (x : Int) : (eI x).length = 1 := rfl
theorem eE_len (x : Ent) : (eE x).length = 2 := rfl
theorem eP_len (x : Int × Int) : (eP x).length = 2 := rfl
theorem eS_one (x : Str) : ∀ u ∈ eS x, u.oneCell' = true := by simp [eS, Value.oneCell']
theorem eI_one (x : Int) : ∀ u ∈ eI x, u.oneCell' = true := by simp [eI, Value.oneCell']
theorem eE_one (x : Ent) : ∀ u ∈ eE x, u.oneCell' = true := by simp [eE, Value.oneCell']
abbrev SS (W : World) (v : Value) (l : List Str) : Prop := SLG eS 1 W v l
abbrev SI (W : World) (v : Value) (l : List Int) : Prop := SLG eI 1 W v l
abbrev SE (W : World) (v : Value) (l : List Ent) : Prop := SLG eE 2 W v l
abbrev SP (W : World) (v : Value) (l : List (Int × Int)) : Prop := SLG eP 2 W v l
abbrev OS (W : World) (base : Nat) (v : Value) (l : List Str) : Prop := OwnG eS 1 9 W base v l
abbrev OI (W : World) (base : Nat) (v : Value) (l : List Int) : Prop := OwnG eI 1 3 W base v l
abbrev OE (W : World) (base : Nat) (v : Value) (l : List Ent) : Prop := OwnG eE 2 46 W base v l
theorem infoInt : (Tryd.prog.info? 3).map (fun i => (i.zero, i.size, i.bytes)) = some (some (.int .i64 0), 1, 8) := by kernel_rfl
theorem infoEnt : (Tryd.prog.info? 46).map (fun i => (i.zero, i.size, i.bytes)) = some (some (.agg #[.int .i64 0, .string ⟨#[]⟩]), 2, 24) := by kernel_rfl
theorem snocS (W : World) (base : Nat) (v : Value) (l : List Str) (x : Str) (h : OS W base v l) (hl : l.length ≤ 1000000000) (hb : base ≤ W.heap.size) :
    ∃ v' w', (Builtin.append_ #[35, 35] 35 #[v, .slice (some ⟨W.heap.size, 0, none⟩) 1 1]).run Tryd.prog (W.alloc (.cells #[.string ⟨x.toArray⟩] 9)) = .ok v' w' ∧ OS w' base v' (l ++ [x]) ∧ Below base W w' := by
  obtain ⟨i0, hi, hz0, hz1, hz2⟩ := info_parts info9
  exact OwnG.snoc eS_len eS_one (by omega) 35 35 Tryd.underlying35 hi hz0 hz1 hz2 rfl W base v l x h hl (by omega) hb
theorem snocI (W : World) (base : Nat) (v : Value) (l : List Int) (x : Int) (h : OI W base v l) (hl : l.length ≤ 1000000000) (hb : base ≤ W.heap.size) :
    ∃ v' w', (Builtin.append_ #[24, 24] 24 #[v, .slice (some ⟨W.heap.size, 0, none⟩) 1 1]).run Tryd.prog (W.alloc (.cells #[.int .i64 x] 3)) = .ok v' w' ∧ OI w' base v' (l ++ [x]) ∧ Below base W w' := by
  obtain ⟨i0, hi, hz0, hz1, hz2⟩ := info_parts infoInt
  exact OwnG.snoc eI_len eI_one (by omega) 24 24 Tryd.underlying24 hi hz0 hz1 hz2 rfl W base v l x h hl (by omega) hb
theorem snocE (W : World) (base : Nat) (v : Value) (l : List Ent) (x : Ent) (h : OE W base v l) (hl : l.length ≤ 1000000000) (hb : base ≤ W.heap.size) :
    ∃ v' w', (Builtin.append_ #[23, 23] 23 #[v, .slice (some ⟨W.heap.size, 0, none⟩) 1 1]).run Tryd.prog (W.alloc (.cells #[.int .i64 x.1, .string ⟨x.2.toArray⟩] 46)) = .ok v' w' ∧ OE w' base v' (l ++ [x]) ∧ Below base W w' := by
  obtain ⟨i0, hi, hz0, hz1, hz2⟩ := info_parts infoEnt
  exact OwnG.snoc eE_len eE_one (by omega) 23 23 Tryd.underlying23 hi hz0 hz1 hz2 rfl W base v l x h hl (by omega) hb
/-- an element of a slice that is read -/
theorem SLG.cells {α : Type} {enc : α → List Value} {sz : Nat} {W : World} {v : Value} {l : List α} (h : SLG enc sz W v l) (k : Nat) (hk : k < l.length) :
    ∃ b o c, v = .slice (some ⟨b, o, none⟩) l.length c ∧ b < W.heap.size ∧ ∀ W', Below W.heap.size W W' → ∀ i u, (enc l[k])[i]? = some u → W'.cell? ⟨b, o + k * sz + i, none⟩ = some u := by
  obtain ⟨b, o, c, h1, h2, h3, h4⟩ := h.own (fun e => by rw [e] at hk; simp at hk)
  exact ⟨b, o, c, h1, h3, fun W' B i u e => (h4.below h3 B) k _ i u (List.getElem?_eq_getElem hk) e⟩
end Go.Proofs.YtegahpfmkepfmaaDoor
