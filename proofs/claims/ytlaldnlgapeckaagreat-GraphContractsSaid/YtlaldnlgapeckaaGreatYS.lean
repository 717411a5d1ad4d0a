/- The closed facts of the chapter's example. -/
import Derived.Test.YtlaldnlgapeckaaGreatYX
import Derived.Test.YtlaldnlgapeckaaGreatYQ
import Derived.Test.YtlaldnlgapeckaaGreatYT
import Derived.Test.YtlaldnlgapeckaaGreatYB
import Derived.Test.YtlaldnlgapeckaaGreatYF
import Derived.Deep.CutRange
namespace Go.Proofs.YtlaldnlgapeckaaGreat
open Go.RowKit
def exA : Gr := ⟨[⟨0, 0⟩, ⟨2, 0⟩], [⟨0, 0, 0, false, 5, 0⟩, ⟨1, 0, 2, false, 7, 0⟩], []⟩
def exU : Ch := ⟨8, ⟨1, 0⟩, ⟨0, 0, 0, false, 0, 0⟩, 0, 0, [1, 2], []⟩
def exB : Gr := ⟨[⟨0, 0⟩, ⟨1, 0⟩, ⟨2, 0⟩, ⟨3, 0⟩], [⟨0, 0, 1, false, 5, 0⟩, ⟨1, 3, 2, false, 7, 0⟩], []⟩
def exC (k i n : Int) (v : Vx) (e : Ed) (l : List Int) : Ch := ⟨k, v, e, i, n, l, []⟩
theorem s_ok : exG.ok = true := by decide +kernel
theorem s_okA : exA.ok = true := by decide +kernel
theorem s_A : actF exG ⟨7, ⟨0, 0⟩, ⟨0, 0, 0, false, 0, 0⟩, 1, 0, [], []⟩ = some (exA, exU) := by kernel_rfl
theorem s_2 : actF exG ⟨2, ⟨0, 0⟩, ⟨0, 0, 0, false, 0, 0⟩, 1, 0, [], []⟩ = none := by kernel_rfl
theorem s_3 : actF exG ⟨3, ⟨0, 0⟩, ⟨1, 0, 0, false, 0, 0⟩, 0, 0, [], []⟩ = none := by kernel_rfl
theorem s_B : (actF exG ⟨8, ⟨3, 0⟩, ⟨0, 0, 0, false, 0, 0⟩, 1, 0, [2], []⟩).map (·.1) = some exB := by kernel_rfl
theorem s_run : runF exA [exU] = some exG := by kernel_rfl
def exS : List UInt8 := encB exG
theorem s_dec : rGr ([120, 121] ++ exS) 2 = some (exG, exS.length + 2) := by kernel_rfl
theorem s_len : exS.length ≤ 1000 := by decide +kernel
theorem s_at : (atF exG.es 1).length = 2 := by decide +kernel
theorem s_bad : (⟨[], [], [1]⟩ : Gr).ok = false := by decide +kernel
theorem s_ne : sameG exA exG = false := by decide +kernel
theorem s_eq : sameG exG exG = true := by decide +kernel
end Go.Proofs.YtlaldnlgapeckaaGreat
namespace Go.Proofs.YtlaldnlgapeckaaGreat
open Go.RowKit
theorem cvNil (W : World) (k i n : Int) (v : Vx) (e : Ed) : CV W (.agg (chCells ⟨k, v, e, i, n, [], []⟩ (.slice none 0 0) (.slice none 0 0))) ⟨k, v, e, i, n, [], []⟩ :=
  ⟨_, _, rfl, .inl ⟨rfl, _, _, rfl⟩, .inl ⟨rfl, _, _, rfl⟩⟩
/-- slices of a graph -/
def GA (W W0 : World) (v : Value) (g : Gr) : Prop := ∃ x1 x2 x3 x4 x5 x6, v = .agg #[.slice x1 g.vs.length x2, .slice x3 g.es.length x4, .slice x5 g.ds.length x6] ∧ GV W v g ∧ Below W0.heap.size W0 W
theorem ga_of {W W0 : World} {a b c : Value} {g : Gr} {B : Nat} (h1 : OwnV W B a g.vs) (h2 : OwnEd W B b g.es) (h3 : OwnI W B c g.ds) (hb : Below W0.heap.size W0 W) : GA W W0 (.agg #[a, b, c]) g := by
  obtain ⟨a1, a2, rfl⟩ := h1.VL.shape
  obtain ⟨b1, b2, rfl⟩ := h2.EL.shape
  obtain ⟨c1, c2, rfl⟩ := h3.DL.shape
  exact ⟨_, _, _, _, _, _, rfl, ⟨_, _, _, rfl, h1.VL, h2.EL, h3.DL⟩, hb⟩
theorem apply_ok (v vc : Value) (g : Gr) (c : Ch) (g' : Gr) (W : World) (hv : GV W v g) (hc : CV W vc c) (hn : g.vs.length ≤ 1000000 ∧ g.es.length ≤ 1000000 ∧ g.ds.length ≤ 1000000) (hs : c.ends.length ≤ 1000000 ∧ c.deps.length ≤ 1000000) (ho : g.ok = true) (ha : (actF g c).map (·.1) = some g') :
    Calls Tryz.prog 19 #[v, vc] W fun e w' => ∃ r, e = .returned (.tuple #[r, .int .i64 0]) ∧ GA w' W r g' :=
  (Apply_any v vc g c W hv hc hn hs).mono fun e w' h => by
    obtain ⟨hb, h⟩ := h
    rw [if_pos ho] at h
    cases hx : actF g c with
    | none => rw [hx] at ha; cases ha
    | some p =>
      obtain ⟨g2, u⟩ := p
      rw [hx] at ha h
      injection ha with ha
      replace ha : g2 = g' := ha
      subst ha
      obtain ⟨a, b, c, rfl, h1, h2, h3⟩ := h
      exact ⟨_, rfl, ga_of h1 h2 h3 hb⟩
theorem apply_no (v vc : Value) (g : Gr) (c : Ch) (W : World) (hv : GV W v g) (hc : CV W vc c) (hn : g.vs.length ≤ 1000000 ∧ g.es.length ≤ 1000000 ∧ g.ds.length ≤ 1000000) (hs : c.ends.length ≤ 1000000 ∧ c.deps.length ≤ 1000000) (ha : (if g.ok = true then actF g c else none) = none) :
    Calls Tryz.prog 19 #[v, vc] W fun e w' => e = .returned (.tuple #[.agg #[.slice none 0 0, .slice none 0 0, .slice none 0 0], .int .i64 30]) ∧ Below W.heap.size W w' :=
  (Apply_any v vc g c W hv hc hn hs).mono fun e w' h => by
    obtain ⟨hb, h⟩ := h
    rw [ha] at h
    exact ⟨h, hb⟩
theorem all_ok (v vl : Value) (g : Gr) (l : List Ch) (g' : Gr) (W : World) (hv : GV W v g) (hl : LC W vl l) (hn : g.vs.length ≤ 1000000 ∧ g.es.length ≤ 1000000 ∧ g.ds.length ≤ 1000000) (hm : l.length ≤ 1000000) (hs : ∀ c ∈ l, c.ends.length ≤ 1000000 ∧ c.deps.length ≤ 1000000) (ho : g.ok = true) (ha : runF g l = some g') :
    Calls Tryz.prog 24 #[v, vl] W fun e w' => ∃ r, e = .returned (.tuple #[r, .int .i64 (l.length : Nat), .int .i64 0]) ∧ GA w' W r g' :=
  (ApplyAll_any v vl g l W hv hl hn hm hs).mono fun e w' h => by
    obtain ⟨hb, h⟩ := h
    rw [if_pos ho, ha] at h
    obtain ⟨a, b, c, rfl, h1, h2, h3⟩ := h
    exact ⟨_, rfl, ga_of h1 h2 h3 hb⟩
theorem all_no (v vl : Value) (g : Gr) (l : List Ch) (W : World) (hv : GV W v g) (hl : LC W vl l) (hn : g.vs.length ≤ 1000000 ∧ g.es.length ≤ 1000000 ∧ g.ds.length ≤ 1000000) (hm : l.length ≤ 1000000) (hs : ∀ c ∈ l, c.ends.length ≤ 1000000 ∧ c.deps.length ≤ 1000000) (ho : g.ok = true) (ha : runF g l = none) :
    Calls Tryz.prog 24 #[v, vl] W fun e w' => e = .returned (.tuple #[.agg #[.slice none 0 0, .slice none 0 0, .slice none 0 0], .int .i64 (stopF g l : Nat), .int .i64 30]) ∧ Below W.heap.size W w' :=
  (ApplyAll_any v vl g l W hv hl hn hm hs).mono fun e w' h => by
    obtain ⟨hb, h⟩ := h
    rw [if_pos ho, ha, if_pos ho] at h
    exact ⟨h, hb⟩
theorem inv_ok (v vc : Value) (g : Gr) (c u : Ch) (g' : Gr) (W : World) (hv : GV W v g) (hc : CV W vc c) (hn : g.vs.length ≤ 1000000 ∧ g.es.length ≤ 1000000 ∧ g.ds.length ≤ 1000000) (hs : c.ends.length ≤ 1000000 ∧ c.deps.length ≤ 1000000) (ho : g.ok = true) (ha : actF g c = some (g', u)) :
    Calls Tryz.prog 21 #[v, vc] W fun e w' => ∃ x y, e = .returned (.tuple #[.slice x 1 y, .int .i64 0]) ∧ LC w' (.slice x 1 y) [u] ∧ Below W.heap.size W w' :=
  (Invert_any v vc g c W hv hc hn hs).mono fun e w' h => by
    obtain ⟨hb, h⟩ := h
    rw [if_pos ho, ha] at h
    obtain ⟨r, rfl, h1⟩ := h
    obtain ⟨x, y, rfl⟩ := h1.shape
    exact ⟨_, _, rfl, h1, hb⟩
theorem enc_ok (v : Value) (g : Gr) (W : World) (hv : GV W v g) (hn : g.small) (ho : g.ok = true) :
    Calls Tryz.prog 32 #[v] W fun e w' => e = .returned (.tuple #[.string ⟨(encB g).toArray⟩, .int .i64 0]) ∧ Below W.heap.size W w' :=
  (Encode_any v g W hv hn).mono fun e w' h => by
    obtain ⟨h, hb⟩ := h
    rw [if_pos ho] at h
    exact ⟨h, hb⟩
theorem dec_ok (s : ByteArray) (a : Int) (g : Gr) (m : Nat) (W : World) (hs : s.size ≤ maxLen) (h1 : -9223372036854775808 ≤ a) (h2 : a ≤ 9223372036854775807) (hr : rGr s.data.toList a = some (g, m)) :
    Calls Tryz.prog 38 #[.string s, .int .i64 a] W fun e w' => ∃ r, e = .returned (.tuple #[r, .int .i64 (m : Nat), .int .i64 0]) ∧ GA w' W r g :=
  (Decode_any s a W hs h1 h2).mono fun e w' h => by
    unfold DPost at h
    rw [hr] at h
    obtain ⟨x, y, z, rfl, h1, h2, h3, hb⟩ := h
    exact ⟨_, rfl, ga_of h1 h2 h3 hb⟩
theorem edges_at {W : World} {a c : Value} {p : Option Addr} {n q : Nat} {g : Gr} (h : GV W (.agg #[a, .slice p n q, c]) g) (hne : g.es ≠ []) : ∃ eb eo, p = some ⟨eb, eo, none⟩ ∧ ∀ (k : Nat) (hk : k < g.es.length) W', Below W.heap.size W W' → EdAt W' eb (eo + k * 6) g.es[k] := by
  obtain ⟨a', b', c', he, _, h2, _⟩ := h
  injection he with he
  simp only [Array.mk.injEq, List.cons.injEq] at he
  obtain ⟨_, he, _⟩ := he
  subst he
  obtain ⟨b, o, c2, e1, _, e2, e3⟩ := h2.own hne
  injection e1 with e1 _ _
  exact ⟨b, o, e1, fun k hk W' B => (e3.below e2 B) k _ (List.getElem?_eq_getElem hk)⟩
theorem box3 {W : World} {k : Nat} {a b c : Value} {t : TypeId} (h : W.heap[k]? = some (.cells #[a, b, c] t (0, 0))) : W.cell? ⟨k, 0, none⟩ = some a ∧ W.cell? ⟨k, 1, none⟩ = some b ∧ W.cell? ⟨k, 2, none⟩ = some c :=
  ⟨by rw [cell_of_row _ _ _ _ _ _ h]; rfl, by rw [cell_of_row _ _ _ _ _ _ h]; rfl, by rw [cell_of_row _ _ _ _ _ _ h]; rfl⟩
theorem chAt_below {W W' : World} {b o : Nat} {c : Ch} {x y : Value} (h : ChAt W b o c x y) (hb : b < W.heap.size) (B : Below W.heap.size W W') : ChAt W' b o c x y := fun i u e => by
  rw [B.cell (p := ⟨b, o + i, none⟩) hb]; exact h i u e
theorem box_new {w w1 : World} {o : Obj} (h : w1 = w.alloc o) : Below w.heap.size w w1 ∧ ∀ W, Below w1.heap.size w1 W → W.heap[w.heap.size]? = some o := by
  subst h
  exact ⟨(Below.refl _ _).alloc (Nat.le_refl _) _, fun W B => (B.block _ (by simp)).trans (heap_alloc_new _ _)⟩
theorem dec_ES (ES : List UInt8) (h : rGr ([120, 121] ++ ES) 2 = some (exG, ES.length + 2)) (hl : ES.length ≤ 1000) (W : World) : Calls Tryz.prog 38 #[.string ⟨([120, 121] ++ ES).toArray⟩, .int .i64 2] W fun e w' => ∃ r, e = .returned (.tuple #[r, .int .i64 ((ES.length : Int) + 2), .int .i64 0]) ∧ GA w' W r exG := by
  obtain ⟨L, hL⟩ : ∃ L, L = [120, 121] ++ ES := ⟨_, rfl⟩
  have hl2 : L.length ≤ 1002 := by rw [hL, List.length_append, List.length_cons, List.length_cons, List.length_nil]; omega
  rw [← hL] at h ⊢
  obtain ⟨m, hm⟩ : ∃ m, m = ES.length + 2 := ⟨_, rfl⟩
  rw [← hm] at h
  rw [show (ES.length : Int) + 2 = ((m : Nat) : Int) by omega]
  clear hL hm hl
  obtain ⟨R, hR⟩ : ∃ R, R = rGr L 2 := ⟨_, rfl⟩
  have h3 := dec_ok ⟨L.toArray⟩ 2 exG m W (by show L.toArray.size ≤ maxLen; rw [List.size_toArray]; unfold maxLen; omega) (by omega) (by omega)
  rw [show (⟨L.toArray⟩ : ByteArray).data.toList = L from rfl, h] at h3
  exact h3 rfl
theorem exSmall : exG.small := by unfold Gr.small exG; simp
theorem exASmall : exA.small := by unfold Gr.small exA; simp
theorem dl1 (W : World) (x : Int) : DL (W.alloc (.cells #[.int .i64 x] 3)) (.slice (some ⟨W.heap.size, 0, none⟩) 1 1) [x] := by
  refine .inr ⟨by simp, W.heap.size, 0, 1, rfl, by simp, by simp, fun j y e => ?_⟩
  rw [cell_of_row _ _ _ _ _ _ (heap_alloc_new W _)]
  match j, e with
  | 0, e => simp at e; subst e; rfl
  | j + 1, e => simp at e
theorem dl2 (W : World) (x y : Int) : DL (W.alloc (.cells #[.int .i64 x, .int .i64 y] 3)) (.slice (some ⟨W.heap.size, 0, none⟩) 2 2) [x, y] := by
  refine .inr ⟨by simp, W.heap.size, 0, 2, rfl, by simp, by simp, fun j z e => ?_⟩
  rw [cell_of_row _ _ _ _ _ _ (heap_alloc_new W _)]
  match j, e with
  | 0, e => simp at e; subst e; rfl
  | 1, e => simp at e; subst e; rfl
  | j + 2, e => simp at e
theorem xy_cat (l : List UInt8) : (({ data := #[120, 121] } : ByteArray) ++ { data := l.toArray }) = ⟨([120, 121] ++ l).toArray⟩ := by
  apply ByteArray.ext; simp
theorem cS_any (a b : Value) (W : World) (h1 : DL W a [1, 2]) (h2 : DL W b []) : Calls Tryz.prog 40 #[.agg #[.int .i64 8, .int .i64 1, .int .i64 0, .int .i64 0, .int .i64 0, .int .i64 0, .bool false, .int .i64 0, .int .i64 0, .int .i64 0, .int .i64 0, a, b], .agg #[.int .i64 8, .int .i64 1, .int .i64 0, .int .i64 0, .int .i64 0, .int .i64 0, .bool false, .int .i64 0, .int .i64 0, .int .i64 0, .int .i64 0, .slice (some ⟨W.heap.size, 0, none⟩) 2 2, .slice none 0 0]] (W.alloc (.cells #[.int .i64 1, .int .i64 2] 3)) fun e w' => e = .returned (.bool true) ∧ Below (W.alloc (.cells #[.int .i64 1, .int .i64 2] 3)).heap.size (W.alloc (.cells #[.int .i64 1, .int .i64 2] 3)) w' := by
  have B : Below W.heap.size W (W.alloc (.cells #[.int .i64 1, .int .i64 2] 3)) := (Below.refl _ _).alloc (Nat.le_refl _) _
  have hc : CV (W.alloc (.cells #[.int .i64 1, .int .i64 2] 3)) (.agg #[.int .i64 8, .int .i64 1, .int .i64 0, .int .i64 0, .int .i64 0, .int .i64 0, .bool false, .int .i64 0, .int .i64 0, .int .i64 0, .int .i64 0, a, b]) exU := ⟨a, b, rfl, h1.below B, h2.below B⟩
  have hd : CV (W.alloc (.cells #[.int .i64 1, .int .i64 2] 3)) (.agg #[.int .i64 8, .int .i64 1, .int .i64 0, .int .i64 0, .int .i64 0, .int .i64 0, .bool false, .int .i64 0, .int .i64 0, .int .i64 0, .int .i64 0, .slice (some ⟨W.heap.size, 0, none⟩) 2 2, .slice none 0 0]) exU := ⟨.slice (some ⟨W.heap.size, 0, none⟩) 2 2, .slice none 0 0, rfl, dl2 W 1 2, .inl ⟨rfl, none, 0, rfl⟩⟩
  generalize W.alloc (.cells #[.int .i64 1, .int .i64 2] 3) = W2 at hc hd ⊢
  generalize (Value.agg #[.int .i64 8, .int .i64 1, .int .i64 0, .int .i64 0, .int .i64 0, .int .i64 0, .bool false, .int .i64 0, .int .i64 0, .int .i64 0, .int .i64 0, a, b]) = vc at hc ⊢
  generalize (Value.agg #[.int .i64 8, .int .i64 1, .int .i64 0, .int .i64 0, .int .i64 0, .int .i64 0, .bool false, .int .i64 0, .int .i64 0, .int .i64 0, .int .i64 0, .slice (some ⟨W.heap.size, 0, none⟩) 2 2, .slice none 0 0]) = vd at hd ⊢
  have h := SameChange_any vc vd exU exU W2 hc hd (by simp [exU]) (by simp [exU])
  rw [(sameC_iff exU exU).2 rfl] at h
  exact h
theorem cV2_any (W : World) : Calls Tryz.prog 15 #[.agg #[.slice none 0 0, .slice none 0 0, .slice (some ⟨W.heap.size, 0, none⟩) 1 1]] (W.alloc (.cells #[.int .i64 1] 3)) fun e w' => e = .returned (.bool false) ∧ Below (W.alloc (.cells #[.int .i64 1] 3)).heap.size (W.alloc (.cells #[.int .i64 1] 3)) w' := by
  have hg : GV (W.alloc (.cells #[.int .i64 1] 3)) (.agg #[.slice none 0 0, .slice none 0 0, .slice (some ⟨W.heap.size, 0, none⟩) 1 1]) ⟨[], [], [1]⟩ := ⟨_, _, _, rfl, .inl ⟨rfl, _, _, rfl⟩, .inl ⟨rfl, _, _, rfl⟩, dl1 W 1⟩
  generalize W.alloc (.cells #[.int .i64 1] 3) = W2 at hg ⊢
  generalize (Value.agg #[.slice none 0 0, .slice none 0 0, .slice (some ⟨W.heap.size, 0, none⟩) 1 1]) = v at hg ⊢
  have h := Valid_any v ⟨[], [], [1]⟩ W2 hg (by unfold Gr.small; simp)
  rw [s_bad] at h
  exact h
theorem cB_any (v : Value) (W : World) (h : GV (W.alloc (.cells #[.int .i64 2] 3)) v exG) : Calls Tryz.prog 19 #[v, .agg #[.int .i64 8, .int .i64 3, .int .i64 0, .int .i64 0, .int .i64 0, .int .i64 0, .bool false, .int .i64 0, .int .i64 0, .int .i64 1, .int .i64 0, .slice (some ⟨W.heap.size, 0, none⟩) 1 1, .slice none 0 0]] (W.alloc (.cells #[.int .i64 2] 3)) fun e w' => ∃ r, e = .returned (.tuple #[r, .int .i64 0]) ∧ GA w' (W.alloc (.cells #[.int .i64 2] 3)) r exB := by
  have hc : CV (W.alloc (.cells #[.int .i64 2] 3)) (.agg #[.int .i64 8, .int .i64 3, .int .i64 0, .int .i64 0, .int .i64 0, .int .i64 0, .bool false, .int .i64 0, .int .i64 0, .int .i64 1, .int .i64 0, .slice (some ⟨W.heap.size, 0, none⟩) 1 1, .slice none 0 0]) ⟨8, ⟨3, 0⟩, ⟨0, 0, 0, false, 0, 0⟩, 1, 0, [2], []⟩ := ⟨.slice (some ⟨W.heap.size, 0, none⟩) 1 1, .slice none 0 0, rfl, dl1 W 2, .inl ⟨rfl, none, 0, rfl⟩⟩
  generalize W.alloc (.cells #[.int .i64 2] 3) = W2 at h hc ⊢
  generalize (Value.agg #[.int .i64 8, .int .i64 3, .int .i64 0, .int .i64 0, .int .i64 0, .int .i64 0, .bool false, .int .i64 0, .int .i64 0, .int .i64 1, .int .i64 0, .slice (some ⟨W.heap.size, 0, none⟩) 1 1, .slice none 0 0]) = vc at hc ⊢
  exact apply_ok v vc exG _ exB W2 h hc (by simp [exG]) (by simp) s_ok s_B
set_option maxRecDepth 100000 in
set_option maxHeartbeats 4000000 in
theorem sane_any (w : World) : Calls Tryz.prog 10 #[] w fun e w' => e = .returned (.bool true) ∧ Below w.heap.size w w' := by
  have cEx := Lib.hid (example_any w)
  have cA := Lib.hid (show ∀ v W, GV W v exG → Calls Tryz.prog 19 #[v, .agg #[.int .i64 7, .int .i64 0, .int .i64 0, .int .i64 0, .int .i64 0, .int .i64 0, .bool false, .int .i64 0, .int .i64 0, .int .i64 1, .int .i64 0, .slice none 0 0, .slice none 0 0]] W fun e w' => ∃ r, e = .returned (.tuple #[r, .int .i64 0]) ∧ GA w' W r exA from fun v W h => apply_ok v _ exG ⟨7, ⟨0, 0⟩, ⟨0, 0, 0, false, 0, 0⟩, 1, 0, [], []⟩ exA W h (cvNil W 7 1 0 ⟨0, 0⟩ ⟨0, 0, 0, false, 0, 0⟩) (by simp [exG]) (by simp) s_ok (by rw [s_A]; rfl))
  have cI := Lib.hid (show ∀ v W, GV W v exG → Calls Tryz.prog 21 #[v, .agg #[.int .i64 7, .int .i64 0, .int .i64 0, .int .i64 0, .int .i64 0, .int .i64 0, .bool false, .int .i64 0, .int .i64 0, .int .i64 1, .int .i64 0, .slice none 0 0, .slice none 0 0]] W fun e w' => ∃ x y, e = .returned (.tuple #[.slice x 1 y, .int .i64 0]) ∧ LC w' (.slice x 1 y) [exU] ∧ Below W.heap.size W w' from fun v W h => inv_ok v _ exG ⟨7, ⟨0, 0⟩, ⟨0, 0, 0, false, 0, 0⟩, 1, 0, [], []⟩ exU exA W h (cvNil W 7 1 0 ⟨0, 0⟩ ⟨0, 0, 0, false, 0, 0⟩) (by simp [exG]) (by simp) s_ok s_A)
  have c2 := Lib.hid (show ∀ v W, GV W v exG → Calls Tryz.prog 19 #[v, .agg #[.int .i64 2, .int .i64 0, .int .i64 0, .int .i64 0, .int .i64 0, .int .i64 0, .bool false, .int .i64 0, .int .i64 0, .int .i64 1, .int .i64 0, .slice none 0 0, .slice none 0 0]] W fun e w' => e = .returned (.tuple #[.agg #[.slice none 0 0, .slice none 0 0, .slice none 0 0], .int .i64 30]) ∧ Below W.heap.size W w' from fun v W h => apply_no v _ exG ⟨2, ⟨0, 0⟩, ⟨0, 0, 0, false, 0, 0⟩, 1, 0, [], []⟩ W h (cvNil W 2 1 0 ⟨0, 0⟩ ⟨0, 0, 0, false, 0, 0⟩) (by simp [exG]) (by simp) (by rw [s_2]; simp))
  have c3 := Lib.hid (show ∀ v W, GV W v exG → Calls Tryz.prog 19 #[v, .agg #[.int .i64 3, .int .i64 0, .int .i64 0, .int .i64 1, .int .i64 0, .int .i64 0, .bool false, .int .i64 0, .int .i64 0, .int .i64 0, .int .i64 0, .slice none 0 0, .slice none 0 0]] W fun e w' => e = .returned (.tuple #[.agg #[.slice none 0 0, .slice none 0 0, .slice none 0 0], .int .i64 30]) ∧ Below W.heap.size W w' from fun v W h => apply_no v _ exG ⟨3, ⟨0, 0⟩, ⟨1, 0, 0, false, 0, 0⟩, 0, 0, [], []⟩ W h (cvNil W 3 0 0 ⟨0, 0⟩ ⟨1, 0, 0, false, 0, 0⟩) (by simp [exG]) (by simp) (by rw [s_3]; simp))
  have cB := Lib.hid (fun v W h => cB_any v W h)
  have cAll := Lib.hid (show ∀ v vl W, GV W v exA → LC W vl [exU] → Calls Tryz.prog 24 #[v, vl] W fun e w' => ∃ r, e = .returned (.tuple #[r, .int .i64 1, .int .i64 0]) ∧ GA w' W r exG from fun v vl W h hl => all_ok v vl exA [exU] exG W h hl (by simp [exA]) (by simp) (by simp [exU]) s_okA s_run)
  have cK := Lib.hid (show ∀ v v' W, GV W v exG → GV W v' exG → Calls Tryz.prog 17 #[v, v'] W fun e w' => e = .returned (.bool true) ∧ Below W.heap.size W w' from fun v v' W h1 h2 => by have h := Same_any v v' exG exG W h1 h2 exSmall exSmall; rw [s_eq] at h; exact h)
  have cN := Lib.hid (show ∀ v v' W, GV W v exA → GV W v' exG → Calls Tryz.prog 17 #[v, v'] W fun e w' => e = .returned (.bool false) ∧ Below W.heap.size W w' from fun v v' W h1 h2 => by have h := Same_any v v' exA exG W h1 h2 exASmall exSmall; rw [s_ne] at h; exact h)
  have cV := Lib.hid (show ∀ v W, GV W v exG → Calls Tryz.prog 15 #[v] W fun e w' => e = .returned (.bool true) ∧ Below W.heap.size W w' from fun v W h1 => by have h := Valid_any v exG W h1 exSmall; rw [s_ok] at h; exact h)
  have cAt := Lib.hid (show ∀ v W, GV W v exG → Calls Tryz.prog 28 #[v, .int .i64 1] W fun e w' => ∃ a c, e = .returned (.slice a 2 c) ∧ Below W.heap.size W w' from fun v W h1 => (At_any v exG 1 W h1 (by simp [exG])).mono fun e w' h => by
    obtain ⟨r, rfl, hr, hb⟩ := h
    obtain ⟨a, c, rfl⟩ := hr.shape
    rw [s_at]
    exact ⟨_, _, rfl, hb⟩)
  have cO1 := Lib.hid (show ∀ W, Calls Tryz.prog 30 #[.agg #[.int .i64 0, .int .i64 0, .int .i64 1, .bool false, .int .i64 5, .int .i64 0], .int .i64 1] W _ from fun W => Other_any ⟨0, 0, 1, false, 5, 0⟩ 1 W)
  have cO2 := Lib.hid (show ∀ W, Calls Tryz.prog 30 #[.agg #[.int .i64 0, .int .i64 0, .int .i64 1, .bool false, .int .i64 5, .int .i64 0], .int .i64 2] W _ from fun W => Other_any ⟨0, 0, 1, false, 5, 0⟩ 2 W)
  rw [show otherI ⟨0, 0, 1, false, 5, 0⟩ 1 = 0 from rfl] at cO1
  rw [show otherI ⟨0, 0, 1, false, 5, 0⟩ 2 = -1 from rfl] at cO2
  obtain ⟨ES, hES⟩ : ∃ s, Hid (s = exS) := ⟨_, rfl⟩
  have hE2 : encB exG = ES := hES.out.symm
  have hsz : ES.length ≤ 1000 := by rw [hES.out]; exact s_len
  have hdc : rGr ([120, 121] ++ ES) 2 = some (exG, ES.length + 2) := by rw [hES.out]; exact s_dec
  have cD := Lib.hid (dec_ES ES hdc hsz)
  have cE0 : ∀ v W, GV W v exG → _ := fun v W h => enc_ok v exG W h exSmall s_ok
  rw [hE2] at cE0
  have cE := Lib.hid cE0
  clear cE0 hdc hE2 hES
  go_enter Tryz.func10, Tryz.ntmps10
  go_wp2_with fail
  with_reducible refine (cEx.out).mono ?_
  rintro e w1 ⟨x1, x2, x3, x4, rfl, hg, B1⟩
  have kw := Lib.hid B1
  clear B1
  have kw1 := Lib.hid (Below.refl w1.heap.size w1)
  have vG := Lib.hid (fun W (B : Below w1.heap.size w1 W) => hg.below B)
  clear hg
  go_upto_region 2 with (fail)
  obtain ⟨wa, hwa⟩ : ∃ W, W = w1.alloc (.cells #[.slice x1 3 x2, .slice x3 2 x4, .slice none 0 0] 26) := ⟨_, rfl⟩
  rw [← hwa]
  obtain ⟨bb, hpwa0⟩ := box_new hwa
  have hpwa := Lib.hid hpwa0
  clear hwa hpwa0
  replace kw := Lib.hid (kw.out.trans (bb.mono kw.out.size))
  replace kw1 := Lib.hid (kw1.out.trans (bb.mono kw1.out.size))
  clear bb
  have kwa := Lib.hid (Below.refl wa.heap.size wa)
  go_upto_region 3 with (fail)
  obtain ⟨wb, hwb⟩ : ∃ W, W = wa.alloc (.cells #[.int .i64 7, .int .i64 0, .int .i64 0, .int .i64 0, .int .i64 0, .int .i64 0, .bool false, .int .i64 0, .int .i64 0, .int .i64 1, .int .i64 0, .slice none 0 0, .slice none 0 0] 33) := ⟨_, rfl⟩
  rw [← hwb]
  obtain ⟨bb, hpwb0⟩ := box_new hwb
  have hpwb := Lib.hid hpwb0
  clear hwb hpwb0
  replace kw := Lib.hid (kw.out.trans (bb.mono kw.out.size))
  replace kw1 := Lib.hid (kw1.out.trans (bb.mono kw1.out.size))
  replace kwa := Lib.hid (kwa.out.trans (bb.mono kwa.out.size))
  clear bb
  have kwb := Lib.hid (Below.refl wb.heap.size wb)
  obtain ⟨q0, q1, q2⟩ := box3 (hpwa.out _ kwa.out)
  obtain ⟨p0, p1, p2, p3, p4, p5, p6, p7, p8, p9, pA, pB, pC⟩ := ch_cells (c := ⟨7, ⟨0, 0⟩, ⟨0, 0, 0, false, 0, 0⟩, 1, 0, [], []⟩) (hpwb.out _ kwb.out)
  go_wp2_with fail
  with_reducible refine (cA.out _ _ (vG.out _ kw1.out)).mono ?_
  rintro e w2 ⟨r, rfl, hGA⟩
  obtain ⟨y1, y2, y3, y4, y5, y6, hr, hg, b⟩ := hGA
  replace hr : r = .agg #[.slice y1 2 y2, .slice y3 2 y4, .slice y5 0 y6] := hr
  subst hr
  clear q0 q1 q2
  clear p0 p1 p2 p3 p4 p5 p6 p7 p8 p9 pA pB pC
  replace kw := Lib.hid (kw.out.trans (b.mono kw.out.size))
  replace kw1 := Lib.hid (kw1.out.trans (b.mono kw1.out.size))
  replace kwa := Lib.hid (kwa.out.trans (b.mono kwa.out.size))
  replace kwb := Lib.hid (kwb.out.trans (b.mono kwb.out.size))
  clear b
  have kw2 := Lib.hid (Below.refl w2.heap.size w2)
  have vA := Lib.hid (fun W (B : Below w2.heap.size w2 W) => hg.below B)
  clear hg
  go_upto_region 4 with (fail)
  obtain ⟨wc, hwc⟩ : ∃ W, W = w2.alloc (.cells #[.slice y1 2 y2, .slice y3 2 y4, .slice y5 0 y6] 26) := ⟨_, rfl⟩
  rw [← hwc]
  obtain ⟨bb, hpwc0⟩ := box_new hwc
  have hpwc := Lib.hid hpwc0
  clear hwc hpwc0
  replace kw := Lib.hid (kw.out.trans (bb.mono kw.out.size))
  replace kw1 := Lib.hid (kw1.out.trans (bb.mono kw1.out.size))
  replace kwa := Lib.hid (kwa.out.trans (bb.mono kwa.out.size))
  replace kwb := Lib.hid (kwb.out.trans (bb.mono kwb.out.size))
  replace kw2 := Lib.hid (kw2.out.trans (bb.mono kw2.out.size))
  clear bb
  have kwc := Lib.hid (Below.refl wc.heap.size wc)
  obtain ⟨q0, q1, q2⟩ := box3 (hpwa.out _ kwa.out)
  obtain ⟨p0, p1, p2, p3, p4, p5, p6, p7, p8, p9, pA, pB, pC⟩ := ch_cells (c := ⟨7, ⟨0, 0⟩, ⟨0, 0, 0, false, 0, 0⟩, 1, 0, [], []⟩) (hpwb.out _ kwb.out)
  go_wp2_with fail
  with_reducible refine (cI.out _ _ (vG.out _ kw1.out)).mono ?_
  rintro e w3 ⟨u1, u2, rfl, hl, b⟩
  clear q0 q1 q2
  clear p0 p1 p2 p3 p4 p5 p6 p7 p8 p9 pA pB pC
  replace kw := Lib.hid (kw.out.trans (b.mono kw.out.size))
  replace kw1 := Lib.hid (kw1.out.trans (b.mono kw1.out.size))
  replace kwa := Lib.hid (kwa.out.trans (b.mono kwa.out.size))
  replace kwb := Lib.hid (kwb.out.trans (b.mono kwb.out.size))
  replace kw2 := Lib.hid (kw2.out.trans (b.mono kw2.out.size))
  replace kwc := Lib.hid (kwc.out.trans (b.mono kwc.out.size))
  clear b
  have kw3 := Lib.hid (Below.refl w3.heap.size w3)
  have vL := Lib.hid (fun W (B : Below w3.heap.size w3 W) => hl.below B)
  clear hl
  obtain ⟨q0, q1, q2⟩ := box3 (hpwa.out _ kwa.out)
  go_wp2_with fail
  with_reducible refine (c2.out _ _ (vG.out _ kw1.out)).mono ?_
  rintro e w4 ⟨rfl, b⟩
  clear q0 q1 q2
  replace kw := Lib.hid (kw.out.trans (b.mono kw.out.size))
  replace kw1 := Lib.hid (kw1.out.trans (b.mono kw1.out.size))
  replace kwa := Lib.hid (kwa.out.trans (b.mono kwa.out.size))
  replace kwb := Lib.hid (kwb.out.trans (b.mono kwb.out.size))
  replace kw2 := Lib.hid (kw2.out.trans (b.mono kw2.out.size))
  replace kwc := Lib.hid (kwc.out.trans (b.mono kwc.out.size))
  replace kw3 := Lib.hid (kw3.out.trans (b.mono kw3.out.size))
  clear b
  go_upto_region 6 with (fail)
  obtain ⟨wd, hwd⟩ : ∃ W, W = w4.alloc (.cells #[.slice none 0 0, .slice none 0 0, .slice none 0 0] 26) := ⟨_, rfl⟩
  rw [← hwd]
  obtain ⟨bb, hpwd0⟩ := box_new hwd
  have hpwd := Lib.hid hpwd0
  clear hwd hpwd0
  replace kw := Lib.hid (kw.out.trans (bb.mono kw.out.size))
  replace kw1 := Lib.hid (kw1.out.trans (bb.mono kw1.out.size))
  replace kwa := Lib.hid (kwa.out.trans (bb.mono kwa.out.size))
  replace kwb := Lib.hid (kwb.out.trans (bb.mono kwb.out.size))
  replace kw2 := Lib.hid (kw2.out.trans (bb.mono kw2.out.size))
  replace kwc := Lib.hid (kwc.out.trans (bb.mono kwc.out.size))
  replace kw3 := Lib.hid (kw3.out.trans (bb.mono kw3.out.size))
  clear bb
  have kwd := Lib.hid (Below.refl wd.heap.size wd)
  obtain ⟨q0, q1, q2⟩ := box3 (hpwa.out _ kwa.out)
  go_wp2_with fail
  with_reducible refine (c3.out _ _ (vG.out _ kw1.out)).mono ?_
  rintro e w5 ⟨rfl, b⟩
  clear q0 q1 q2
  replace kw := Lib.hid (kw.out.trans (b.mono kw.out.size))
  replace kw1 := Lib.hid (kw1.out.trans (b.mono kw1.out.size))
  replace kwa := Lib.hid (kwa.out.trans (b.mono kwa.out.size))
  replace kwb := Lib.hid (kwb.out.trans (b.mono kwb.out.size))
  replace kw2 := Lib.hid (kw2.out.trans (b.mono kw2.out.size))
  replace kwc := Lib.hid (kwc.out.trans (b.mono kwc.out.size))
  replace kw3 := Lib.hid (kw3.out.trans (b.mono kw3.out.size))
  replace kwd := Lib.hid (kwd.out.trans (b.mono kwd.out.size))
  clear b
  go_upto_region 7 with (fail)
  obtain ⟨we, hwe⟩ : ∃ W, W = w5.alloc (.cells #[.slice none 0 0, .slice none 0 0, .slice none 0 0] 26) := ⟨_, rfl⟩
  rw [← hwe]
  obtain ⟨bb, hpwe0⟩ := box_new hwe
  have hpwe := Lib.hid hpwe0
  clear hwe hpwe0
  replace kw := Lib.hid (kw.out.trans (bb.mono kw.out.size))
  replace kw1 := Lib.hid (kw1.out.trans (bb.mono kw1.out.size))
  replace kwa := Lib.hid (kwa.out.trans (bb.mono kwa.out.size))
  replace kwb := Lib.hid (kwb.out.trans (bb.mono kwb.out.size))
  replace kw2 := Lib.hid (kw2.out.trans (bb.mono kw2.out.size))
  replace kwc := Lib.hid (kwc.out.trans (bb.mono kwc.out.size))
  replace kw3 := Lib.hid (kw3.out.trans (bb.mono kw3.out.size))
  replace kwd := Lib.hid (kwd.out.trans (bb.mono kwd.out.size))
  clear bb
  have kwe := Lib.hid (Below.refl we.heap.size we)
  obtain ⟨q0, q1, q2⟩ := box3 (hpwa.out _ kwa.out)
  go_wp2_with fail
  have b0 := (Below.refl _ we).alloc (Nat.le_refl _) (.cells #[.int .i64 2] 3)
  replace kw := Lib.hid (kw.out.trans (b0.mono kw.out.size))
  replace kw1 := Lib.hid (kw1.out.trans (b0.mono kw1.out.size))
  replace kwa := Lib.hid (kwa.out.trans (b0.mono kwa.out.size))
  replace kwb := Lib.hid (kwb.out.trans (b0.mono kwb.out.size))
  replace kw2 := Lib.hid (kw2.out.trans (b0.mono kw2.out.size))
  replace kwc := Lib.hid (kwc.out.trans (b0.mono kwc.out.size))
  replace kw3 := Lib.hid (kw3.out.trans (b0.mono kw3.out.size))
  replace kwd := Lib.hid (kwd.out.trans (b0.mono kwd.out.size))
  replace kwe := Lib.hid (kwe.out.trans (b0.mono kwe.out.size))
  clear b0
  with_reducible refine (cB.out _ _ (vG.out _ kw1.out)).mono ?_
  rintro e w6 ⟨r, rfl, hGA⟩
  obtain ⟨z1, z2, z3, z4, z5, z6, hr, hg, b⟩ := hGA
  replace hr : r = .agg #[.slice z1 4 z2, .slice z3 2 z4, .slice z5 0 z6] := hr
  subst hr
  clear q0 q1 q2
  replace kw := Lib.hid (kw.out.trans (b.mono kw.out.size))
  replace kw1 := Lib.hid (kw1.out.trans (b.mono kw1.out.size))
  replace kwa := Lib.hid (kwa.out.trans (b.mono kwa.out.size))
  replace kwb := Lib.hid (kwb.out.trans (b.mono kwb.out.size))
  replace kw2 := Lib.hid (kw2.out.trans (b.mono kw2.out.size))
  replace kwc := Lib.hid (kwc.out.trans (b.mono kwc.out.size))
  replace kw3 := Lib.hid (kw3.out.trans (b.mono kw3.out.size))
  replace kwd := Lib.hid (kwd.out.trans (b.mono kwd.out.size))
  replace kwe := Lib.hid (kwe.out.trans (b.mono kwe.out.size))
  clear b
  have kw6 := Lib.hid (Below.refl w6.heap.size w6)
  have vB := Lib.hid (fun W (B : Below w6.heap.size w6 W) => hg.below B)
  clear hg
  go_upto_region 8 with (fail)
  obtain ⟨wf, hwf⟩ : ∃ W, W = w6.alloc (.cells #[.slice z1 4 z2, .slice z3 2 z4, .slice z5 0 z6] 26) := ⟨_, rfl⟩
  rw [← hwf]
  obtain ⟨bb, hpwf0⟩ := box_new hwf
  have hpwf := Lib.hid hpwf0
  clear hwf hpwf0
  replace kw := Lib.hid (kw.out.trans (bb.mono kw.out.size))
  replace kw1 := Lib.hid (kw1.out.trans (bb.mono kw1.out.size))
  replace kwa := Lib.hid (kwa.out.trans (bb.mono kwa.out.size))
  replace kwb := Lib.hid (kwb.out.trans (bb.mono kwb.out.size))
  replace kw2 := Lib.hid (kw2.out.trans (bb.mono kw2.out.size))
  replace kwc := Lib.hid (kwc.out.trans (bb.mono kwc.out.size))
  replace kw3 := Lib.hid (kw3.out.trans (bb.mono kw3.out.size))
  replace kwd := Lib.hid (kwd.out.trans (bb.mono kwd.out.size))
  replace kwe := Lib.hid (kwe.out.trans (bb.mono kwe.out.size))
  replace kw6 := Lib.hid (kw6.out.trans (bb.mono kw6.out.size))
  clear bb
  have kwf := Lib.hid (Below.refl wf.heap.size wf)
  obtain ⟨q0, q1, q2⟩ := box3 (hpwc.out _ kwc.out)
  go_wp2_with fail
  with_reducible refine (cAll.out _ _ _ (vA.out _ kw2.out) (vL.out _ kw3.out)).mono ?_
  rintro e w7 ⟨r, rfl, hGA⟩
  obtain ⟨s1, s2, s3, s4, s5, s6, hr, hg, b⟩ := hGA
  replace hr : r = .agg #[.slice s1 3 s2, .slice s3 2 s4, .slice s5 0 s6] := hr
  subst hr
  clear q0 q1 q2
  replace kw := Lib.hid (kw.out.trans (b.mono kw.out.size))
  replace kw1 := Lib.hid (kw1.out.trans (b.mono kw1.out.size))
  replace kwa := Lib.hid (kwa.out.trans (b.mono kwa.out.size))
  replace kwb := Lib.hid (kwb.out.trans (b.mono kwb.out.size))
  replace kw2 := Lib.hid (kw2.out.trans (b.mono kw2.out.size))
  replace kwc := Lib.hid (kwc.out.trans (b.mono kwc.out.size))
  replace kw3 := Lib.hid (kw3.out.trans (b.mono kw3.out.size))
  replace kwd := Lib.hid (kwd.out.trans (b.mono kwd.out.size))
  replace kwe := Lib.hid (kwe.out.trans (b.mono kwe.out.size))
  replace kw6 := Lib.hid (kw6.out.trans (b.mono kw6.out.size))
  replace kwf := Lib.hid (kwf.out.trans (b.mono kwf.out.size))
  clear b
  have kw7 := Lib.hid (Below.refl w7.heap.size w7)
  have vK := Lib.hid (fun W (B : Below w7.heap.size w7 W) => hg.below B)
  clear hg
  go_upto_region 9 with (fail)
  obtain ⟨wg, hwg⟩ : ∃ W, W = w7.alloc (.cells #[.slice s1 3 s2, .slice s3 2 s4, .slice s5 0 s6] 26) := ⟨_, rfl⟩
  rw [← hwg]
  obtain ⟨bb, hpwg0⟩ := box_new hwg
  have hpwg := Lib.hid hpwg0
  clear hwg hpwg0
  replace kw := Lib.hid (kw.out.trans (bb.mono kw.out.size))
  replace kw1 := Lib.hid (kw1.out.trans (bb.mono kw1.out.size))
  replace kwa := Lib.hid (kwa.out.trans (bb.mono kwa.out.size))
  replace kwb := Lib.hid (kwb.out.trans (bb.mono kwb.out.size))
  replace kw2 := Lib.hid (kw2.out.trans (bb.mono kw2.out.size))
  replace kwc := Lib.hid (kwc.out.trans (bb.mono kwc.out.size))
  replace kw3 := Lib.hid (kw3.out.trans (bb.mono kw3.out.size))
  replace kwd := Lib.hid (kwd.out.trans (bb.mono kwd.out.size))
  replace kwe := Lib.hid (kwe.out.trans (bb.mono kwe.out.size))
  replace kw6 := Lib.hid (kw6.out.trans (bb.mono kw6.out.size))
  replace kwf := Lib.hid (kwf.out.trans (bb.mono kwf.out.size))
  replace kw7 := Lib.hid (kw7.out.trans (bb.mono kw7.out.size))
  clear bb
  have kwg := Lib.hid (Below.refl wg.heap.size wg)
  obtain ⟨q0, q1, q2⟩ := box3 (hpwa.out _ kwa.out)
  go_wp2_with fail
  with_reducible refine (cE.out _ _ (vG.out _ kw1.out)).mono ?_
  rintro e w8 ⟨rfl, b⟩
  clear q0 q1 q2
  replace kw := Lib.hid (kw.out.trans (b.mono kw.out.size))
  replace kw1 := Lib.hid (kw1.out.trans (b.mono kw1.out.size))
  replace kwa := Lib.hid (kwa.out.trans (b.mono kwa.out.size))
  replace kwb := Lib.hid (kwb.out.trans (b.mono kwb.out.size))
  replace kw2 := Lib.hid (kw2.out.trans (b.mono kw2.out.size))
  replace kwc := Lib.hid (kwc.out.trans (b.mono kwc.out.size))
  replace kw3 := Lib.hid (kw3.out.trans (b.mono kw3.out.size))
  replace kwd := Lib.hid (kwd.out.trans (b.mono kwd.out.size))
  replace kwe := Lib.hid (kwe.out.trans (b.mono kwe.out.size))
  replace kw6 := Lib.hid (kw6.out.trans (b.mono kw6.out.size))
  replace kwf := Lib.hid (kwf.out.trans (b.mono kwf.out.size))
  replace kw7 := Lib.hid (kw7.out.trans (b.mono kw7.out.size))
  replace kwg := Lib.hid (kwg.out.trans (b.mono kwg.out.size))
  clear b
  go_wp2_with fail
  rw [xy_cat]
  with_reducible refine (cD.out _).mono ?_
  rintro e w9 ⟨r, rfl, hGA⟩
  obtain ⟨t1, t2, t3, t4, t5, t6, hr, hg, b⟩ := hGA
  replace hr : r = .agg #[.slice t1 3 t2, .slice t3 2 t4, .slice t5 0 t6] := hr
  subst hr
  replace kw := Lib.hid (kw.out.trans (b.mono kw.out.size))
  replace kw1 := Lib.hid (kw1.out.trans (b.mono kw1.out.size))
  replace kwa := Lib.hid (kwa.out.trans (b.mono kwa.out.size))
  replace kwb := Lib.hid (kwb.out.trans (b.mono kwb.out.size))
  replace kw2 := Lib.hid (kw2.out.trans (b.mono kw2.out.size))
  replace kwc := Lib.hid (kwc.out.trans (b.mono kwc.out.size))
  replace kw3 := Lib.hid (kw3.out.trans (b.mono kw3.out.size))
  replace kwd := Lib.hid (kwd.out.trans (b.mono kwd.out.size))
  replace kwe := Lib.hid (kwe.out.trans (b.mono kwe.out.size))
  replace kw6 := Lib.hid (kw6.out.trans (b.mono kw6.out.size))
  replace kwf := Lib.hid (kwf.out.trans (b.mono kwf.out.size))
  replace kw7 := Lib.hid (kw7.out.trans (b.mono kw7.out.size))
  replace kwg := Lib.hid (kwg.out.trans (b.mono kwg.out.size))
  clear b
  have kw9 := Lib.hid (Below.refl w9.heap.size w9)
  have vD := Lib.hid (fun W (B : Below w9.heap.size w9 W) => hg.below B)
  clear hg
  go_upto_region 11 with (fail)
  obtain ⟨wh, hwh⟩ : ∃ W, W = w9.alloc (.cells #[.slice t1 3 t2, .slice t3 2 t4, .slice t5 0 t6] 26) := ⟨_, rfl⟩
  rw [← hwh]
  obtain ⟨bb, hpwh0⟩ := box_new hwh
  have hpwh := Lib.hid hpwh0
  clear hwh hpwh0
  replace kw := Lib.hid (kw.out.trans (bb.mono kw.out.size))
  replace kw1 := Lib.hid (kw1.out.trans (bb.mono kw1.out.size))
  replace kwa := Lib.hid (kwa.out.trans (bb.mono kwa.out.size))
  replace kwb := Lib.hid (kwb.out.trans (bb.mono kwb.out.size))
  replace kw2 := Lib.hid (kw2.out.trans (bb.mono kw2.out.size))
  replace kwc := Lib.hid (kwc.out.trans (bb.mono kwc.out.size))
  replace kw3 := Lib.hid (kw3.out.trans (bb.mono kw3.out.size))
  replace kwd := Lib.hid (kwd.out.trans (bb.mono kwd.out.size))
  replace kwe := Lib.hid (kwe.out.trans (bb.mono kwe.out.size))
  replace kw6 := Lib.hid (kw6.out.trans (bb.mono kw6.out.size))
  replace kwf := Lib.hid (kwf.out.trans (bb.mono kwf.out.size))
  replace kw7 := Lib.hid (kw7.out.trans (bb.mono kw7.out.size))
  replace kwg := Lib.hid (kwg.out.trans (bb.mono kwg.out.size))
  replace kw9 := Lib.hid (kw9.out.trans (bb.mono kw9.out.size))
  clear bb
  have kwh := Lib.hid (Below.refl wh.heap.size wh)
  obtain ⟨q0, q1, q2⟩ := box3 (hpwc.out _ kwc.out)
  obtain ⟨r0, r1, r2⟩ := box3 (hpwf.out _ kwf.out)
  go_upto_region 13 with (fail)
  clear q0 q1 q2 r0 r1 r2
  obtain ⟨ea, oa, rfl, hEA⟩ := edges_at (vA.out w2 (Below.refl _ _)) (by simp [exA])
  obtain ⟨eb, ob, rfl, hEB⟩ := edges_at (vB.out w6 (Below.refl _ _)) (by simp [exB])
  obtain ⟨eg, og, rfl, hEG⟩ := edges_at (vG.out w1 (Below.refl _ _)) (by simp [exG])
  obtain ⟨lb, lo, lc, lx, ly, hle, hlb, hat, hlx, hly⟩ := (vL.out w3 (Below.refl _ _)).at_ 0 (by simp)
  injection hle with hle _ hle2
  subst hle hle2
  obtain ⟨lx1, lx2, rfl⟩ := hlx.shape
  obtain ⟨ly1, ly2, rfl⟩ := hly.shape
  have hEA := Lib.hid hEA
  have hEB := Lib.hid hEB
  have hEG := Lib.hid hEG
  have hcL := Lib.hid (fun W (B : Below w3.heap.size w3 W) => chAt_below hat hlb B)
  have hcv := Lib.hid (fun W (B : Below w3.heap.size w3 W) => And.intro (hlx.below B) (hly.below B))
  clear hat hlb hlx hly
  rename_i oA oB oG
  clear oA oB oG
  obtain ⟨q0, q1, q2⟩ := box3 (hpwc.out _ kwc.out)
  have m0 := hEA.out 0 (by simp [exA]) _ kw2.out
  have m1 := hEA.out 1 (by simp [exA]) _ kw2.out
  obtain ⟨d0, d1, d2, d3, d4, d5⟩ := m0
  obtain ⟨f0, f1, f2, f3, f4, f5⟩ := m1
  obtain ⟨p0, p1, p2, p3, p4, p5, p6, p7, p8, p9, pA, pB, pC⟩ := (hcL.out _ kw3.out).cells
  simp [exA] at d0 d1 d2 d3 d4 d5 f0 f1 f2 f3 f4 f5
  simp [exU] at p0 p1 p2 p3 p4 p5 p6 p7 p8 p9 pA pB pC
  go_wp2_with fail
  have hcw := Lib.hid (hcv.out _ kw3.out)
  have b0 := (Below.refl _ wh).alloc (Nat.le_refl _) (.cells #[.int .i64 1, .int .i64 2] 3)
  replace kw := Lib.hid (kw.out.trans (b0.mono kw.out.size))
  replace kw1 := Lib.hid (kw1.out.trans (b0.mono kw1.out.size))
  replace kwa := Lib.hid (kwa.out.trans (b0.mono kwa.out.size))
  replace kwb := Lib.hid (kwb.out.trans (b0.mono kwb.out.size))
  replace kw2 := Lib.hid (kw2.out.trans (b0.mono kw2.out.size))
  replace kwc := Lib.hid (kwc.out.trans (b0.mono kwc.out.size))
  replace kw3 := Lib.hid (kw3.out.trans (b0.mono kw3.out.size))
  replace kwd := Lib.hid (kwd.out.trans (b0.mono kwd.out.size))
  replace kwe := Lib.hid (kwe.out.trans (b0.mono kwe.out.size))
  replace kw6 := Lib.hid (kw6.out.trans (b0.mono kw6.out.size))
  replace kwf := Lib.hid (kwf.out.trans (b0.mono kwf.out.size))
  replace kw7 := Lib.hid (kw7.out.trans (b0.mono kw7.out.size))
  replace kwg := Lib.hid (kwg.out.trans (b0.mono kwg.out.size))
  replace kw9 := Lib.hid (kw9.out.trans (b0.mono kw9.out.size))
  replace kwh := Lib.hid (kwh.out.trans (b0.mono kwh.out.size))
  clear b0
  with_reducible refine (cS_any _ _ wh hcw.out.1 hcw.out.2).mono ?_
  rintro e wi ⟨rfl, b⟩
  clear q0 q1 q2
  clear p0 p1 p2 p3 p4 p5 p6 p7 p8 p9 pA pB pC
  clear d0 d1 d2 d3 d4 d5 f0 f1 f2 f3 f4 f5
  replace kw := Lib.hid (kw.out.trans (b.mono kw.out.size))
  replace kw1 := Lib.hid (kw1.out.trans (b.mono kw1.out.size))
  replace kwa := Lib.hid (kwa.out.trans (b.mono kwa.out.size))
  replace kwb := Lib.hid (kwb.out.trans (b.mono kwb.out.size))
  replace kw2 := Lib.hid (kw2.out.trans (b.mono kw2.out.size))
  replace kwc := Lib.hid (kwc.out.trans (b.mono kwc.out.size))
  replace kw3 := Lib.hid (kw3.out.trans (b.mono kw3.out.size))
  replace kwd := Lib.hid (kwd.out.trans (b.mono kwd.out.size))
  replace kwe := Lib.hid (kwe.out.trans (b.mono kwe.out.size))
  replace kw6 := Lib.hid (kw6.out.trans (b.mono kw6.out.size))
  replace kwf := Lib.hid (kwf.out.trans (b.mono kwf.out.size))
  replace kw7 := Lib.hid (kw7.out.trans (b.mono kw7.out.size))
  replace kwg := Lib.hid (kwg.out.trans (b.mono kwg.out.size))
  replace kw9 := Lib.hid (kw9.out.trans (b.mono kw9.out.size))
  replace kwh := Lib.hid (kwh.out.trans (b.mono kwh.out.size))
  clear b
  go_upto_region 14 with (fail)
  have m1 := hEB.out 1 (by simp [exB]) _ kw6.out
  obtain ⟨f0, f1, f2, f3, f4, f5⟩ := m1
  simp [exB] at f0 f1 f2 f3 f4 f5
  obtain ⟨r0, r1, r2⟩ := box3 (hpwf.out _ kwf.out)
  obtain ⟨q0, q1, q2⟩ := box3 (hpwg.out _ kwg.out)
  obtain ⟨j0, j1, j2⟩ := box3 (hpwa.out _ kwa.out)
  go_wp2_with fail
  with_reducible refine (cK.out _ _ _ (vK.out _ kw7.out) (vG.out _ kw1.out)).mono ?_
  rintro e wj ⟨rfl, b⟩
  clear q0 q1 q2 r0 r1 r2 j0 j1 j2 f0 f1 f2 f3 f4 f5
  replace kw := Lib.hid (kw.out.trans (b.mono kw.out.size))
  replace kw1 := Lib.hid (kw1.out.trans (b.mono kw1.out.size))
  replace kwa := Lib.hid (kwa.out.trans (b.mono kwa.out.size))
  replace kwb := Lib.hid (kwb.out.trans (b.mono kwb.out.size))
  replace kw2 := Lib.hid (kw2.out.trans (b.mono kw2.out.size))
  replace kwc := Lib.hid (kwc.out.trans (b.mono kwc.out.size))
  replace kw3 := Lib.hid (kw3.out.trans (b.mono kw3.out.size))
  replace kwd := Lib.hid (kwd.out.trans (b.mono kwd.out.size))
  replace kwe := Lib.hid (kwe.out.trans (b.mono kwe.out.size))
  replace kw6 := Lib.hid (kw6.out.trans (b.mono kw6.out.size))
  replace kwf := Lib.hid (kwf.out.trans (b.mono kwf.out.size))
  replace kw7 := Lib.hid (kw7.out.trans (b.mono kw7.out.size))
  replace kwg := Lib.hid (kwg.out.trans (b.mono kwg.out.size))
  replace kw9 := Lib.hid (kw9.out.trans (b.mono kw9.out.size))
  replace kwh := Lib.hid (kwh.out.trans (b.mono kwh.out.size))
  clear b
  obtain ⟨q0, q1, q2⟩ := box3 (hpwh.out _ kwh.out)
  obtain ⟨j0, j1, j2⟩ := box3 (hpwa.out _ kwa.out)
  go_wp2_with fail
  with_reducible refine (cK.out _ _ _ (vD.out _ kw9.out) (vG.out _ kw1.out)).mono ?_
  rintro e wk ⟨rfl, b⟩
  clear q0 q1 q2 j0 j1 j2
  replace kw := Lib.hid (kw.out.trans (b.mono kw.out.size))
  replace kw1 := Lib.hid (kw1.out.trans (b.mono kw1.out.size))
  replace kwa := Lib.hid (kwa.out.trans (b.mono kwa.out.size))
  replace kwb := Lib.hid (kwb.out.trans (b.mono kwb.out.size))
  replace kw2 := Lib.hid (kw2.out.trans (b.mono kw2.out.size))
  replace kwc := Lib.hid (kwc.out.trans (b.mono kwc.out.size))
  replace kw3 := Lib.hid (kw3.out.trans (b.mono kw3.out.size))
  replace kwd := Lib.hid (kwd.out.trans (b.mono kwd.out.size))
  replace kwe := Lib.hid (kwe.out.trans (b.mono kwe.out.size))
  replace kw6 := Lib.hid (kw6.out.trans (b.mono kw6.out.size))
  replace kwf := Lib.hid (kwf.out.trans (b.mono kwf.out.size))
  replace kw7 := Lib.hid (kw7.out.trans (b.mono kw7.out.size))
  replace kwg := Lib.hid (kwg.out.trans (b.mono kwg.out.size))
  replace kw9 := Lib.hid (kw9.out.trans (b.mono kw9.out.size))
  replace kwh := Lib.hid (kwh.out.trans (b.mono kwh.out.size))
  clear b
  obtain ⟨j0, j1, j2⟩ := box3 (hpwa.out _ kwa.out)
  go_wp2_with fail
  with_reducible refine (cV.out _ _ (vG.out _ kw1.out)).mono ?_
  rintro e wl ⟨rfl, b⟩
  clear j0 j1 j2
  replace kw := Lib.hid (kw.out.trans (b.mono kw.out.size))
  replace kw1 := Lib.hid (kw1.out.trans (b.mono kw1.out.size))
  replace kwa := Lib.hid (kwa.out.trans (b.mono kwa.out.size))
  replace kwb := Lib.hid (kwb.out.trans (b.mono kwb.out.size))
  replace kw2 := Lib.hid (kw2.out.trans (b.mono kw2.out.size))
  replace kwc := Lib.hid (kwc.out.trans (b.mono kwc.out.size))
  replace kw3 := Lib.hid (kw3.out.trans (b.mono kw3.out.size))
  replace kwd := Lib.hid (kwd.out.trans (b.mono kwd.out.size))
  replace kwe := Lib.hid (kwe.out.trans (b.mono kwe.out.size))
  replace kw6 := Lib.hid (kw6.out.trans (b.mono kw6.out.size))
  replace kwf := Lib.hid (kwf.out.trans (b.mono kwf.out.size))
  replace kw7 := Lib.hid (kw7.out.trans (b.mono kw7.out.size))
  replace kwg := Lib.hid (kwg.out.trans (b.mono kwg.out.size))
  replace kw9 := Lib.hid (kw9.out.trans (b.mono kw9.out.size))
  replace kwh := Lib.hid (kwh.out.trans (b.mono kwh.out.size))
  clear b
  go_wp2_with fail
  have b0 := (Below.refl _ wl).alloc (Nat.le_refl _) (.cells #[.int .i64 1] 3)
  replace kw := Lib.hid (kw.out.trans (b0.mono kw.out.size))
  replace kw1 := Lib.hid (kw1.out.trans (b0.mono kw1.out.size))
  replace kwa := Lib.hid (kwa.out.trans (b0.mono kwa.out.size))
  replace kwb := Lib.hid (kwb.out.trans (b0.mono kwb.out.size))
  replace kw2 := Lib.hid (kw2.out.trans (b0.mono kw2.out.size))
  replace kwc := Lib.hid (kwc.out.trans (b0.mono kwc.out.size))
  replace kw3 := Lib.hid (kw3.out.trans (b0.mono kw3.out.size))
  replace kwd := Lib.hid (kwd.out.trans (b0.mono kwd.out.size))
  replace kwe := Lib.hid (kwe.out.trans (b0.mono kwe.out.size))
  replace kw6 := Lib.hid (kw6.out.trans (b0.mono kw6.out.size))
  replace kwf := Lib.hid (kwf.out.trans (b0.mono kwf.out.size))
  replace kw7 := Lib.hid (kw7.out.trans (b0.mono kw7.out.size))
  replace kwg := Lib.hid (kwg.out.trans (b0.mono kwg.out.size))
  replace kw9 := Lib.hid (kw9.out.trans (b0.mono kw9.out.size))
  replace kwh := Lib.hid (kwh.out.trans (b0.mono kwh.out.size))
  clear b0
  with_reducible refine (cV2_any wl).mono ?_
  rintro e wm ⟨rfl, b⟩
  replace kw := Lib.hid (kw.out.trans (b.mono kw.out.size))
  replace kw1 := Lib.hid (kw1.out.trans (b.mono kw1.out.size))
  replace kwa := Lib.hid (kwa.out.trans (b.mono kwa.out.size))
  replace kwb := Lib.hid (kwb.out.trans (b.mono kwb.out.size))
  replace kw2 := Lib.hid (kw2.out.trans (b.mono kw2.out.size))
  replace kwc := Lib.hid (kwc.out.trans (b.mono kwc.out.size))
  replace kw3 := Lib.hid (kw3.out.trans (b.mono kw3.out.size))
  replace kwd := Lib.hid (kwd.out.trans (b.mono kwd.out.size))
  replace kwe := Lib.hid (kwe.out.trans (b.mono kwe.out.size))
  replace kw6 := Lib.hid (kw6.out.trans (b.mono kw6.out.size))
  replace kwf := Lib.hid (kwf.out.trans (b.mono kwf.out.size))
  replace kw7 := Lib.hid (kw7.out.trans (b.mono kw7.out.size))
  replace kwg := Lib.hid (kwg.out.trans (b.mono kwg.out.size))
  replace kw9 := Lib.hid (kw9.out.trans (b.mono kw9.out.size))
  replace kwh := Lib.hid (kwh.out.trans (b.mono kwh.out.size))
  clear b
  obtain ⟨q0, q1, q2⟩ := box3 (hpwc.out _ kwc.out)
  obtain ⟨j0, j1, j2⟩ := box3 (hpwa.out _ kwa.out)
  go_wp2_with fail
  with_reducible refine (cN.out _ _ _ (vA.out _ kw2.out) (vG.out _ kw1.out)).mono ?_
  rintro e wn ⟨rfl, b⟩
  clear q0 q1 q2 j0 j1 j2
  replace kw := Lib.hid (kw.out.trans (b.mono kw.out.size))
  replace kw1 := Lib.hid (kw1.out.trans (b.mono kw1.out.size))
  replace kwa := Lib.hid (kwa.out.trans (b.mono kwa.out.size))
  replace kwb := Lib.hid (kwb.out.trans (b.mono kwb.out.size))
  replace kw2 := Lib.hid (kw2.out.trans (b.mono kw2.out.size))
  replace kwc := Lib.hid (kwc.out.trans (b.mono kwc.out.size))
  replace kw3 := Lib.hid (kw3.out.trans (b.mono kw3.out.size))
  replace kwd := Lib.hid (kwd.out.trans (b.mono kwd.out.size))
  replace kwe := Lib.hid (kwe.out.trans (b.mono kwe.out.size))
  replace kw6 := Lib.hid (kw6.out.trans (b.mono kw6.out.size))
  replace kwf := Lib.hid (kwf.out.trans (b.mono kwf.out.size))
  replace kw7 := Lib.hid (kw7.out.trans (b.mono kw7.out.size))
  replace kwg := Lib.hid (kwg.out.trans (b.mono kwg.out.size))
  replace kw9 := Lib.hid (kw9.out.trans (b.mono kw9.out.size))
  replace kwh := Lib.hid (kwh.out.trans (b.mono kwh.out.size))
  clear b
  go_upto_region 15 with (fail)
  obtain ⟨j0, j1, j2⟩ := box3 (hpwa.out _ kwa.out)
  have m1 := hEG.out 0 (by simp [exG]) _ kw1.out
  obtain ⟨f0, f1, f2, f3, f4, f5⟩ := m1
  simp [exG] at f0 f1 f2 f3 f4 f5
  go_wp2_with fail
  with_reducible refine (cAt.out _ _ (vG.out _ kw1.out)).mono ?_
  rintro e wo ⟨o1, o2, rfl, b⟩
  clear j0 j1 j2 f0 f1 f2 f3 f4 f5
  replace kw := Lib.hid (kw.out.trans (b.mono kw.out.size))
  replace kw1 := Lib.hid (kw1.out.trans (b.mono kw1.out.size))
  replace kwa := Lib.hid (kwa.out.trans (b.mono kwa.out.size))
  replace kwb := Lib.hid (kwb.out.trans (b.mono kwb.out.size))
  replace kw2 := Lib.hid (kw2.out.trans (b.mono kw2.out.size))
  replace kwc := Lib.hid (kwc.out.trans (b.mono kwc.out.size))
  replace kw3 := Lib.hid (kw3.out.trans (b.mono kw3.out.size))
  replace kwd := Lib.hid (kwd.out.trans (b.mono kwd.out.size))
  replace kwe := Lib.hid (kwe.out.trans (b.mono kwe.out.size))
  replace kw6 := Lib.hid (kw6.out.trans (b.mono kw6.out.size))
  replace kwf := Lib.hid (kwf.out.trans (b.mono kwf.out.size))
  replace kw7 := Lib.hid (kw7.out.trans (b.mono kw7.out.size))
  replace kwg := Lib.hid (kwg.out.trans (b.mono kwg.out.size))
  replace kw9 := Lib.hid (kw9.out.trans (b.mono kw9.out.size))
  replace kwh := Lib.hid (kwh.out.trans (b.mono kwh.out.size))
  clear b
  obtain ⟨j0, j1, j2⟩ := box3 (hpwa.out _ kwa.out)
  have m1 := hEG.out 0 (by simp [exG]) _ kw1.out
  obtain ⟨f0, f1, f2, f3, f4, f5⟩ := m1
  simp [exG] at f0 f1 f2 f3 f4 f5
  go_wp2_with fail
  with_reducible refine (cO1.out _).mono ?_
  rintro e wp ⟨rfl, b⟩
  clear j0 j1 j2 f0 f1 f2 f3 f4 f5
  replace kw := Lib.hid (kw.out.trans (b.mono kw.out.size))
  replace kw1 := Lib.hid (kw1.out.trans (b.mono kw1.out.size))
  replace kwa := Lib.hid (kwa.out.trans (b.mono kwa.out.size))
  replace kwb := Lib.hid (kwb.out.trans (b.mono kwb.out.size))
  replace kw2 := Lib.hid (kw2.out.trans (b.mono kw2.out.size))
  replace kwc := Lib.hid (kwc.out.trans (b.mono kwc.out.size))
  replace kw3 := Lib.hid (kw3.out.trans (b.mono kw3.out.size))
  replace kwd := Lib.hid (kwd.out.trans (b.mono kwd.out.size))
  replace kwe := Lib.hid (kwe.out.trans (b.mono kwe.out.size))
  replace kw6 := Lib.hid (kw6.out.trans (b.mono kw6.out.size))
  replace kwf := Lib.hid (kwf.out.trans (b.mono kwf.out.size))
  replace kw7 := Lib.hid (kw7.out.trans (b.mono kw7.out.size))
  replace kwg := Lib.hid (kwg.out.trans (b.mono kwg.out.size))
  replace kw9 := Lib.hid (kw9.out.trans (b.mono kw9.out.size))
  replace kwh := Lib.hid (kwh.out.trans (b.mono kwh.out.size))
  clear b
  obtain ⟨j0, j1, j2⟩ := box3 (hpwa.out _ kwa.out)
  have m1 := hEG.out 0 (by simp [exG]) _ kw1.out
  obtain ⟨f0, f1, f2, f3, f4, f5⟩ := m1
  simp [exG] at f0 f1 f2 f3 f4 f5
  go_wp2_with fail
  with_reducible refine (cO2.out _).mono ?_
  rintro e wq ⟨rfl, b⟩
  clear j0 j1 j2 f0 f1 f2 f3 f4 f5
  replace kw := Lib.hid (kw.out.trans (b.mono kw.out.size))
  replace kw1 := Lib.hid (kw1.out.trans (b.mono kw1.out.size))
  replace kwa := Lib.hid (kwa.out.trans (b.mono kwa.out.size))
  replace kwb := Lib.hid (kwb.out.trans (b.mono kwb.out.size))
  replace kw2 := Lib.hid (kw2.out.trans (b.mono kw2.out.size))
  replace kwc := Lib.hid (kwc.out.trans (b.mono kwc.out.size))
  replace kw3 := Lib.hid (kw3.out.trans (b.mono kw3.out.size))
  replace kwd := Lib.hid (kwd.out.trans (b.mono kwd.out.size))
  replace kwe := Lib.hid (kwe.out.trans (b.mono kwe.out.size))
  replace kw6 := Lib.hid (kw6.out.trans (b.mono kw6.out.size))
  replace kwf := Lib.hid (kwf.out.trans (b.mono kwf.out.size))
  replace kw7 := Lib.hid (kw7.out.trans (b.mono kw7.out.size))
  replace kwg := Lib.hid (kwg.out.trans (b.mono kwg.out.size))
  replace kw9 := Lib.hid (kw9.out.trans (b.mono kw9.out.size))
  replace kwh := Lib.hid (kwh.out.trans (b.mono kwh.out.size))
  clear b
  go_wp2_with fail
  go_ret
  exact ⟨rfl, kw.out⟩
end Go.Proofs.YtlaldnlgapeckaaGreat
