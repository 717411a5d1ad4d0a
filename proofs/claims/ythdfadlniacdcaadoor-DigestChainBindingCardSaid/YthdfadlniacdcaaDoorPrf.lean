import Derived.Test.YthdfadlniacdcaaDoorRoot
import Derived.Deep.AppendLies
namespace Go.Proofs.YthdfadlniacdcaaDoor
open Go.RowKit

/-- the cells of texts -/
def cT (l : List Str) : List Value := l.map fun u => Value.string ⟨u.toArray⟩
/-- v is a row of the call's own that holds the texts l -/
def OwnS (W : World) (base : Nat) (v : Value) (l : List Str) : Prop := W.ownsRow base 9 1 v l.length (cT l)
/-- a row of the call's own comes back -/
def RowPost (l : List Str) (w : World) (e : Ending) (w' : World) : Prop := ∃ v, e = .returned v ∧ OwnS w' w.heap.size v l ∧ Below w.heap.size w w'
theorem own_below {W W' : World} {base : Nat} {v : Value} {l : List Str} (h : OwnS W base v l) (B : Below W.heap.size W W') : OwnS W' base v l := by
  unfold OwnS at h ⊢
  refine h.kept (w' := W') (row := none) ⟨B.os, B.tape, B.output, B.size, fun k hk _ => B.block k hk⟩ ?_
  cases hv : v.ownBlock with
  | none => exact .inl rfl
  | some k => exact .inr (by simp)
theorem own_SL {W : World} {base : Nat} {v : Value} {l : List Str} (h : OwnS W base v l) : SL W v l := by
  unfold OwnS at h
  rcases h.2 with ⟨rfl, h0⟩ | ⟨g, cap, cur, rfl, hb, hg, hc, hm, hs, ht⟩
  · exact .inl ⟨List.length_eq_zero_iff.1 h0, _, _, rfl⟩
  · by_cases hl : l = []
    · subst hl; exact .inl ⟨rfl, _, _, rfl⟩
    · refine .inr ⟨hl, g, 0, cap, rfl, hc, (Array.getElem?_eq_some_iff.1 hg).1, fun j u e => ?_⟩
      have hj : j < l.length := by
        by_cases x : j < l.length
        · exact x
        · rw [List.getElem?_eq_none (by omega)] at e; cases e
      rw [cell_of_row _ _ _ _ _ _ hg]
      have h2 : (cT l)[0 + j]? = some (.string ⟨u.toArray⟩) := by simp [cT, e]
      rw [← h2, ← ht, List.getElem?_take_of_lt (by omega)]
      simp
theorem own_mono {W : World} {base base' : Nat} {v : Value} {l : List Str} (h : OwnS W base v l) (hb : base' ≤ base) : OwnS W base' v l := by
  unfold OwnS at h ⊢
  refine ⟨h.1, ?_⟩
  rcases h.2 with h | ⟨g, cap, cur, h1, h2, h3⟩
  · exact .inl h
  · exact .inr ⟨g, cap, cur, h1, Nat.le_trans hb h2, h3⟩

theorem own_snoc {W : World} {base : Nat} {v : Value} {p : List Str} {r : Str} (h : W.ownsRow base 9 1 v (p.length + 1) (cT p ++ [.string ⟨r.toArray⟩])) : OwnS W base v (p ++ [r]) := by
  unfold OwnS
  have e1 : (p ++ [r]).length = p.length + 1 := by simp
  have e2 : cT (p ++ [r]) = cT p ++ [.string ⟨r.toArray⟩] := by simp [cT]
  rw [e1, e2]; exact h
/-- what has been appended to a row of the call's own, and all that is older stays -/
theorem app_below {w w2 w3 w4 : World} {v : Value} {p : List Str} {r : Str} {base : Nat} (hown : OwnS w2 base v p) (hbase : w.heap.size ≤ base) (hb1 : Below w.heap.size w w2) (hb2 : Below w2.heap.size w2 w3)
    (hgrow : (w3.alloc (Obj.cells #[Value.string ⟨r.toArray⟩] 9)).grownBy w4 v.ownBlock) : Below w.heap.size w w4 := by
  have B3 : Below w.heap.size w w3 := hb1.trans (hb2.mono hb1.size)
  exact (B3.alloc B3.size _).grown hgrow (by have := B3.size; simp; omega) (fun k hk => Nat.le_trans hbase (hown.lt k hk).1)
theorem prf_small (n : Nat) (l : List Str) (i : Nat) (h : l.length < n) (hi : i < l.length) (hm : l.length ≤ 1000) : (prfF (sha []) (leafH sha) (nodeH sha) n l i).length ≤ 10 := by
  rw [prf_len _ _ _ n l i h hi]
  exact vlen_le n l.length i 10 h hi (by simp; omega)

set_option maxRecDepth 100000 in
set_option maxHeartbeats 1000000 in
theorem proofOf_any (n : Nat) : ∀ (l : List Str) (v : Value) (i : Nat) (w : World), l.length ≤ n → 1 ≤ l.length → i < l.length → (∀ u ∈ l, List.length u ≤ 1000) → l.length ≤ 1000 → Tab w → SL w v l →
    Calls Tryd.prog 43 #[v, .int .i64 i] w (RowPost (prfF (sha []) (leafH sha) (nodeH sha) (n + 1) l i) w) := by
  induction n with
  | zero => intro l v i w hn h1; omega
  | succ n ih =>
    intro l v i w hn hl1 hi hu hm hT hv
    rcases hv with ⟨rfl, _⟩ | ⟨h1, b, o, c, rfl, h3, h4, hL⟩
    · simp at hl1
    by_cases h2 : l.length = 1
    · have hp : prfF (sha []) (leafH sha) (nodeH sha) (n + 1 + 1) l i = [] := by rw [prfF, if_pos (by omega)]
      rw [hp, h2]
      clear ih hL hu hT hp
      go_enter Tryd.func43, Tryd.ntmps43
      go_wp2_with fail
      go_ret
      exact ⟨_, rfl, World.ownsRow_nil _ _ _ _, Below.refl _ _⟩
    · have k1 := lf_lt l.length (by omega)
      have k2 := lf_pos l.length (by omega)
      have hh := half_w l.length w (by omega) (by omega)
      by_cases hik : i < lf l.length
      · have hp : prfF (sha []) (leafH sha) (nodeH sha) (n + 1 + 1) l i = prfF (sha []) (leafH sha) (nodeH sha) (n + 1) (l.take (lf l.length)) i ++ [rootS (l.drop (lf l.length))] := by rw [prfF, if_neg (by omega), if_pos hik]; rfl
        have hA : ∀ w', Below w.heap.size w w' → Calls Tryd.prog 43 #[.slice (some ⟨b, o, none⟩) (lf l.length) c, .int .i64 i] w' (RowPost (prfF (sha []) (leafH sha) (nodeH sha) (n + 1) (l.take (lf l.length)) i) w') := fun w' B =>
          ih (l.take (lf l.length)) _ i w' (by simp; omega) (by simp; omega) (by simp; omega) (fun u h => hu u (List.mem_of_mem_take h)) (by simp; omega) (hT.below B) ((SL.take h4 h3 hL _ (by omega)).below B)
        have hB : ∀ w', Below w.heap.size w w' → Calls Tryd.prog 27 #[.slice (some ⟨b, o + lf l.length, none⟩) (l.length - lf l.length) (c - lf l.length)] w' fun e w'' => e = .returned (.string ⟨(rootS (l.drop (lf l.length))).toArray⟩) ∧ Below w'.heap.size w' w'' := fun w' B =>
          Root_any n (l.drop (lf l.length)) _ w' (by simp; omega) (fun u h => hu u (List.mem_of_mem_drop h)) (by simp; omega) (hT.below B) ((SL.drop h4 h3 hL _ k1).below B)
        have hpb := prf_small (n + 1) (l.take (lf l.length)) i (by simp; omega) (by simp; omega) (by simp; omega)
        rw [hp]
        generalize prfF (sha []) (leafH sha) (nodeH sha) (n + 1) (l.take (lf l.length)) i = p at *
        generalize rootS (l.drop (lf l.length)) = rB at *
        generalize lf l.length = k at *
        clear ih hL hu hT h1 hp
        generalize l.length = N at *
        have t1 : ((N : Int) == 1) = false := by rw [beq_eq_false_iff_ne]; omega
        have i0 : (0 : Int) ≤ (k : Int) := by omega
        have i1 : (k : Int) ≤ (N : Int) := by omega
        have i2 : (k : Int) ≤ (c : Int) := by omega
        have i3 : (N : Int) ≤ (c : Int) := by omega
        have i4 : ¬ c = k := by omega
        have hA2 := Lib.hid hA
        have hB2 := Lib.hid hB
        clear hA hB
        obtain ⟨f0, hf, hz0, hz1, hz2⟩ := info_parts info9
        go_enter Tryd.func43, Tryd.ntmps43
        go_wp2_with (go_at_call 47; refine hh.mono ?_; rintro e w' ⟨rfl, rfl⟩)
        go_region_law (first
          | (refine step_append_lies _ rfl (.tmp 19) (.tmp 24) 26 rfl w.heap.size 9 f0 _ 1 16 Tryd.underlying26 hf hz0 hz1 hz2 rfl (by decide) v1 p.length (cT p) rfl ((own_below hown hb2).alloc _) ⟨w3.heap.size, 0, none⟩ 1 1 [.string ⟨rB.toArray⟩] rfl rfl (cell_one_new _ _ _) (by simp [Value.oneCell']) (by omega) (by unfold maxLen; omega) (by omega) (by have := hb1.size; have := hb2.size; simp at *; omega) (w3.heap.size + 1) (by simp) ?_; intro g cap w4 hown4 hgrow hat hlt4)
          | (go_simp; go_at_call 43; (with_reducible refine (hA2.out _ ((Below.refl _ _).drew)).mono ?_); rintro e w2 ⟨v1, rfl, hown, hb0⟩; have hb1 : Below w.heap.size w w2 := (Below.refl _ w).drew.trans hb0; clear hb0)
          | (go_simp; go_at_call 27; (with_reducible refine (hB2.out _ hb1).mono ?_); rintro e w3 ⟨rfl, hb2⟩))
        go_wp2_with fail
        go_ret
        exact ⟨_, rfl, own_snoc hown4, app_below hown (Nat.le_refl _) hb1 hb2 hgrow⟩
      · have hp : prfF (sha []) (leafH sha) (nodeH sha) (n + 1 + 1) l i = prfF (sha []) (leafH sha) (nodeH sha) (n + 1) (l.drop (lf l.length)) (i - lf l.length) ++ [rootS (l.take (lf l.length))] := by rw [prfF, if_neg (by omega), if_neg hik]; rfl
        have hA : ∀ w', Below w.heap.size w w' → Calls Tryd.prog 43 #[.slice (some ⟨b, o + lf l.length, none⟩) (l.length - lf l.length) (c - lf l.length), .int .i64 ((i - lf l.length : Nat) : Int)] w' (RowPost (prfF (sha []) (leafH sha) (nodeH sha) (n + 1) (l.drop (lf l.length)) (i - lf l.length)) w') := fun w' B =>
          ih (l.drop (lf l.length)) _ (i - lf l.length) w' (by simp; omega) (by simp; omega) (by simp; omega) (fun u h => hu u (List.mem_of_mem_drop h)) (by simp; omega) (hT.below B) ((SL.drop h4 h3 hL _ k1).below B)
        have hB : ∀ w', Below w.heap.size w w' → Calls Tryd.prog 27 #[.slice (some ⟨b, o, none⟩) (lf l.length) c] w' fun e w'' => e = .returned (.string ⟨(rootS (l.take (lf l.length))).toArray⟩) ∧ Below w'.heap.size w' w'' := fun w' B =>
          Root_any n (l.take (lf l.length)) _ w' (by simp; omega) (fun u h => hu u (List.mem_of_mem_take h)) (by simp; omega) (hT.below B) ((SL.take h4 h3 hL _ (by omega)).below B)
        have hpb := prf_small (n + 1) (l.drop (lf l.length)) (i - lf l.length) (by simp; omega) (by simp; omega) (by simp; omega)
        rw [hp]
        generalize prfF (sha []) (leafH sha) (nodeH sha) (n + 1) (l.drop (lf l.length)) (i - lf l.length) = p at *
        generalize rootS (l.take (lf l.length)) = rB at *
        generalize lf l.length = k at *
        clear ih hL hu hT h1 hp
        generalize l.length = N at *
        have t1 : ((N : Int) == 1) = false := by rw [beq_eq_false_iff_ne]; omega
        have i0 : (0 : Int) ≤ (k : Int) := by omega
        have i1 : (k : Int) ≤ (N : Int) := by omega
        have i2 : (k : Int) ≤ (c : Int) := by omega
        have i3 : (N : Int) ≤ (c : Int) := by omega
        have i4 : ¬ c = k := by omega
        have i5 : IntKind.i64.wrap ((i : Int) - (k : Int)) = ((i - k : Nat) : Int) := by rw [IntWalk.i64_in _ (by omega)]; omega
        have hA2 := Lib.hid hA
        have hB2 := Lib.hid hB
        clear hA hB
        obtain ⟨f0, hf, hz0, hz1, hz2⟩ := info_parts info9
        go_enter Tryd.func43, Tryd.ntmps43
        go_wp2_with (go_at_call 47; refine hh.mono ?_; rintro e w' ⟨rfl, rfl⟩)
        go_region_law (first
          | (refine step_append_lies _ rfl (.tmp 32) (.tmp 37) 26 rfl w.heap.size 9 f0 _ 1 16 Tryd.underlying26 hf hz0 hz1 hz2 rfl (by decide) v1 p.length (cT p) rfl ((own_below hown hb2).alloc _) ⟨w3.heap.size, 0, none⟩ 1 1 [.string ⟨rB.toArray⟩] rfl rfl (cell_one_new _ _ _) (by simp [Value.oneCell']) (by omega) (by unfold maxLen; omega) (by omega) (by have := hb1.size; have := hb2.size; simp at *; omega) (w3.heap.size + 1) (by simp) ?_; intro g cap w4 hown4 hgrow hat hlt4)
          | (go_simp; go_at_call 43; (with_reducible refine (hA2.out _ ((Below.refl _ _).drew)).mono ?_); rintro e w2 ⟨v1, rfl, hown, hb0⟩; have hb1 : Below w.heap.size w w2 := (Below.refl _ w).drew.trans hb0; clear hb0)
          | (go_simp; go_at_call 27; (with_reducible refine (hB2.out _ hb1).mono ?_); rintro e w3 ⟨rfl, hb2⟩))
        go_wp2_with fail
        go_ret
        exact ⟨_, rfl, own_snoc hown4, app_below hown (Nat.le_refl _) hb1 hb2 hgrow⟩
end Go.Proofs.YthdfadlniacdcaaDoor
