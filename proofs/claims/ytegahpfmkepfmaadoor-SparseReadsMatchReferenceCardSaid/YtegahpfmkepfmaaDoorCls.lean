/- The closed parts of an opening. -/
import Derived.Test.YtegahpfmkepfmaaDoorWit
import Derived.Test.YtegahpfmkepfmaaDoorCln
namespace Go.Proofs.YtegahpfmkepfmaaDoor
open Go.RowKit
def bB (l : List Bool) : List Value := l.map Value.bool
/-- the block b holds the marks l -/
def RowB (W : World) (b : Nat) (l : List Bool) : Prop := W.heap[b]? = some (.cells (bB l).toArray 103 (0, 0))
theorem bB_set (l : List Bool) (i : Nat) (s : Bool) : (bB l).toArray.setIfInBounds i (.bool s) = (bB (l.set i s)).toArray := by simp [bB, List.map_set]
theorem RowB.cell {W : World} {b : Nat} {l : List Bool} (h : RowB W b l) (i : Nat) (hi : i < l.length) : W.cell? ⟨b, i, none⟩ = some (.bool (l.getD i false)) := by
  rw [cell_of_row _ _ _ _ _ _ h]
  simp [bB, List.getD, List.getElem?_eq_getElem hi]
theorem RowB.free {W : World} {b : Nat} {l : List Bool} (h : RowB W b l) (i : Nat) : W.frozen? ⟨b, i, none⟩ = false := by
  unfold RowB at h
  simp [World.frozen?, h]
theorem RowB.set {W : World} {b : Nat} {l : List Bool} (h : RowB W b l) (i : Nat) (s : Bool) : RowB (W.setCell ⟨b, i, none⟩ (.bool s)) b (l.set i s) := by
  unfold RowB at h ⊢
  rw [setCell_eq_setRow _ _ _ _ _ _ _ h, setRow_heap _ _ _ _ _ _ h, ← bB_set]
theorem RowB.below {W W' : World} {b n : Nat} {l : List Bool} (h : RowB W b l) (B : Below n W W') (hb : b < n) : RowB W' b l := by
  unfold RowB at h ⊢
  rw [B.block b hb]; exact h
/-- the marks at the places m -/
def mk (m : List Nat) : List Bool := (List.range 128).map fun i => m.contains i
theorem mk_len (m : List Nat) : (mk m).length = 128 := by simp [mk]
theorem mk_snoc (m : List Nat) (p : Nat) : (mk m).set p true = mk (m ++ [p]) := by
  apply List.ext_getElem
  · simp [mk]
  · intro i h1 h2
    rw [List.getElem_set]
    simp only [mk, List.getElem_map, List.getElem_range]
    by_cases e : p = i
    · simp [e]
    · rw [if_neg e, Bool.eq_iff_iff]
      simp only [List.contains_eq_mem, List.mem_append, List.mem_singleton, decide_eq_true_eq]
      exact ⟨.inl, fun h => h.elim id fun h => absurd h.symm e⟩
theorem mk_nil : mk [] = List.replicate 128 false := by decide
def up1 (k j : Nat) : List Nat := (List.range j).map fun u => (64 + k) / 2 ^ u
def ups (ks : List Nat) : List Nat := ks.flatMap fun k => up1 k 7
theorem ups_op (ks : List Nat) (i : Nat) (h : i < 128) : (mk (ups ks)).getD i false = op ks i := by
  rw [List.getD_eq_getElem?_getD, List.getElem?_eq_getElem (by rw [mk_len]; exact h), Option.getD_some]
  simp only [mk, List.getElem_map, List.getElem_range]
  rw [Bool.eq_iff_iff, op_iff]
  simp only [List.contains_eq_mem, decide_eq_true_eq, ups, up1, List.mem_flatMap, List.mem_map, List.mem_range]
theorem up1_snoc (k j : Nat) : up1 k (j + 1) = up1 k j ++ [(64 + k) / 2 ^ j] := by
  rw [up1, List.range_succ, List.map_append]; rfl
theorem ups_snoc (ks : List Nat) (i : Nat) (h : i < ks.length) : ups (ks.take (i + 1)) = ups (ks.take i) ++ up1 ks[i] 7 := by
  unfold ups
  rw [List.take_succ_eq_append_getElem h, List.flatMap_append]; simp

/-- what lies in memory while the closed parts are found: the marks, the list, the closure -/
def ClsW (W : World) (bo bl bw base : Nat) (ks : List Nat) (L : List Int) : Prop :=
  RowB W bo (mk (ups ks)) ∧ W.heap[bw]? = some (.cells #[.func (.func 72) #[] #[.pointer (some ⟨bo, 0, none⟩), .pointer (some ⟨bl, 0, none⟩), .pointer (some ⟨bw, 0, none⟩)]] 104 (0, 0)) ∧
    ∃ v, W.heap[bl]? = some (.cells #[v] 24 (0, 0)) ∧ OI W base v L
/-- all three lie between n and base -/
def ClsB (n bo bl bw base : Nat) : Prop := n ≤ bo ∧ n ≤ bl ∧ n ≤ bw ∧ bo < base ∧ bl < base ∧ bw < base ∧ bo ≠ bl ∧ bo ≠ bw ∧ bl ≠ bw
def ClsPost (n bo bl bw base : Nat) (ks : List Nat) (L : List Int) (W : World) (e : Ending) (W' : World) : Prop := e = .returned (.tuple #[]) ∧ ClsW W' bo bl bw base ks L ∧ Below n W W' ∧ base ≤ W'.heap.size
def nI (l : List Nat) : List Int := l.map Int.ofNat

theorem OwnG.set {α : Type} {enc : α → List Value} {sz : Nat} {t : TypeId} {W : World} {base : Nat} {v : Value} {l : List α} (h : OwnG enc sz t W base v l) {b : Nat} (hb : b < base) (i : Nat) (u : Value) : OwnG enc sz t (W.setCell ⟨b, i, none⟩ u) base v l := by
  unfold OwnG at h ⊢
  refine ⟨h.1, ?_⟩
  rcases h.2 with h | ⟨g, cap, cur, h1, h2, h3, h4⟩
  · exact .inl h
  · refine .inr ⟨g, cap, cur, h1, h2, ?_, h4⟩
    have : b ≠ g := by omega
    simp [World.setCell, Array.getElem?_modify, this, h3]
/-- one element more in the list -/
theorem cls_snoc (W : World) (n bo bl bw base : Nat) (ks : List Nat) (L : List Int) (x : Int) (hB : ClsB n bo bl bw base) (hs : base ≤ W.heap.size) (hL : L.length ≤ 1000000) (v : Value)
    (h1 : RowB W bo (mk (ups ks))) (h2 : W.heap[bw]? = some (.cells #[.func (.func 72) #[] #[.pointer (some ⟨bo, 0, none⟩), .pointer (some ⟨bl, 0, none⟩), .pointer (some ⟨bw, 0, none⟩)]] 104 (0, 0)))
    (h3 : W.heap[bl]? = some (.cells #[v] 24 (0, 0))) (h4 : OI W base v L) :
    ∃ v' w', (∃ a k c, v' = .slice a k c) ∧ (Builtin.append_ #[24, 24] 24 #[v, .slice (some ⟨W.heap.size, 0, none⟩) 1 1]).run Tryd.prog (W.alloc (.cells #[.int .i64 x] 3)) = .ok v' w' ∧ w'.frozen? ⟨bl, 0, none⟩ = false ∧ (∃ u, w'.cell? ⟨bl, 0, none⟩ = some u) ∧
      ClsW (w'.setCell ⟨bl, 0, none⟩ v') bo bl bw base ks (L ++ [x]) ∧ Below n W (w'.setCell ⟨bl, 0, none⟩ v') ∧ base ≤ (w'.setCell ⟨bl, 0, none⟩ v').heap.size := by
  obtain ⟨n1, n2, n3, n4, n5, n6, n7, n8, n9⟩ := hB
  obtain ⟨v', w', hr, ho, hb⟩ := snocI W base v L x h4 (by omega) hs
  have g3 : w'.heap[bl]? = some (.cells #[v] 24 (0, 0)) := by rw [hb.block bl n5]; exact h3
  refine ⟨v', w', ⟨_, _, (OwnG.SL eI_len ho).shape.choose_spec⟩, hr, by simp [World.frozen?, g3], ⟨v, by rw [cell_of_row _ _ _ _ _ _ g3]; rfl⟩, ⟨?_, ?_, v', ?_, ?_⟩, ?_, ?_⟩
  · have := h1.below hb n4
    unfold RowB at this ⊢
    simp [World.setCell, Array.getElem?_modify, n7.symm, this]
  · have : w'.heap[bw]? = _ := (hb.block bw n6).trans h2
    simp [World.setCell, Array.getElem?_modify, n9, this]
  · rw [setCell_eq_setRow _ _ _ _ _ _ _ g3, setRow_heap _ _ _ _ _ _ g3]; rfl
  · exact ho.set n5 _ _
  · exact (hb.mono (by omega)).setCell (by simpa using n2) _
  · have := hb.size; simp [World.setCell]; omega
theorem clF_size (ks : List Nat) (h i : Nat) : (clF ks h i).length ≤ 2 ^ h := by
  induction h generalizing i with
  | zero => rw [clF]; split <;> simp
  | succ h ih =>
    rw [clF]
    split
    · rw [List.length_append, Nat.pow_succ]; have := ih (2 * i); have := ih (2 * i + 1); omega
    · have := Nat.pow_pos (n := h + 1) (show 0 < 2 by omega); simp; omega
theorem nI_append (a b : List Nat) : nI (a ++ b) = nI a ++ nI b := by simp [nI]

set_option maxRecDepth 100000 in
set_option maxHeartbeats 1000000 in
theorem closed1_any (h : Nat) : ∀ (part : Nat) (ks : List Nat) (n bo bl bw base : Nat) (W : World) (L : List Int), h < 7 → 1 ≤ part → 64 ≤ part * 2 ^ h → (part + 1) * 2 ^ h ≤ 128 →
    ClsB n bo bl bw base → ClsW W bo bl bw base ks L → base ≤ W.heap.size → L.length + 2 ^ h ≤ 1000 →
    Calls Tryd.prog 72 #[.int .i64 (part : Int), .pointer (some ⟨bo, 0, none⟩), .pointer (some ⟨bl, 0, none⟩), .pointer (some ⟨bw, 0, none⟩)] W (ClsPost n bo bl bw base ks (L ++ nI (clF ks h part)) W) := by
  induction h with
  | zero =>
    intro part ks n bo bl bw base W L _ h1 h2 h3 hB hW hs hL
    obtain ⟨q1, q2, v, q3, q4⟩ := hW
    have c1 := q1.cell part (by rw [mk_len]; omega)
    rw [ups_op ks part (by omega)] at c1
    have i0 : (0 : Int) ≤ (part : Int) := by omega
    have i1 : (part : Int) < 128 := by omega
    by_cases ho : op ks part = true
    · have hc : clF ks 0 part = [] := by rw [clF, if_pos ho]
      rw [ho] at c1
      rw [hc]
      have i2 : ¬ (part : Int) < 64 := by omega
      clear hc
      have hfin : ClsPost n bo bl bw base ks (L ++ nI []) W (.returned (.tuple #[])) W := ⟨rfl, ⟨q1, q2, v, q3, by simpa [nI] using q4⟩, Below.refl _ _, hs⟩
      have hfin := Lib.hid hfin
      clear q1 q2 q3 q4 hB hL ho h2 h3
      go_enter Tryd.func72, Tryd.ntmps72
      go_wp2_with fail
      exact bodyPost_end (v := .tuple #[]) (results_none rfl _ _ _) rfl hfin.out
    · have hc : clF ks 0 part = [part] := by rw [clF, if_neg ho]
      rw [Bool.not_eq_true] at ho
      rw [ho] at c1
      rw [hc]
      obtain ⟨v', w', ⟨sa, sk, sc, rfl⟩, hr, hf, ⟨u, hu⟩, hw, hbb, hsz⟩ := cls_snoc W n bo bl bw base ks L (part : Int) hB hs (by omega) v q1 q2 q3 q4
      have c2 : W.cell? ⟨bl, 0, none⟩ = some v := by rw [cell_of_row _ _ _ _ _ _ q3]; rfl
      have hfin : ClsPost n bo bl bw base ks (L ++ nI [part]) W (.returned (.tuple #[])) (w'.setCell ⟨bl, 0, none⟩ (.slice sa sk sc)) := ⟨rfl, hw, hbb, hsz⟩
      have hfin := Lib.hid hfin
      clear q1 q2 q3 q4 hB hL ho h2 h3 hw hbb hsz hc
      go_enter Tryd.func72, Tryd.ntmps72
      go_wp2_with (at_builtin; refine wpList_append_runB rfl (.tmp 9) (.tmp 11) 24 rfl v (.slice (some ⟨W.heap.size, 0, none⟩) 1 1) rfl rfl _ _ hr ?_)
      exact bodyPost_ret (v := .tuple #[]) (results_none rfl _ _ _) rfl hfin.out
  | succ h ih =>
    intro part ks n bo bl bw base W L h7 h1 h2 h3 hB hW hs hL
    have p2 := Nat.pow_pos (n := h) (show 0 < 2 by omega)
    have e1 : part * 2 ^ (h + 1) = 2 * part * 2 ^ h := by rw [Nat.pow_succ, Nat.mul_comm 2 part, Nat.mul_assoc, Nat.mul_comm 2]
    have e : (part + 1) * 2 ^ (h + 1) = (2 * part + 1 + 1) * 2 ^ h := by rw [Nat.pow_succ, show 2 * part + 1 + 1 = 2 * (part + 1) by omega, Nat.mul_comm 2 (part + 1), Nat.mul_assoc, Nat.mul_comm 2]
    have m1 : (2 * part + 1) * 2 ^ h = 2 * part * 2 ^ h + 2 ^ h := by rw [Nat.add_mul, Nat.one_mul]
    have m2 : (2 * part + 1 + 1) * 2 ^ h = (2 * part + 1) * 2 ^ h + 2 ^ h := by rw [Nat.add_mul _ 1, Nat.one_mul]
    have i64 : part < 64 := by
      have : (part + 1) * 2 ≤ (part + 1) * 2 ^ (h + 1) := Nat.mul_le_mul_left _ (by rw [Nat.pow_succ]; omega)
      omega
    have l1 := clF_size ks h (2 * part)
    rw [Nat.pow_succ] at hL
    have k1 := Lib.hid (ih (2 * part) ks n bo bl bw base W L (by omega) (by omega) (by omega) (by omega) hB hW hs (by omega))
    have k2 := Lib.hid (show ∀ W', ClsW W' bo bl bw base ks (L ++ nI (clF ks h (2 * part))) → base ≤ W'.heap.size → _ from fun W' hW' hs' => ih (2 * part + 1) ks n bo bl bw base W' (L ++ nI (clF ks h (2 * part))) (by omega) (by omega) (by omega) (by omega) hB hW' hs' (by simp [nI]; omega))
    obtain ⟨q1, q2, v, q3, q4⟩ := hW
    have c1 := q1.cell part (by rw [mk_len]; omega)
    rw [ups_op ks part (by omega)] at c1
    have i0 : (0 : Int) ≤ (part : Int) := by omega
    have i1 : (part : Int) < 128 := by omega
    have i2 : (part : Int) < 64 := by omega
    have e2 : ((2 * part + 1 : Nat) : Int) = 2 * (part : Int) + 1 := by omega
    have e3 : ((2 * part : Nat) : Int) = 2 * (part : Int) := by omega
    rw [e2] at k2
    rw [e3] at k1
    by_cases ho : op ks part = true
    · have hc : clF ks (h + 1) part = clF ks h (2 * part) ++ clF ks h (2 * part + 1) := by rw [clF, if_pos ho]
      rw [hc, nI_append, ← List.append_assoc]
      rw [ho] at c1
      have c3 : W.cell? ⟨bw, 0, none⟩ = some (.func (.func 72) #[] #[.pointer (some ⟨bo, 0, none⟩), .pointer (some ⟨bl, 0, none⟩), .pointer (some ⟨bw, 0, none⟩)]) := by rw [cell_of_row _ _ _ _ _ _ q2]; rfl
      clear q1 q2 q3 q4 ih hL ho h2 h3 hc e e1 m1 m2 p2 l1 e2 e3
      generalize nI (clF ks h (2 * part)) = L1 at *
      generalize nI (clF ks h (2 * part + 1)) = L2 at *
      go_enter Tryd.func72, Tryd.ntmps72
      go_wp2_with fail
      refine k1.out.mono ?_
      rintro e W1 ⟨rfl, w1, b1, s1⟩
      have kk := Lib.hid (k2.out W1 w1 s1)
      have c4 : W1.cell? ⟨bw, 0, none⟩ = some (.func (.func 72) #[] #[.pointer (some ⟨bo, 0, none⟩), .pointer (some ⟨bl, 0, none⟩), .pointer (some ⟨bw, 0, none⟩)]) := by rw [cell_of_row _ _ _ _ _ _ w1.2.1]; rfl
      clear k1 k2 c3 c1 w1
      go_wp2_with fail
      refine kk.out.mono ?_
      rintro e W2 ⟨rfl, w2, b2, s2⟩
      have hfin : ClsPost n bo bl bw base ks (L ++ L1 ++ L2) W (.returned (.tuple #[])) W2 := ⟨rfl, w2, b1.trans b2, s2⟩
      have hfin := Lib.hid hfin
      clear w2 b1 b2 s1 s2 kk c4 hB
      go_wp2_with fail
      exact bodyPost_end (v := .tuple #[]) (results_none rfl _ _ _) rfl hfin.out
    · have hc : clF ks (h + 1) part = [part] := by rw [clF, if_neg ho]
      rw [Bool.not_eq_true] at ho
      rw [hc]
      rw [ho] at c1
      obtain ⟨v', w', ⟨sa, sk, sc, rfl⟩, hr, hf, ⟨u, hu⟩, hw, hbb, hsz⟩ := cls_snoc W n bo bl bw base ks L (part : Int) hB hs (by omega) v q1 q2 q3 q4
      have c2 : W.cell? ⟨bl, 0, none⟩ = some v := by rw [cell_of_row _ _ _ _ _ _ q3]; rfl
      have hfin : ClsPost n bo bl bw base ks (L ++ nI [part]) W (.returned (.tuple #[])) (w'.setCell ⟨bl, 0, none⟩ (.slice sa sk sc)) := ⟨rfl, hw, hbb, hsz⟩
      have hfin := Lib.hid hfin
      clear q1 q2 q3 q4 hB hL ho h2 h3 hw hbb hsz hc k1 k2 ih e e1 m1 m2 p2 l1 e2 e3
      go_enter Tryd.func72, Tryd.ntmps72
      go_wp2_with (at_builtin; refine wpList_append_runB rfl (.tmp 9) (.tmp 11) 24 rfl v (.slice (some ⟨W.heap.size, 0, none⟩) 1 1) rfl rfl _ _ hr ?_)
      exact bodyPost_ret (v := .tuple #[]) (results_none rfl _ _ _) rfl hfin.out

theorem z128b : Tryd.zeroCells103 = (bB (mk [])).toArray := by
  rw [mk_nil]; rfl

theorem free_of_block {W : World} {b i : Nat} {cs : Array Value} {t : TypeId} (h : W.heap[b]? = some (.cells cs t (0, 0))) : W.frozen? ⟨b, i, none⟩ = false := by simp [World.frozen?, h]
theorem RowB.lt {W : World} {b : Nat} {l : List Bool} (h : RowB W b l) : b < W.heap.size := (Array.getElem?_eq_some_iff.1 h).1
theorem store_func (W : World) (F : Value) (hF : F.oneCell' = true) : (store ⟨W.heap.size, 0, none⟩ F).run Tryd.prog (W.alloc (.cells #[.nilFunc] 104)) = .ok () (W.alloc (.cells #[F] 104)) := by
  have g := heap_alloc_new W (.cells #[.nilFunc] 104)
  have c : (W.alloc (.cells #[.nilFunc] 104)).cell? ⟨W.heap.size, 0, none⟩ = some .nilFunc := by rw [cell_of_row _ _ _ _ _ _ g]; rfl
  have f : (W.alloc (.cells #[.nilFunc] 104)).frozen? ⟨W.heap.size, 0, none⟩ = false := free_of_block g
  have e : (W.alloc (.cells #[.nilFunc] 104)).setCell ⟨W.heap.size, 0, none⟩ F = W.alloc (.cells #[F] 104) := by
    rw [World.setCell_alloc_at _ _ _ _ _ rfl]; rfl
  rw [run_store _ _ _ _ _ hF, c]
  simp [f, e]

set_option maxRecDepth 100000 in
set_option maxHeartbeats 1000000 in
theorem closed_any (v : Value) (ks : List Nat) (w : World) {W0 : World} (hv : SI W0 v (nI ks)) (hW : W0 = w) (hk : ∀ k ∈ ks, k < 64) (hn : ks.length ≤ 1000000) :
    Calls Tryd.prog 48 #[v] w (RowI (nI (closedL ks)) w) := by
  subst hW
  obtain ⟨N, hN⟩ : ∃ N, Hid (N = ks.length) := ⟨_, rfl⟩
  have hca := Lib.hid (show ∀ (k : Nat) (hk : k < ks.length), ∃ b o c, v = .slice (some ⟨b, o, none⟩) ks.length c ∧ ∀ W', Below W0.heap.size W0 W' → W'.cell? ⟨b, o + k, none⟩ = some (.int .i64 (ks[k] : Int)) from fun k hk => by
    obtain ⟨b, o, c, h1, h2⟩ := SI.at hv k (by simpa [nI] using hk)
    exact ⟨b, o, c, by simpa [nI] using h1, fun W' B => by simpa [nI] using h2 W' B⟩)
  obtain ⟨a1, a2, rfl⟩ := hv.shape
  have hk2 := Lib.hid hk
  have hnl : (nI ks).length = ks.length := by simp [nI]
  rw [hnl]
  rw [← hN.out] at hn ⊢
  clear hv hk hnl
  go_enter Tryd.func48, Tryd.ntmps48
  go_upto_region 2 with (fail)
  rw [z128b]
  obtain ⟨w0, hw0⟩ : ∃ w0, w0 = W0.alloc (.cells (bB (mk [])).toArray 103) := ⟨_, rfl⟩
  rw [← hw0]
  have r1 : RowB w0 W0.heap.size (mk (ups (ks.take 0))) := by rw [hw0]; exact heap_alloc_new W0 _
  have B0 : Below W0.heap.size W0 w0 := by rw [hw0]; exact (Below.refl _ _).alloc (Nat.le_refl _) _
  clear hw0
  go_wp2_with fail
  go_loopw [11] (fun i wr => ∃ k : Nat, k ≤ N ∧ i = .int .i64 k ∧ RowB wr W0.heap.size (mk (ups (ks.take k))) ∧ Below W0.heap.size W0 wr) (fun i _ => N - (intOf i).toNat)
  case atStart => exact ⟨0, by omega, rfl, r1, B0⟩
  case round =>
    clear r1 B0
    obtain ⟨k, hk, rfl, r1, B⟩ := hrel
    by_cases hlt : k < N
    · have hkl : k < ks.length := by rw [← hN.out]; exact hlt
      obtain ⟨b, o, c', he, hcell⟩ := hca.out k hkl
      injection he with he1 he2 he3
      subst he1
      have hcc := hcell wr B
      have hp64 := hk2.out ks[k] (List.getElem_mem hkl)
      have hst := Lib.hid (ups_snoc ks k hkl)
      clear hcell he2 he3
      have i0 : (0 : Int) ≤ (k : Int) := by omega
      have i1 : (k : Int) < (N : Int) := by omega
      generalize ks[k] = p at *
      generalize ups (ks.take k) = m at *
      have r1' : RowB wr W0.heap.size (mk (m ++ up1 p 0)) := by simpa [up1] using r1
      have r1h := Lib.hid r1'
      have Bh := Lib.hid B
      clear r1 r1' B
      go_wp2_with fail
      obtain ⟨wo, rfl⟩ : ∃ wo : World, wo = wr := ⟨_, rfl⟩
      go_loopw [15] (fun i wr => ∃ j : Nat, j ≤ 7 ∧ i = .int .i64 j ∧ RowB wr W0.heap.size (mk (m ++ up1 p j)) ∧ Below W0.heap.size W0 wr) (fun i _ => 7 - (intOf i).toNat)
      case atStart => exact ⟨0, by omega, rfl, r1h.out, Bh.out⟩
      case round =>
        obtain ⟨j, hj, rfl, r2, B2⟩ := hrel
        by_cases hlj : j < 7
        · have e : (64 + (p : Int)) / 2 ^ j = (((64 + p) / 2 ^ j : Nat) : Int) := by
            rw [Int.natCast_ediv, Int.natCast_pow]; rfl
          have hq : (64 + p) / 2 ^ j < 128 := Nat.lt_of_le_of_lt (Nat.div_le_self _ _) (by omega)
          have hup := Lib.hid (up1_snoc p j)
          have i2 : (0 : Int) ≤ (j : Int) := by omega
          have i3 : (j : Int) < 7 := by omega
          have i4 : (0 : Int) ≤ (p : Int) := by omega
          have i5 : (p : Int) < 64 := by omega
          generalize (64 + p) / 2 ^ j = q at *
          have f1 := r2.free q
          have c1 := r2.cell q (by rw [mk_len]; exact hq)
          have q1 := Lib.hid (r2.set q true)
          rw [mk_snoc, List.append_assoc, ← hup.out] at q1
          have Bq := Lib.hid (B2.setCell (p := ⟨W0.heap.size, q, none⟩) (by simp) (.bool true))
          have i6 : (0 : Int) ≤ (q : Int) := by omega
          have i7 : (q : Int) < 128 := by omega
          generalize (mk (m ++ up1 p j)).getD q false = old at *
          clear r2 B2 hup hq
          go_wp2_with fail
          go_roundw
          case rel => exact ⟨j + 1, by omega, by go_num, q1.out, Bq.out⟩
          case measure => simp [intOf]; omega
        · obtain rfl : j = 7 := by omega
          rw [← hst.out] at r2
          have r2h := Lib.hid r2
          have Bq := Lib.hid B2
          clear r2 B2 r1h Bh
          go_wp2_with fail
          go_roundw
          case rel => exact ⟨k + 1, by omega, by go_num, r2h.out, Bq.out⟩
          case measure => simp [intOf]; omega
    · have hfull : ks.take k = ks := List.take_of_length_le (by rw [← hN.out]; omega)
      rw [hfull] at r1
      have i1 : ¬ (k : Int) < (N : Int) := by omega
      obtain ⟨n0, hn0⟩ : ∃ n0, Hid (n0 = W0.heap.size) := ⟨_, rfl⟩
      have hlt0 := r1.lt
      obtain ⟨F, hF⟩ : ∃ F : Value, F = .func (.func 72) #[] #[.pointer (some ⟨W0.heap.size, 0, none⟩), .pointer (some ⟨wr.heap.size, 0, none⟩), .pointer (some ⟨wr.heap.size + 1, 0, none⟩)] := ⟨_, rfl⟩
      have hst := store_func (wr.alloc (.cells #[.slice none 0 0] 24)) F (by rw [hF]; rfl)
      have hB : ClsB W0.heap.size W0.heap.size wr.heap.size (wr.heap.size + 1) (wr.heap.size + 1 + 1) := ⟨by omega, by omega, by omega, by omega, by omega, by omega, by omega, by omega, by omega⟩
      obtain ⟨wz, hwz⟩ : ∃ wz, wz = (wr.alloc (.cells #[.slice none 0 0] 24)).alloc (.cells #[F] 104) := ⟨_, rfl⟩
      obtain ⟨t1, t2, t3, t4⟩ := two_world wr wz _ _ _ _ hwz
      rw [← hwz] at hst
      simp only [World.size_alloc] at hst
      have hW : ClsW wz W0.heap.size wr.heap.size (wr.heap.size + 1) (wr.heap.size + 1 + 1) ks [] := ⟨r1.below t2 hlt0, by rw [← hF]; exact t4, .slice none 0 0, t3, OwnG.nil _ _⟩
      have c1 : wz.cell? ⟨wr.heap.size + 1, 0, none⟩ = some F := by rw [cell_of_row _ _ _ _ _ _ t4]; rfl
      have Bz : Below W0.heap.size W0 wz := B.trans (t2.mono B.size)
      have hcall := Lib.hid (closed1_any 6 1 ks W0.heap.size W0.heap.size wr.heap.size (wr.heap.size + 1) (wr.heap.size + 1 + 1) wz [] (by omega) (by omega) (by omega) (by omega) hB hW (by omega) (by simp))
      have Bzh := Lib.hid Bz
      clear hfull hca t1 t2 t3 t4 hB hW r1 B Bz hwz
      subst hF
      go_wp2_with fail
      refine hcall.out.mono ?_
      rintro e W2 ⟨rfl, ⟨w1, w2, v, w3, w4⟩, b2, s2⟩
      have c3 : W2.cell? ⟨wr.heap.size, 0, none⟩ = some v := by rw [cell_of_row _ _ _ _ _ _ w3]; rfl
      have hfin : OI W2 W0.heap.size v (nI (closedL ks)) ∧ Below W0.heap.size W0 W2 := ⟨w4.mono (by omega), Bzh.out.trans b2⟩
      obtain ⟨va, vc, rfl⟩ := (OwnG.SL eI_len w4).shape
      have hfin := Lib.hid hfin
      clear w1 w2 w3 w4 b2 s2 hcall hst c1
      go_wp2_with fail
      go_ret
      exact ⟨_, rfl, hfin.out.1, hfin.out.2⟩
end Go.Proofs.YtegahpfmkepfmaaDoor
