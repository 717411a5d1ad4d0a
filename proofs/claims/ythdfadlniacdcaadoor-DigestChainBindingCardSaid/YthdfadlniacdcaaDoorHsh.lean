import Derived.Test.YthdfadlniacdcaaDoorSum
import Derived.Test.YthdfadlniacdcaaDoorBits
import Derived.Test.YthdfadlniacdcaaDoorDgTree
namespace Go.Proofs.YthdfadlniacdcaaDoor
open Go.RowKit

theorem cat_toList (l : List (List UInt8)) : cat (l.map fun x => (⟨x.toArray⟩ : ByteArray)) = l.flatten := by
  induction l with
  | nil => rfl
  | cons a t ih =>
    rw [List.map_cons, List.flatten_cons, ← ih]
    simp [cat]

theorem sum_list (bp : Nat) (ls : List (List UInt8)) (w : World) (h1 : 1 ≤ ls.length) (hn : ls.length ≤ 1000) (hz : ls.flatten.length ≤ 100000000000000) (hT : Tab w)
    (hp : ∀ j u, ls[j]? = some u → w.cell? ⟨bp, j, none⟩ = some (.string ⟨u.toArray⟩)) :
    Calls Tryd.prog 40 #[.slice (some ⟨bp, 0, none⟩) ls.length ls.length] w fun e w' => e = .returned (.string ⟨(sha ls.flatten).toArray⟩) ∧ Below w.heap.size w w' := by
  have h := sum_any bp (ls.map fun x => (⟨x.toArray⟩ : ByteArray)) w (by simpa using h1) (by simpa using hn) (by rw [cat_toList]; exact hz) hT (fun j u e => by
    simp only [cS, List.map_map, List.getElem?_map, Option.map_eq_some_iff] at e
    obtain ⟨x, hx, rfl⟩ := e
    exact hp j x hx)
  rw [cat_toList, List.length_map] at h
  exact h

theorem Sum_any (l : List UInt8) (w : World) (hl : l.length ≤ 10000000000000) (hT : Tab w) :
    Calls Tryd.prog 13 #[.string ⟨l.toArray⟩] w fun e w' => e = .returned (.string ⟨(sha l).toArray⟩) ∧ Below w.heap.size w w' := by
  have b1 : Below w.heap.size w (w.alloc (.cells #[.string ⟨l.toArray⟩] 9)) := (Below.refl _ w).alloc (Nat.le_refl _) _
  have h := sum_list w.heap.size [l] (w.alloc (.cells #[.string ⟨l.toArray⟩] 9)) (by simp) (by simp) (by simp; omega) (hT.below b1) (fun j u e => by
    rw [World.cell?_alloc_at _ _ _ _ rfl]
    match j, e with
    | 0, e => simp at e; simp [e])
  simp only [List.flatten_cons, List.flatten_nil, List.append_nil, List.length_cons, List.length_nil, Nat.zero_add] at h
  have h := Lib.hid h
  go_enter Tryd.func13, Tryd.ntmps13
  go_wp2_with fail
  refine h.out.mono ?_
  rintro e w1 ⟨rfl, b2⟩
  go_wp2_with fail
  go_ret
  exact ⟨rfl, b1.trans (b2.mono (by simp))⟩

theorem Leaf_any (l : List UInt8) (w : World) (hl : l.length ≤ 10000000000000) (hT : Tab w) :
    Calls Tryd.prog 15 #[.string ⟨l.toArray⟩] w fun e w' => e = .returned (.string ⟨(leafH sha l).toArray⟩) ∧ Below w.heap.size w w' := by
  have b1 : Below w.heap.size w (w.alloc (.cells #[.string ⟨#[0]⟩, .string ⟨l.toArray⟩] 9)) := (Below.refl _ w).alloc (Nat.le_refl _) _
  have h := sum_list w.heap.size [[0], l] (w.alloc (.cells #[.string ⟨#[0]⟩, .string ⟨l.toArray⟩] 9)) (by simp) (by simp) (by simp; omega) (hT.below b1) (fun j u e => by
    rw [World.cell?_alloc_at _ _ _ _ rfl]
    match j, e with
    | 0, e => simp at e; simp [← e]
    | 1, e => simp at e; simp [← e])
  simp only [List.flatten_cons, List.flatten_nil, List.append_nil, List.length_cons, List.length_nil, Nat.zero_add, List.cons_append, List.nil_append, Nat.reduceAdd] at h
  have h := Lib.hid h
  go_enter Tryd.func15, Tryd.ntmps15
  go_wp2_with fail
  refine h.out.mono ?_
  rintro e w1 ⟨rfl, b2⟩
  go_wp2_with fail
  go_ret
  exact ⟨rfl, b1.trans (b2.mono (by simp))⟩

theorem Node_any (x y : List UInt8) (w : World) (hx : x.length ≤ 10000000000000) (hy : y.length ≤ 10000000000000) (hT : Tab w) :
    Calls Tryd.prog 17 #[.string ⟨x.toArray⟩, .string ⟨y.toArray⟩] w fun e w' => e = .returned (.string ⟨(nodeH sha x y).toArray⟩) ∧ Below w.heap.size w w' := by
  have b1 : Below w.heap.size w (w.alloc (.cells #[.string ⟨#[1]⟩, .string ⟨x.toArray⟩, .string ⟨y.toArray⟩] 9)) := (Below.refl _ w).alloc (Nat.le_refl _) _
  have h := sum_list w.heap.size [[1], x, y] (w.alloc (.cells #[.string ⟨#[1]⟩, .string ⟨x.toArray⟩, .string ⟨y.toArray⟩] 9)) (by simp) (by simp) (by simp; omega) (hT.below b1) (fun j u e => by
    rw [World.cell?_alloc_at _ _ _ _ rfl]
    match j, e with
    | 0, e => simp at e; simp [← e]
    | 1, e => simp at e; simp [← e]
    | 2, e => simp at e; simp [← e])
  simp only [List.flatten_cons, List.flatten_nil, List.append_nil, List.length_cons, List.length_nil, Nat.zero_add, List.cons_append, List.nil_append, Nat.reduceAdd] at h
  have h := Lib.hid h
  go_enter Tryd.func17, Tryd.ntmps17
  go_wp2_with fail
  refine h.out.mono ?_
  rintro e w1 ⟨rfl, b2⟩
  go_wp2_with fail
  go_ret
  exact ⟨rfl, b1.trans (b2.mono (by simp))⟩

theorem Chain_any (x y : List UInt8) (w : World) (hx : x.length ≤ 10000000000000) (hy : y.length ≤ 10000000000000) (hT : Tab w) :
    Calls Tryd.prog 19 #[.string ⟨x.toArray⟩, .string ⟨y.toArray⟩] w fun e w' => e = .returned (.string ⟨(sha (2 :: (x ++ y))).toArray⟩) ∧ Below w.heap.size w w' := by
  have b1 : Below w.heap.size w (w.alloc (.cells #[.string ⟨#[2]⟩, .string ⟨x.toArray⟩, .string ⟨y.toArray⟩] 9)) := (Below.refl _ w).alloc (Nat.le_refl _) _
  have h := sum_list w.heap.size [[2], x, y] (w.alloc (.cells #[.string ⟨#[2]⟩, .string ⟨x.toArray⟩, .string ⟨y.toArray⟩] 9)) (by simp) (by simp) (by simp; omega) (hT.below b1) (fun j u e => by
    rw [World.cell?_alloc_at _ _ _ _ rfl]
    match j, e with
    | 0, e => simp at e; simp [← e]
    | 1, e => simp at e; simp [← e]
    | 2, e => simp at e; simp [← e])
  simp only [List.flatten_cons, List.flatten_nil, List.append_nil, List.length_cons, List.length_nil, Nat.zero_add, List.cons_append, List.nil_append, Nat.reduceAdd] at h
  have h := Lib.hid h
  go_enter Tryd.func19, Tryd.ntmps19
  go_wp2_with fail
  refine h.out.mono ?_
  rintro e w1 ⟨rfl, b2⟩
  go_wp2_with fail
  go_ret
  exact ⟨rfl, b1.trans (b2.mono (by simp))⟩

theorem bitLen_pow (j x : Nat) (h1 : 2 ^ j ≤ x) (h2 : x < 2 ^ (j + 1)) (h3 : x < 2 ^ 64) : Lib.bitLen x = j + 1 := by
  rw [Lib.bitLen_shift j x h1 h3]
  have : x / 2 ^ j = 1 := by
    have hp : 0 < 2 ^ j := Nat.pow_pos (by omega)
    exact Nat.div_eq_of_lt_le (by omega) (by rw [Nat.pow_succ] at h2; omega)
  rw [this]; rfl
theorem bitLen_lf (n : Nat) (h : 2 ≤ n) (h3 : n ≤ 9223372036854775807) : ∃ j, Lib.bitLen (n - 1) = j + 1 ∧ lf n = 2 ^ j ∧ j ≤ 62 := by
  obtain ⟨j, e, h1, h2⟩ := lf_spec n h
  rw [e] at h1 h2
  refine ⟨j, bitLen_pow j (n - 1) (by omega) (by rw [Nat.pow_succ]; omega) (by omega), e, ?_⟩
  by_cases hj : j ≤ 62
  · exact hj
  · have : 2 ^ 63 ≤ 2 ^ j := Nat.pow_le_pow_right (by omega) (by omega)
    omega

theorem half_any (n : Nat) (w : World) (h : 2 ≤ n) (h3 : n ≤ 9223372036854775807) :
    Calls Tryd.prog 47 #[.int .i64 n] w fun e w' => e = .returned (.int .i64 (lf n)) ∧ w' = w := by
  obtain ⟨j, e1, e2, e3⟩ := bitLen_lf n h h3
  have hb := Tryd.bits_Len ((n : Int) - 1) w (by omega) (by omega)
  rw [show ((n : Int) - 1).toNat = n - 1 by omega, e1] at hb
  have e2 := Lib.hid e2
  have hb := Lib.hid hb
  go_enter Tryd.func47, Tryd.ntmps47
  go_wp2_with fail
  refine hb.out.mono ?_
  rintro e w1 ⟨rfl, rfl⟩
  go_wp2_with fail
  go_ret
  refine ⟨ret_int ?_, rfl⟩
  have hp : (2 : Int) ^ j ≤ 4611686018427387904 := by
    have h1 : 2 ^ j ≤ 2 ^ 62 := Nat.pow_le_pow_right (by omega) e3
    have h2 : ((2 ^ j : Nat) : Int) ≤ ((2 ^ 62 : Nat) : Int) := Int.ofNat_le.2 h1
    simpa using h2
  have hp0 : (0 : Int) ≤ (2 : Int) ^ j := Int.pow_nonneg (by omega)
  rw [IntWalk.wrap64_in _ ⟨by omega, by omega⟩, e2.out]
  simp

/-! ### Lists of strings in memory -/
/-- the strings l lie from b, o on -/
def Lie (W : World) (b o : Nat) (l : List Str) : Prop := ∀ j u, l[j]? = some u → W.cell? ⟨b, o + j, none⟩ = some (.string ⟨u.toArray⟩)
/-- v is a slice of the strings l -/
def SL (W : World) (v : Value) (l : List Str) : Prop :=
  (l = [] ∧ ∃ a c, v = .slice a 0 c) ∨ (l ≠ [] ∧ ∃ b o c, v = .slice (some ⟨b, o, none⟩) l.length c ∧ l.length ≤ c ∧ b < W.heap.size ∧ Lie W b o l)
theorem Lie.below {W W' : World} {b o : Nat} {l : List Str} (h : Lie W b o l) (hb : b < W.heap.size) (B : Below W.heap.size W W') : Lie W' b o l := fun j u e => by
  rw [B.cell (p := ⟨b, o + j, none⟩) hb]; exact h j u e
theorem SL.below {W W' : World} {v : Value} {l : List Str} (h : SL W v l) (B : Below W.heap.size W W') : SL W' v l := by
  rcases h with h | ⟨h1, b, o, c, h2, h3, h4, h5⟩
  · exact .inl h
  · exact .inr ⟨h1, b, o, c, h2, h3, Nat.lt_of_lt_of_le h4 B.size, h5.below h4 B⟩
/-- all strings have 32 bytes -/
def digB (l : List Str) : Bool := l.all fun u => decide (u.length = 32)
theorem digB_iff (l : List Str) : digB l = true ↔ ∀ x ∈ l, List.length x = 32 := by simp [digB]
theorem digB_take (l : List Str) (h : digB l = true) (k : Nat) (u : Str) (hk : l[k]? = some u) : u.length = 32 := (digB_iff l).1 h u (List.mem_of_getElem? hk)
theorem ret_bool {a b : Bool} (h : a = b) : Ending.returned (.bool a) = .returned (.bool b) := by rw [h]
theorem digB_false (l : List Str) (k : Nat) (hk : k < l.length) (h : l[k].length ≠ 32) : digB l = false := by
  rw [Bool.eq_false_iff]
  intro e
  exact h ((digB_iff l).1 e _ (List.getElem_mem hk))
theorem digB_all (l : List Str) (h : ∀ j (hj : j < l.length), l[j].length = 32) : digB l = true := by
  rw [digB_iff]
  intro x hx
  obtain ⟨j, hj, rfl⟩ := List.getElem_of_mem hx
  exact h j hj

set_option maxRecDepth 100000 in
theorem digests_any (v : Value) (l : List Str) (w : World) (hv : SL w v l) (hn : l.length ≤ 1000000) :
    Calls Tryd.prog 48 #[v] w fun e w' => e = .returned (.bool (digB l)) ∧ w' = w := by
  rcases hv with ⟨rfl, a, c, rfl⟩ | ⟨h1, b, o, c, rfl, h3, h4, hL⟩
  · go_enter Tryd.func48, Tryd.ntmps48
    go_wp2_with fail
    go_loop [7] (fun i => i = .int .i64 0) (fun _ => 0)
    case atStart => rfl
    case round =>
      obtain rfl := hrel
      go_wp2_with fail
      go_ret
      exact ⟨rfl, rfl⟩
  · obtain ⟨N, hN⟩ : ∃ N, Hid (N = l.length) := ⟨_, rfl⟩
    rw [← hN.out] at h3 hn ⊢
    have hL2 := Lib.hid hL
    clear hL h3 h4
    go_enter Tryd.func48, Tryd.ntmps48
    go_wp2_with fail
    go_loop [7] (fun i => ∃ k : Nat, k ≤ N ∧ i = .int .i64 k ∧ Hid (∀ j (hj : j < l.length), j < k → l[j].length = 32)) (fun i => N - (intOf i).toNat)
    case atStart => exact ⟨0, by omega, rfl, fun j hj h => by omega⟩
    case round =>
      obtain ⟨k, hk, rfl, hall⟩ := hrel
      by_cases hlt : k < N
      · have hlt2 : k < l.length := by rw [← hN.out]; exact hlt
        have ck := hL2.out k l[k] (List.getElem?_eq_getElem hlt2)
        by_cases h32 : l[k].length = 32
        · have hnew : Hid (∀ j (hj : j < l.length), j < k + 1 → l[j].length = 32) := fun j hj h => by
            by_cases e : j = k
            · subst e; exact h32
            · exact hall.out j hj (by omega)
          generalize l[k] = u at *
          go_wp2_with fail
          go_round
          case rel => exact ⟨k + 1, by omega, by go_num, hnew⟩
          case measure => simp [intOf]; omega
        · have hr := digB_false l k hlt2 h32
          generalize l[k] = u at *
          go_wp2_with fail
          go_ret
          exact ⟨rfl, rfl⟩
      · obtain rfl : k = N := by omega
        have hr := Lib.hid (digB_all l (fun j hj => hall.out j hj (by rw [hN.out]; exact hj)))
        go_wp2_with fail
        go_ret
        exact ⟨ret_bool hr.out.symm, rfl⟩
end Go.Proofs.YthdfadlniacdcaaDoor
