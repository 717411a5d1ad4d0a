import Derived.Test.YthdfadlniacdcaaDoorExu
namespace Go.Proofs.YthdfadlniacdcaaDoor
open Go.RowKit
theorem min_run (x m : Nat) (ts : Array TypeId) (t : TypeId) (w : World) (c : Int) (hc : c = m) : (Builtin.min_ ts t #[.int .i64 (x : Int), .int .i64 c]).run Tryd.prog w = .ok (.int .i64 ((min x m : Nat) : Int)) w := by
  rw [run_min_int2]
  subst hc
  congr 2
  split <;> omega
theorem ext_take (u : Str) (m : Nat) : (⟨u.toArray⟩ : ByteArray).extract 0 m = ⟨(u.take m).toArray⟩ := by
  apply ByteArray.ext
  apply Array.toList_inj.1
  simp
theorem ba_eta (s : ByteArray) : s = ⟨s.data.toList.toArray⟩ := by
  apply ByteArray.ext; simp
/-- an argument that reads as the texts l -/
def ArgS (W : World) (v : Value) (l : List Str) : Prop :=
  ∃ a c, v = .slice a l.length c ∧ l.length ≤ maxLen ∧ (∀ u ∈ l, List.length u ≤ maxLen) ∧ (l = [] ∨ ∃ b o, a = some ⟨b, o, none⟩ ∧ b < W.heap.size ∧ Lie W b o l)
theorem ArgS.below {W W' : World} {v : Value} {l : List Str} (h : ArgS W v l) (B : Below W.heap.size W W') : ArgS W' v l := by
  obtain ⟨a, c, h1, h2, h3, h4⟩ := h
  refine ⟨a, c, h1, h2, h3, ?_⟩
  rcases h4 with h | ⟨b, o, h5, h6, h7⟩
  · exact .inl h
  · exact .inr ⟨b, o, h5, Nat.lt_of_lt_of_le h6 B.size, h7.below h6 B⟩
/-- at most n texts, each cut to 60 bytes -/
def fewS (l : List Str) (n : Nat) : List Str := (l.take n).map (fun u => u.take 60)
theorem fewS_len (l : List Str) (n : Nat) : (fewS l n).length = min n l.length := by simp [fewS]
theorem fewS_small (l : List Str) (n : Nat) : ∀ u ∈ fewS l n, List.length u ≤ 60 := by
  intro u hu
  simp only [fewS, List.mem_map] at hu
  obtain ⟨x, _, rfl⟩ := hu
  simp; omega
theorem fewS_snoc (l : List Str) (i : Nat) (h : i < l.length) : fewS l (i + 1) = fewS l i ++ [l[i].take 60] := by
  rw [fewS, List.take_succ_eq_append_getElem h, List.map_append]; rfl

set_option maxRecDepth 100000 in
set_option maxHeartbeats 1000000 in
theorem few_any (v : Value) (l : List Str) (n : Nat) (w : World) (hv : ArgS w v l) (hn : n ≤ 1000) :
    Calls Tryd.prog 21 #[v, .int .i64 n] w (RowPost (fewS l n) w) := by
  obtain ⟨a, c, rfl, hm, hul, hL⟩ := hv
  unfold maxLen at hm
  obtain ⟨N, hN⟩ : ∃ N, Hid (N = l.length) := ⟨_, rfl⟩
  rw [← hN.out] at hm ⊢
  have hL2 := Lib.hid hL
  have hul2 := Lib.hid hul
  clear hL hul
  obtain ⟨f0, hf, hz0, hz1, hz2⟩ := info_parts info9
  go_enter Tryd.func21, Tryd.ntmps21
  go_wp2_with fail
  go_loopw [5, 6] (fun v iv wr => ∃ (i : Nat), i ≤ N ∧ i ≤ n ∧ iv = .int .i64 i ∧ OwnS wr w.heap.size v (fewS l i) ∧ Below w.heap.size w wr) (fun _ iv _ => N - (intOf iv).toNat)
  case atStart => exact ⟨0, by omega, by omega, rfl, World.ownsRow_nil _ _ _ _, Below.refl _ _⟩
  case round =>
    obtain ⟨i, hi, hin, rfl, hown, B⟩ := hrel
    by_cases hlt : i < N
    · by_cases hlt2 : i < n
      · have hil : i < l.length := by rw [← hN.out]; exact hlt
        obtain ⟨b, o, hab, hb, hLie⟩ : ∃ b o, a = some ⟨b, o, none⟩ ∧ b < w.heap.size ∧ Lie w b o l := by
          rcases hL2.out with h | h
          · rw [h] at hil; simp at hil
          · exact h
        subst hab
        have ci := (B.cell (p := ⟨b, o + i, none⟩) hb).trans (hLie i l[i] (List.getElem?_eq_getElem hil))
        have ui := hul2.out l[i] (List.getElem_mem hil)
        have hsn := Lib.hid (fewS_snoc l i hil)
        have hfl : (fewS l i).length ≤ 1000 := by rw [fewS_len]; omega
        generalize l[i] = u at *
        generalize fewS l i = p at *
        have hcut := ext_take u (min u.length 60)
        have hcut2 : u.take (min u.length 60) = u.take 60 := by
          rw [List.take_eq_take_iff]; omega
        rw [hcut2] at hcut
        obtain ⟨m, hm2, m1, m2⟩ : ∃ m, Hid (m = min u.length 60) ∧ m ≤ 60 ∧ m ≤ u.length := ⟨_, rfl, by omega, by omega⟩
        have r2 : ∀ ts ty w, (Builtin.min_ ts ty #[.int .i64 (u.length : Int), .int .i64 60]).run Tryd.prog w = .ok (.int .i64 (m : Int)) w := fun ts ty w => by rw [hm2.out]; exact min_run _ 60 _ _ _ _ rfl
        rw [← hm2.out] at hcut
        generalize u.take 60 = u6 at *
        clear hcut2 hLie
        unfold maxLen at ui
        have Bs := B.size
        have ag : u5.ownBlock ≠ some b := fun e => by have := (hown.lt b e).1; omega
        have bl : b < wr.heap.size := by omega
        have i0 : (0 : Int) ≤ (i : Int) := by omega
        have i1 : (i : Int) < (N : Int) := by omega
        have i2 : (0 : Int) ≤ (m : Int) := by omega
        have i3 : (m : Int) ≤ (u.length : Int) := by omega
        go_wp2_with fail
        go_region_held3 (fun w' => w'.cell? ⟨b, o + i, none⟩ = some (.string ⟨u.toArray⟩))
          (first | go_keep | (rw [hgrow.cell_far _ (by simp; omega) (Ne.symm ag)]; assumption))
          ((refine step_append_lies _ (by rfl) _ _ _ (by rfl) w.heap.size 9 f0 _ 1 16 Tryd.underlying26 hf hz0 hz1 hz2 rfl (by omega) u5 p.length (cT p) (by rfl) ((hown.alloc _).drew) ⟨wr.heap.size, 0, none⟩ 1 1 [.string ⟨u6.toArray⟩] (by rfl) (by rfl) (World.news_of_block (cs := #[.string ⟨u6.toArray⟩]) (t := 9) (fr := (0, 0)) (heap_alloc_new wr _)) (by simp [Value.oneCell']) (by omega) (by unfold maxLen; omega) (by omega) (by simp; omega) (wr.heap.size + 1) (by simp) ?_; intro gg cap w1 hown1 hgrow hat hlt2))
        go_wp2_with fail
        go_roundw
        case rel =>
          refine ⟨i + 1, by omega, by omega, by go_num, ?_, ((B.alloc Bs _).drew).grown hgrow (by simp; omega) (fun k hk => (hown.lt k hk).1)⟩
          rw [hsn.out]; exact own_snoc hown1
        case measure => simp [intOf]; omega
      · obtain rfl : i = n := by omega
        go_wp2_with fail
        go_ret
        exact ⟨_, rfl, hown, B⟩
    · obtain rfl : i = N := by omega
      have e : fewS l i = fewS l n := by unfold fewS; rw [List.take_of_length_le (by rw [← hN.out]; omega), List.take_of_length_le (by rw [← hN.out]; omega)]
      rw [e] at hown
      clear e
      go_wp2_with fail
      go_ret
      exact ⟨_, rfl, hown, B⟩
end Go.Proofs.YthdfadlniacdcaaDoor
