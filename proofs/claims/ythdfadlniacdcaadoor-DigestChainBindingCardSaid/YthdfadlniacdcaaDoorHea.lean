import Derived.Test.YthdfadlniacdcaaDoorHds
namespace Go.Proofs.YthdfadlniacdcaaDoor
open Go.RowKit
/-- the strings and the head of the first k records -/
def hK (l : List Str) (k : Nat) : List Str × Str := hR sha (l.take k).reverse
theorem hK_zero (l : List Str) : hK l 0 = ([], zero32) := rfl
theorem hK_succ (l : List Str) (k : Nat) (h : k < l.length) : hK l (k + 1) = ((2 :: ((hK l k).2 ++ l[k])) :: (hK l k).1, sha (2 :: ((hK l k).2 ++ l[k]))) := by
  unfold hK
  rw [List.take_succ_eq_append_getElem h, List.reverse_append]
  rfl
theorem hK_full (l : List Str) : hK l l.length = hR sha l.reverse := by rw [hK, List.take_length]
theorem hK_len2 (l : List Str) (k : Nat) : (hK l k).2.length = 32 := hR_len sha sha_len _
theorem hK_len1 (l : List Str) (k : Nat) (h : k ≤ l.length) : (hK l k).1.length = k := by rw [hK, hR_size]; simp; omega
def HeadPost (o : List Str × Str) (w : World) (e : Ending) (w' : World) : Prop := ∃ v, e = .returned (.tuple #[v, .string ⟨o.2.toArray⟩]) ∧ SL w' v o.1 ∧ Below w.heap.size w w'

set_option maxRecDepth 100000 in
set_option maxHeartbeats 1000000 in
theorem heads_any (v : Value) (l : List Str) (w : World) (hv : SL w v l) (hl : l.length ≤ 1000) (hu : ∀ u ∈ l, List.length u ≤ 1000) (hT : Tab w) :
    Calls Tryd.prog 36 #[v] w (HeadPost (hR sha l.reverse) w) := by
  obtain ⟨M, m1, m2⟩ := zero_run
  obtain ⟨N, hN⟩ : ∃ N, Hid (N = l.length) := ⟨_, rfl⟩
  obtain ⟨a, c, rfl⟩ := hv.shape
  rw [← hK_full]
  rw [← hN.out] at hl ⊢
  have hT2 := Lib.hid hT
  have hu2 := Lib.hid hu
  have hv2 := Lib.hid hv
  have cells := Lib.hid (show ∀ k (hk : k < l.length), ∃ b o, a = some ⟨b, o, none⟩ ∧ ∀ w', Below w.heap.size w w' → w'.cell? ⟨b, o + k, none⟩ = some (.string ⟨l[k].toArray⟩) from fun k hk => by
    obtain ⟨b, o, c', he, h1, h2, h3⟩ := hv.own (fun e => by rw [e] at hk; simp at hk)
    injection he with h4 h5 h6
    exact ⟨b, o, h4, fun w' B => (B.cell (p := ⟨b, o + k, none⟩) h2).trans (h3 k _ (List.getElem?_eq_getElem hk))⟩)
  have B1 : Below w.heap.size w (w.alloc (.cells M 5)) := (Below.refl _ w).alloc (Nat.le_refl _) _
  rw [← hN.out] at hv2
  clear hT hu hv
  go_enter Tryd.func36, Tryd.ntmps36
  go_wp2_with fail
  go_loopw [4, 5, 6] (fun hv ov iv wr => ∃ (k : Nat), k ≤ N ∧ iv = .int .i64 k ∧ hv = .string ⟨(hK l k).2.toArray⟩ ∧ SL wr ov (hK l k).1 ∧ Below w.heap.size w wr) (fun _ _ iv _ => N - (intOf iv).toNat)
  case atStart => exact ⟨0, by omega, rfl, by rw [hK_zero], by rw [hK_zero]; exact .inl ⟨rfl, _, _, rfl⟩, B1⟩
  case round =>
    obtain ⟨k, hk, rfl, rfl, hs, B⟩ := hrel
    by_cases hlt : k < N
    · have hkl : k < l.length := by rw [← hN.out]; exact hlt
      obtain ⟨b, o, rfl, hc⟩ := cells.out k hkl
      have hcw := hc wr B
      have hux := hu2.out _ (List.getElem_mem hkl)
      have h2 := hK_len2 l k
      have h1 := hK_len1 l k (by rw [← hN.out]; omega)
      have hS := Lib.hid (hK_succ l k hkl)
      generalize l[k] = x at *
      generalize hK l k = V at *
      obtain ⟨V1, h⟩ := V
      dsimp only at h1 h2 hs hS ⊢
      obtain ⟨v2, w2, r2, o2, b2⟩ := cons_run wr _ V1 _ _ (cat3 2 h x) hs (by omega)
      have B2 := B.trans (b2.mono B.size)
      have hc2 := hc w2 B2
      have hch := Lib.hid (Chain_any h x w2 (by omega) (by omega) (hT2.out.below B2))
      obtain ⟨a1, d1, rfl⟩ := hs.shape
      have i0 : (0 : Int) ≤ (k : Int) := by omega
      have i1 : (k : Int) < (N : Int) := by omega
      have hcwh := Lib.hid hcw
      clear hs
      go_wp2_with (at_builtin; refine wpList_append_run rfl (.tmp 22) (.tmp 23) 26 rfl (.slice (some ⟨wr.heap.size, 0, none⟩) 1 1) (.slice a1 V1.length d1) rfl rfl v2 w2 r2 ?_)
      refine hch.out.mono ?_
      rintro e w3 ⟨rfl, b3⟩
      go_wp2_with fail
      go_roundw
      case rel => exact ⟨k + 1, by omega, by go_num, by rw [hS.out], by rw [hS.out]; exact (own_SL o2).below b3, B2.trans (b3.mono B2.size)⟩
      case measure => simp [intOf]; omega
    · obtain rfl : k = N := by omega
      go_wp2_with fail
      go_ret2
      exact ⟨_, rfl, hs, B⟩
end Go.Proofs.YthdfadlniacdcaaDoor
