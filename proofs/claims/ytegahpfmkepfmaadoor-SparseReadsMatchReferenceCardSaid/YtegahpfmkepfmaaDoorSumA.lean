/- digest.Sum of one text. -/
import Derived.Test.YtegahpfmkepfmaaDoorSum
import Derived.Test.YtegahpfmkepfmaaDoorGen
import Derived.Test.YtegahpfmkepfmaaDoorWc
namespace Go.Proofs.YtegahpfmkepfmaaDoor
open Go.RowKit
theorem cat_toList (l : List (List UInt8)) : cat (l.map fun x => (⟨x.toArray⟩ : ByteArray)) = l.flatten := by
  induction l with
  | nil => rfl
  | cons a t ih =>
    rw [List.map_cons, List.flatten_cons, ← ih]
    simp [cat]

theorem sum_list (bp : Nat) (ls : List (List UInt8)) (w : World) (h1 : 1 ≤ ls.length) (hn : ls.length ≤ 1000) (hz : ls.flatten.length ≤ 100000000000000) (hT : Tab w)
    (hp : ∀ j u, ls[j]? = some u → w.cell? ⟨bp, j, none⟩ = some (.string ⟨u.toArray⟩)) :
    Calls Tryd.prog 60 #[.slice (some ⟨bp, 0, none⟩) ls.length ls.length] w fun e w' => e = .returned (.string ⟨(sha ls.flatten).toArray⟩) ∧ Below w.heap.size w w' := by
  have h := sum_any bp (ls.map fun x => (⟨x.toArray⟩ : ByteArray)) w (by simpa using h1) (by simpa using hn) (by rw [cat_toList]; exact hz) hT (fun j u e => by
    simp only [cS, List.map_map, List.getElem?_map, Option.map_eq_some_iff] at e
    obtain ⟨x, hx, rfl⟩ := e
    exact hp j x hx)
  rw [cat_toList, List.length_map] at h
  exact h

theorem Sum_any (l : List UInt8) (w : World) (hl : l.length ≤ 10000000000000) (hT : Tab w) :
    Calls Tryd.prog 35 #[.string ⟨l.toArray⟩] w fun e w' => e = .returned (.string ⟨(sha l).toArray⟩) ∧ Below w.heap.size w w' := by
  have b1 : Below w.heap.size w (w.alloc (.cells #[.string ⟨l.toArray⟩] 9)) := (Below.refl _ w).alloc (Nat.le_refl _) _
  have h := sum_list w.heap.size [l] (w.alloc (.cells #[.string ⟨l.toArray⟩] 9)) (by simp) (by simp) (by simp; omega) (hT.below b1) (fun j u e => by
    rw [World.cell?_alloc_at _ _ _ _ rfl]
    match j, e with
    | 0, e => simp at e; simp [e])
  simp only [List.flatten_cons, List.flatten_nil, List.append_nil, List.length_cons, List.length_nil, Nat.zero_add] at h
  have h := Lib.hid h
  go_enter Tryd.func35, Tryd.ntmps35
  go_wp2_with fail
  refine h.out.mono ?_
  rintro e w1 ⟨rfl, b2⟩
  go_wp2_with fail
  go_ret
  exact ⟨rfl, b1.trans (b2.mono (by simp))⟩

/-! the digests of leaves and nodes -/
theorem putL_key (k : Nat) (h : k < 64) : Wr.putL (k : Int) = [UInt8.ofNat (2 * k)] := by
  have : ∀ m : Fin 64, Wr.putL ((m.1 : Nat) : Int) = [UInt8.ofNat (2 * m.1)] := by decide +kernel
  exact this ⟨k, h⟩
theorem zero32_ba : (⟨zero32.toArray⟩ : ByteArray) = ⟨#[0, 0, 0, 0, 0, 0, 0, 0, 0, 0, 0, 0, 0, 0, 0, 0, 0, 0, 0, 0, 0, 0, 0, 0, 0, 0, 0, 0, 0, 0, 0, 0]⟩ := rfl
theorem sum_sha (l : Str) (w : World) (hl : l.length ≤ 10000000000000) (hT : Tab w) : Calls Tryd.prog 35 #[.string ⟨l.toArray⟩] w fun e w' => e = .returned (.string ⟨(sha l).toArray⟩) ∧ Below w.heap.size w w' := Sum_any l w hl hT

set_option maxRecDepth 100000 in
set_option maxHeartbeats 1000000 in
theorem leaf_any (k : Nat) (s : Str) (w : World) (hk : k < 64) (hs : s.length ≤ 1000000000) (hT : Tab w) :
    Calls Tryd.prog 61 #[.int .i64 k, .string ⟨s.toArray⟩] w fun e w' => e = .returned (.string ⟨(leafD sha k s).toArray⟩) ∧ Below w.heap.size w w' := by
  have h1 := Lib.hid (Wr.PutInt_any (k : Int) w (by omega) (by omega))
  have h2 := Lib.hid (fun w' (B : Below w.heap.size w w') => sum_sha (leafT k s) w' (by simp [leafT]; omega) (hT.below B))
  rw [putL_key k hk] at h1
  by_cases h : s = []
  · subst h
    have hr : leafD sha k [] = zero32 := rfl
    rw [hr, zero32_ba]
    clear hr h1 h2
    go_enter Tryd.func61, Tryd.ntmps61
    go_wp2_with fail
    go_ret
    exact ⟨rfl, Below.refl _ _⟩
  · have hr : leafD sha k s = sha (leafT k s) := by rw [leafD, if_neg h]
    have t1 : s.isEmpty = false := by cases s <;> simp_all
    rw [hr]
    unfold leafT at h2 ⊢
    generalize UInt8.ofNat (2 * k) = c at *
    generalize sha (8 :: c :: s) = r at *
    have hcat : Hid ((({ data := #[8] } : ByteArray) ++ { data := #[c] } ++ { data := List.toArray s }) = ⟨(8 :: c :: s).toArray⟩) := by
      show _ = _
      apply ByteArray.ext; simp
    clear hr h
    go_enter Tryd.func61, Tryd.ntmps61
    go_wp2_with fail
    refine h1.out.mono ?_
    rintro e w1 ⟨rfl, b1⟩
    go_wp2_with fail
    rw [hcat.out]
    refine (h2.out _ b1).mono ?_
    rintro e w2 ⟨rfl, b2⟩
    go_wp2_with fail
    go_ret
    exact ⟨rfl, b1.trans (b2.mono b1.size)⟩

set_option maxRecDepth 100000 in
set_option maxHeartbeats 1000000 in
theorem node_any (a b : Str) (w : World) (ha : a.length ≤ 1000000000) (hb : b.length ≤ 1000000000) (hT : Tab w) :
    Calls Tryd.prog 62 #[.string ⟨a.toArray⟩, .string ⟨b.toArray⟩] w fun e w' => e = .returned (.string ⟨(nodeD sha a b).toArray⟩) ∧ Below w.heap.size w w' := by
  have h2 := Lib.hid (fun w' (B : Below w.heap.size w w') => sum_sha (9 :: (a ++ b)) w' (by simp; omega) (hT.below B))
  have hcat : ∀ a b : Str, Hid ((({ data := #[9] } : ByteArray) ++ { data := List.toArray a } ++ { data := List.toArray b }) = ⟨(9 :: (a ++ b)).toArray⟩) := fun a b => by
    show _ = _
    apply ByteArray.ext; simp
  by_cases hA : a = [0, 0, 0, 0, 0, 0, 0, 0, 0, 0, 0, 0, 0, 0, 0, 0, 0, 0, 0, 0, 0, 0, 0, 0, 0, 0, 0, 0, 0, 0, 0, 0]
  · by_cases hB : b = [0, 0, 0, 0, 0, 0, 0, 0, 0, 0, 0, 0, 0, 0, 0, 0, 0, 0, 0, 0, 0, 0, 0, 0, 0, 0, 0, 0, 0, 0, 0, 0]
    · have hr : nodeD sha a b = zero32 := by rw [nodeD, if_pos ⟨hA, hB⟩]
      rw [hr, zero32_ba]
      subst hA hB
      have t1 : (([0, 0, 0, 0, 0, 0, 0, 0, 0, 0, 0, 0, 0, 0, 0, 0, 0, 0, 0, 0, 0, 0, 0, 0, 0, 0, 0, 0, 0, 0, 0, 0] : Str) == [0, 0, 0, 0, 0, 0, 0, 0, 0, 0, 0, 0, 0, 0, 0, 0, 0, 0, 0, 0, 0, 0, 0, 0, 0, 0, 0, 0, 0, 0, 0, 0]) = true := rfl
      clear hr h2 hcat
      go_enter Tryd.func62, Tryd.ntmps62
      go_wp2_with fail
      go_ret
      exact ⟨rfl, Below.refl _ _⟩
    · have hr : nodeD sha a b = sha (9 :: (a ++ b)) := by rw [nodeD, if_neg (fun e => hB e.2)]
      have t2 : (b == [0, 0, 0, 0, 0, 0, 0, 0, 0, 0, 0, 0, 0, 0, 0, 0, 0, 0, 0, 0, 0, 0, 0, 0, 0, 0, 0, 0, 0, 0, 0, 0]) = false := by rw [beq_eq_false_iff_ne]; exact hB
      have hc := hcat a b
      rw [hr]
      generalize sha (9 :: (a ++ b)) = r at *
      subst hA
      have t1 : (([0, 0, 0, 0, 0, 0, 0, 0, 0, 0, 0, 0, 0, 0, 0, 0, 0, 0, 0, 0, 0, 0, 0, 0, 0, 0, 0, 0, 0, 0, 0, 0] : Str) == [0, 0, 0, 0, 0, 0, 0, 0, 0, 0, 0, 0, 0, 0, 0, 0, 0, 0, 0, 0, 0, 0, 0, 0, 0, 0, 0, 0, 0, 0, 0, 0]) = true := rfl
      clear hr hcat hB
      go_enter Tryd.func62, Tryd.ntmps62
      go_wp2_with fail
      rw [hc.out]
      refine (h2.out _ (Below.refl _ _)).mono ?_
      rintro e w2 ⟨rfl, b2⟩
      go_wp2_with fail
      go_ret
      exact ⟨rfl, b2⟩
  · have hr : nodeD sha a b = sha (9 :: (a ++ b)) := by rw [nodeD, if_neg (fun e => hA e.1)]
    have hc := hcat a b
    rw [hr]
    generalize sha (9 :: (a ++ b)) = r at *
    have t1 : (a == [0, 0, 0, 0, 0, 0, 0, 0, 0, 0, 0, 0, 0, 0, 0, 0, 0, 0, 0, 0, 0, 0, 0, 0, 0, 0, 0, 0, 0, 0, 0, 0]) = false := by rw [beq_eq_false_iff_ne]; exact hA
    clear hr hcat
    go_enter Tryd.func62, Tryd.ntmps62
    go_wp2_with fail
    rw [hc.out]
    refine (h2.out _ (Below.refl _ _)).mono ?_
    rintro e w2 ⟨rfl, b2⟩
    go_wp2_with fail
    go_ret
    exact ⟨rfl, b2⟩
end Go.Proofs.YtegahpfmkepfmaaDoor
