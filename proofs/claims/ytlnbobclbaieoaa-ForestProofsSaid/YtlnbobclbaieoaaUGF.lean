/- Contracts and facts. -/
import Derived.Deep.LoopGhost
import Derived.Handy
import Derived.WalkMore
import Derived.BigRegion
import Derived.Laws.EntriesVeiled
import Derived.Test.YtlnbobclbaieoaaUGE
set_option linter.unusedSimpArgs false
set_option maxRecDepth 100000
set_option maxHeartbeats 4000000
namespace Go.Proofs.Ytlnbobclbaieoaa
open Go.RowKit
theorem pick59_any (c n : Int) (w : World) (h1 : -9223372036854775808 ≤ c) (h2 : c ≤ 9223372036854775807) (h3 : 1 ≤ n) (h4 : n ≤ 9223372036854775807) :
    Calls Try.prog 59 #[.int .i64 c, .int .i64 n] w fun e w' => e = .returned (.int .i64 (pk c n)) ∧ w = w' := by
  by_cases h : c < 0
  · go_enter Try.func59, Try.ntmps59
    go_wp2
    go_ret
    exact ⟨ret_int (by rw [pk, if_pos h, ← Int.neg_tmod]; exact Int.tmod_eq_emod_of_nonneg (by omega)), rfl⟩
  · go_enter Try.func59, Try.ntmps59
    go_wp2
    go_ret
    exact ⟨ret_int (by rw [pk, if_neg (by omega)]), rfl⟩
theorem pick9_any (c n : Int) (w : World) (h1 : -9223372036854775808 ≤ c) (h2 : c ≤ 9223372036854775807) (h3 : 1 ≤ n) (h4 : n ≤ 9223372036854775807) :
    Calls Try.prog 9 #[.int .i64 c, .int .i64 n] w fun e w' => e = .returned (.int .i64 (pk c n)) ∧ w = w' := by
  by_cases h : c < 0
  · go_enter Try.func9, Try.ntmps9
    go_wp2
    go_ret
    exact ⟨ret_int (by rw [pk, if_pos h, ← Int.neg_tmod]; exact Int.tmod_eq_emod_of_nonneg (by omega)), rfl⟩
  · go_enter Try.func9, Try.ntmps9
    go_wp2
    go_ret
    exact ⟨ret_int (by rw [pk, if_neg (by omega)]), rfl⟩
theorem OtherR_any (e : Ed) (i : Int) (w : World) :
    Calls Try.prog 51 #[e.val, .int .i64 i] w fun r w' => r = .returned (.int .i64 (otherI e i)) ∧ Below w.heap.size w w' := by
  have B1 : Below w.heap.size w (w.alloc (.cells (edCells e) 40)) := (Below.refl _ w).alloc (Nat.le_refl _) _
  have hE0 : EdAt (w.alloc (.cells (edCells e) 40)) w.heap.size 0 e := EdAt.box w e 40
  obtain ⟨d0, d1, d2, d3, d4, d5⟩ := hE0
  simp only [Nat.zero_add] at d0 d1 d2 d3 d4 d5
  unfold edCells at d0 d1 d2 d3 d4 d5 B1
  unfold Ed.val
  by_cases h1 : e.src = i
  · have hr : otherI e i = e.dst := by unfold otherI; rw [if_pos h1]
    go_enter Try.func51, Try.ntmps51
    go_wp2_with fail
    go_ret
    exact ⟨ret_int hr.symm, (Below.refl _ w).alloc (Nat.le_refl _) _⟩
  · by_cases h2 : e.dst = i
    · have hr : otherI e i = e.src := by unfold otherI; rw [if_neg h1, if_pos h2]
      go_enter Try.func51, Try.ntmps51
      go_wp2_with fail
      go_ret
      exact ⟨ret_int hr.symm, (Below.refl _ w).alloc (Nat.le_refl _) _⟩
    · have hr : otherI e i = -1 := by unfold otherI; rw [if_neg h1, if_neg h2]
      go_enter Try.func51, Try.ntmps51
      go_wp2_with fail
      go_ret
      exact ⟨ret_int hr.symm, (Below.refl _ w).alloc (Nat.le_refl _) _⟩
def exG : Gr := ⟨[⟨0, 0⟩, ⟨1, 0⟩, ⟨2, 0⟩, ⟨3, 0⟩, ⟨5, 0⟩], [⟨0, 2, 1, false, 0, 0⟩, ⟨4, 1, 3, false, 0, 0⟩, ⟨6, 3, 2, false, 0, 0⟩, ⟨7, 5, 5, false, 0, 0⟩], []⟩
theorem three_alloc (w : World) (A B C : Obj) : (((w.alloc A).alloc B).alloc C).heap[w.heap.size]? = some A ∧ (((w.alloc A).alloc B).alloc C).heap[w.heap.size + 1]? = some B ∧ (((w.alloc A).alloc B).alloc C).heap[w.heap.size + 1 + 1]? = some C ∧ (((w.alloc A).alloc B).alloc C).heap.size = w.heap.size + 3 ∧ Below w.heap.size w (((w.alloc A).alloc B).alloc C) := by
  have s1 : (w.alloc A).heap.size = w.heap.size + 1 := by simp
  have s2 : ((w.alloc A).alloc B).heap.size = w.heap.size + 1 + 1 := by simp
  have a := World.alloc_heap_new w A
  have b := World.alloc_heap_new (w.alloc A) B
  have c := World.alloc_heap_new ((w.alloc A).alloc B) C
  rw [s1] at b
  rw [s2] at c
  refine ⟨((Below.heap_alloc _ C _ (by omega)).trans (Below.heap_alloc _ B _ (by omega))).trans a, (Below.heap_alloc _ C _ (by omega)).trans b, c, by simp, (((Below.refl _ w).alloc (Nat.le_refl _) _).alloc (by omega) _).alloc (by omega) _⟩
theorem exG_at {W : World} {p q : Nat} (hp : W.heap[p]? = some (.cells #[.int .i64 0, .int .i64 0, .int .i64 1, .int .i64 0, .int .i64 2, .int .i64 0, .int .i64 3, .int .i64 0, .int .i64 5, .int .i64 0] 31 (0, 0)))
    (hq : W.heap[q]? = some (.cells #[.int .i64 0, .int .i64 2, .int .i64 1, .bool false, .int .i64 0, .int .i64 0, .int .i64 4, .int .i64 1, .int .i64 3, .bool false, .int .i64 0, .int .i64 0, .int .i64 6, .int .i64 3, .int .i64 2, .bool false, .int .i64 0, .int .i64 0, .int .i64 7, .int .i64 5, .int .i64 5, .bool false, .int .i64 0, .int .i64 0] 40 (0, 0))) :
    GV W (.agg #[.slice (some ⟨p, 0, none⟩) 5 5, .slice (some ⟨q, 0, none⟩) 4 4, .slice none 0 0]) exG := by
  refine ⟨_, _, _, rfl, .inr ⟨by unfold exG; simp, p, 0, 5, rfl, by unfold exG; simp, (Array.getElem?_eq_some_iff.1 hp).1, fun j v hj => ?_⟩, .inr ⟨by unfold exG; simp, q, 0, 4, rfl, by unfold exG; simp, (Array.getElem?_eq_some_iff.1 hq).1, fun j v hj => ?_⟩, .inl ⟨rfl, _, _, rfl⟩⟩
  · unfold exG at hj
    rcases j with _ | _ | _ | _ | _ | j <;> simp at hj <;> subst hj <;> exact ⟨by rw [cell_of_row _ _ _ _ _ _ hp]; rfl, by rw [cell_of_row _ _ _ _ _ _ hp]; rfl⟩
  · unfold exG at hj
    rcases j with _ | _ | _ | _ | j <;> simp at hj <;> subst hj <;> exact ⟨by rw [cell_of_row _ _ _ _ _ _ hq]; rfl, by rw [cell_of_row _ _ _ _ _ _ hq]; rfl, by rw [cell_of_row _ _ _ _ _ _ hq]; rfl, by rw [cell_of_row _ _ _ _ _ _ hq]; rfl, by rw [cell_of_row _ _ _ _ _ _ hq]; rfl, by rw [cell_of_row _ _ _ _ _ _ hq]; rfl⟩
theorem example_any (w : World) : Calls Try.prog 35 #[] w fun e w' => ∃ r, e = .returned r ∧ GV w' r exG ∧ Below w.heap.size w w' := by
  go_enter Try.func35, Try.ntmps35
  go_wp2_with fail
  obtain ⟨k0, k1, k2, k3, k4⟩ := three_alloc w (.cells #[.slice (some ⟨w.heap.size + 1, 0, none⟩) 5 5, .slice (some ⟨w.heap.size + 1 + 1, 0, none⟩) 4 4, .slice none 0 0] 28) (.cells #[.int .i64 0, .int .i64 0, .int .i64 1, .int .i64 0, .int .i64 2, .int .i64 0, .int .i64 3, .int .i64 0, .int .i64 5, .int .i64 0] 31) (.cells #[.int .i64 0, .int .i64 2, .int .i64 1, .bool false, .int .i64 0, .int .i64 0, .int .i64 4, .int .i64 1, .int .i64 3, .bool false, .int .i64 0, .int .i64 0, .int .i64 6, .int .i64 3, .int .i64 2, .bool false, .int .i64 0, .int .i64 0, .int .i64 7, .int .i64 5, .int .i64 5, .bool false, .int .i64 0, .int .i64 0] 40)
  refine bodyPost_ret (v := _) (results_cell_row (fn := Try.f35) rfl _ _ w.heap.size 28 #[.slice (some ⟨w.heap.size + 1, 0, none⟩) 5 5, .slice (some ⟨w.heap.size + 1 + 1, 0, none⟩) 4 4, .slice none 0 0] (0, 0) _ rfl k0 Try.underlying28 rfl (size26b _ _ _)) rfl ?_
  exact ⟨_, rfl, exG_at k1 k2, k4⟩

end Go.Proofs.Ytlnbobclbaieoaa
