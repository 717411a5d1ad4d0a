import Derived.Test.YtegahpfmkepfmaaDoorMix
import Derived.Lib.AppendZerosOnto
import Derived.Lib.SliceRun
namespace Go.Proofs.YtegahpfmkepfmaaDoor
open Go.RowKit
theorem info9 : (Tryd.prog.info? 9).map (fun i => (i.zero, i.size, i.bytes)) = some (some (.string ⟨#[]⟩), 1, 16) := by kernel_rfl

set_option maxRecDepth 100000 in
theorem Grow_any (n : Nat) (w : World) (h1 : 1 ≤ n) (hn : n ≤ 1000000) :
    Calls Tryd.prog 91 #[.slice none 0 0, .int .i64 n] w fun e w' => ∃ G, e = .returned (.slice (some ⟨w.heap.size, 0, none⟩) 0 G) ∧ Below w.heap.size w w' ∧ w'.ownsRow w.heap.size 9 1 (.slice (some ⟨w.heap.size, 0, none⟩) 0 G) 0 [] := by
  obtain ⟨i0, hi, hz0, hz1, hz2⟩ := info_parts info9
  have hrz : ∀ ty, (Builtin.append_ #[35, 3] ty #[.slice none 0 0, .int .i64 (n : Int)]).run Tryd.prog w =
      .ok (.slice (some ⟨w.heap.size, 0, none⟩) (0 + n) (grownCap w (0 + n) 0 9)) (w.drew.alloc (.cells ((([] : List Value)).toArray ++ Builtin.zeroCells (Value.string ⟨#[]⟩).cells n ++ Builtin.zeroCells (Value.string ⟨#[]⟩).cells (grownCap w (0 + n) 0 9 - (0 + n))) 9)) := fun ty => by
    refine Lib.run_append_grow_zeros w 35 3 ty 9 i0 (.string ⟨#[]⟩) .i64 .i64 Tryd.underlying35 Tryd.underlying3 hi hz0 none 0 0 [] (run_firstCells_none w.drew i0.size 0 0 0) n (by omega) (by omega) (by omega) (by omega) ?_ ?_
    · rw [hz2]; omega
    · exact growslice_fits (by omega) (by rw [hz2]; omega)
  have hGn : 0 + n ≤ grownCap w (0 + n) 0 9 := grownCap_ge w _ _ _
  have hG63 := grownCap_le_maxLen w (0 + n) 0 9 (by unfold maxLen; omega)
  generalize grownCap w (0 + n) 0 9 = G at *
  go_enter Tryd.func91, Tryd.ntmps91
  go_wp2_with (at_builtin; refine Lib.wpList_append_run _ rfl _ _ _ _ rfl _ _ rfl rfl _ _ (hrz _) ?_)
  go_ret
  refine ⟨G, rfl, ((Below.refl _ w).drew.alloc (by simp) _), ?_⟩
  have hs : (Builtin.zeroCells #[Value.string ⟨#[]⟩] n ++ Builtin.zeroCells #[Value.string ⟨#[]⟩] (G - n)).size = G * 1 := by
    simp [Builtin.zeroCells]; omega
  exact World.ownsRow_made (w := w.drew) (e := 9) (size := 1) (base := w.heap.size) _ G (Nat.le_refl _) hG63 hs
/-- the cells of strings -/
def cS (l : List ByteArray) : List Value := l.map Value.string
/-- what the first i of the two lists hold -/
def two (ss : List ByteArray) (t : ByteArray) : Nat → List ByteArray
  | 0 => []
  | 1 => ss
  | _ => ss ++ [t]
theorem add_b (b j : Nat) : (Addr.add ⟨b, 0, none⟩ j) = ⟨b, j, none⟩ := by
  unfold Addr.add
  split
  · rename_i e; rw [e]
  · simp
theorem cS_one (l : List ByteArray) : ∀ u ∈ cS l, u.oneCell' = true := by
  intro u hu
  obtain ⟨s, _, rfl⟩ := List.mem_map.1 hu
  rfl

def szs (n : Nat) : Nat → Nat
  | 0 => 0
  | 1 => n
  | _ => n + 1
def CatPost (ss : List ByteArray) (t : ByteArray) (w : World) (e : Ending) (w' : World) : Prop :=
  ∃ g cap, e = .returned (.slice (some ⟨g, 0, none⟩) (ss.length + 1) cap) ∧ w.heap.size ≤ g ∧ (∀ j u, (cS (ss ++ [t]))[j]? = some u → w'.cell? ⟨g, j, none⟩ = some u) ∧ Below w.heap.size w w'

set_option maxRecDepth 100000 in
set_option maxHeartbeats 1000000 in
theorem Concat_any (bo bp bq : Nat) (ss : List ByteArray) (t : ByteArray) (w : World) (h1 : 1 ≤ ss.length) (hn : ss.length ≤ 100000)
    (ho0 : w.cell? ⟨bo, 0, none⟩ = some (.slice (some ⟨bp, 0, none⟩) ss.length ss.length)) (ho1 : w.cell? ⟨bo, 1, none⟩ = some (.slice (some ⟨bq, 0, none⟩) 1 1))
    (hp : ∀ j u, (cS ss)[j]? = some u → w.cell? ⟨bp, j, none⟩ = some u) (hq : w.cell? ⟨bq, 0, none⟩ = some (.string t)) :
    Calls Tryd.prog 80 #[.slice (some ⟨bo, 0, none⟩) 2 2] w (CatPost ss t w) := by
  obtain ⟨i0, hi, hz0, hz1, hz2⟩ := info_parts info9
  have bo_lt : bo < w.heap.size := World.block_lt_of_cell? w _ ho0
  have bq_lt : bq < w.heap.size := World.block_lt_of_cell? w _ hq
  have bp_lt : bp < w.heap.size := World.block_lt_of_cell? w ⟨bp, 0, none⟩ (hp 0 _ (List.getElem?_eq_getElem (by simp [cS]; omega)))
  obtain ⟨n, hnn⟩ : ∃ n, Hid (n = ss.length) := ⟨_, rfl⟩
  have hL : Hid (CatPost ss t w = CatPost ss t w) := rfl
  rw [← hnn.out] at ho0 h1 hn
  have hp := Lib.hid hp
  rename_i hpo
  clear hpo
  have ho0 := Lib.hid ho0
  have ho1 := Lib.hid ho1
  have hq := Lib.hid hq
  rename_i ho0o ho1o hqo
  have g0 := ho0.out
  have g1 := ho1.out
  go_enter Tryd.func80, Tryd.ntmps80
  go_wp2_with fail
  go_loop [3, 11] (fun s v => ∃ i m : Nat, i ≤ 2 ∧ v = .int .i64 i ∧ s = .int .i64 m ∧ Hid (m = szs n i)) (fun _ v => 2 - (intOf v).toNat)
  case atStart => exact ⟨0, 0, by omega, rfl, rfl, rfl⟩
  case round =>
    obtain ⟨i, m, hi2, rfl, rfl, hm⟩ := hrel
    by_cases h0 : i = 0
    · obtain rfl : i = 0 := h0
      obtain rfl : m = 0 := hm.out
      go_wp2_with fail
      go_round
      case rel => exact ⟨1, n, by omega, by go_num, by simp, rfl⟩
      case measure => simp [intOf]
    · by_cases h1 : i = 1
      · obtain rfl : i = 1 := h1
        obtain rfl : n = m := hm.out.symm
        go_wp2_with fail
        go_round
        case rel => exact ⟨2, n + 1, by omega, by go_num, by go_num, rfl⟩
        case measure => simp [intOf]
      · obtain rfl : i = 2 := by omega
        obtain rfl : m = n + 1 := hm.out
        clear h0 h1
        rename_i h1
        go_wp2_with fail
        have hG := Grow_any (n + 1) w (by omega) (by omega)
        rw [Int.natCast_add] at hG
        refine hG.mono ?_
        rintro e w1 ⟨G, rfl, B1, hown1⟩
        have k0 := (B1.cell (p := ⟨bo, 0, none⟩) bo_lt).trans ho0.out
        have k1 := (B1.cell (p := ⟨bo, 1, none⟩) bo_lt).trans ho1.out
        clear g0 g1 hG
        go_wp2_with fail
        go_loopw [6, 27] (fun v iv wr => ∃ (i : Nat) , i ≤ 2 ∧ iv = .int .i64 i ∧ wr.ownsRow w.heap.size 9 1 v (szs n i) (cS (two ss t i)) ∧ Below w.heap.size w wr) (fun _ v _ => 2 - (intOf v).toNat)
        case atStart => exact ⟨0, by omega, rfl, hown1, B1⟩
        case round =>
          obtain ⟨i, hi2, rfl, hown, B⟩ := hrel
          have Bs := B.size
          by_cases h0 : i = 0
          · obtain rfl : i = 0 := h0
            have k0 := (B.cell (p := ⟨bo, 0, none⟩) bo_lt).trans ho0.out
            have hc : ∀ j u, (cS ss)[j]? = some u → wr.cell? (Addr.add ⟨bp, 0, none⟩ j) = some u := fun j u h => by
              rw [add_b, B.cell (p := ⟨bp, j, none⟩) bp_lt]; exact hp.out j u h
            have hl : (cS ss).length = n * 1 := by simp [cS, hnn.out]
            have hc := Lib.hid hc
            have hl := Lib.hid hl
            rename_i hco hlo
            clear hco hlo
            go_wp2_with (at_builtin; refine wpList_append_own _ rfl _ _ 35 rfl w.heap.size 9 i0 _ 1 16 Tryd.underlying35 hi hz0 hz1 hz2 rfl (by decide) _ _ _ rfl hown ⟨bp, 0, none⟩ n n (cS ss) rfl hl.out hc.out (cS_one _) ?c3 ?c4 ?c5 ?_)
            case c3 => (simp only [szs]; unfold maxLen; omega)
            case c4 => (simp only [szs]; omega)
            case c5 => exact Bs
            intro v' w2 hown2 hgrow _
            have hown3 : w2.ownsRow w.heap.size 9 1 v' (szs n 1) (cS (two ss t 1)) := by
              have e1 : szs n 0 + n = szs n 1 := by simp [szs]
              have e2 : cS (two ss t 0) ++ cS ss = cS (two ss t 1) := by simp [two, cS]
              rw [e1, e2] at hown2; exact hown2
            have B2 := B.grown hgrow Bs (fun k hk => (hown.lt k hk).1)
            clear hown2
            go_wp2_with fail
            go_roundw
            case rel => exact ⟨1, by omega, by go_num, hown3, B2⟩
            case measure => simp [intOf]
          · by_cases h1 : i = 1
            · obtain rfl : i = 1 := h1
              have k1 := (B.cell (p := ⟨bo, 1, none⟩) bo_lt).trans ho1.out
              have hc : ∀ j u, (cS [t])[j]? = some u → wr.cell? (Addr.add ⟨bq, 0, none⟩ j) = some u := fun j u h => by
                obtain rfl : j = 0 := by
                  by_cases e : j = 0
                  · exact e
                  · rw [List.getElem?_eq_none (by simp [cS]; omega)] at h; cases h
                rw [add_b, B.cell (p := ⟨bq, 0, none⟩) bq_lt, hq.out]; simpa [cS] using h
              have hc := Lib.hid hc
              rename_i hco
              clear hco
              go_wp2_with (at_builtin; refine wpList_append_own _ rfl _ _ 35 rfl w.heap.size 9 i0 _ 1 16 Tryd.underlying35 hi hz0 hz1 hz2 rfl (by decide) _ _ _ rfl hown ⟨bq, 0, none⟩ 1 1 (cS [t]) rfl rfl hc.out (cS_one _) ?c3 ?c4 ?c5 ?_)
              case c3 => (simp only [szs]; unfold maxLen; omega)
              case c4 => (simp only [szs]; omega)
              case c5 => exact Bs
              intro v' w2 hown2 hgrow _
              have hown3 : w2.ownsRow w.heap.size 9 1 v' (szs n 2) (cS (two ss t 2)) := by
                have e1 : szs n 1 + 1 = szs n 2 := by simp [szs]
                have e2 : cS (two ss t 1) ++ cS [t] = cS (two ss t 2) := by simp [two, cS]
                rw [e1, e2] at hown2; exact hown2
              have B2 := B.grown hgrow Bs (fun k hk => (hown.lt k hk).1)
              clear hown2
              go_wp2_with fail
              go_roundw
              case rel => exact ⟨2, by omega, by go_num, hown3, B2⟩
              case measure => simp [intOf]
            · obtain rfl : i = 2 := by omega
              have hown3 := Lib.hid hown
              clear hown
              obtain ⟨g, cap, rfl⟩ : ∃ g cap, u6 = .slice (some ⟨g, 0, none⟩) (n + 1) cap := ownsRow_succ hown3.out
              go_wp2_with fail
              go_ret
              refine ⟨g, cap, by rw [← hnn.out]; rfl, (hown3.out.lt g rfl).1, ?_, B⟩
              intro j u hj
              have := hown3.out.cellAt
              have hlt : j < (cS (ss ++ [t])).length := by
                by_cases e : j < (cS (ss ++ [t])).length
                · exact e
                · rw [List.getElem?_eq_none (by omega)] at hj; cases hj
              have hlen : (cS (ss ++ [t])).length = n + 1 := by simp [cS, hnn.out]
              rw [this j (by omega)]
              exact hj
end Go.Proofs.YtegahpfmkepfmaaDoor
