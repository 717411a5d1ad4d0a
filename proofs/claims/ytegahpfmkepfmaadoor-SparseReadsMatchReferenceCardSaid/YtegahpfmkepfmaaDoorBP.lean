/- The reference's closed and Prove, its equality of lists of strings; the program's Prove where it refuses. -/
import Derived.Test.YtegahpfmkepfmaaDoorBK
import Derived.Test.YtegahpfmkepfmaaDoorBR
import Derived.Test.YtegahpfmkepfmaaDoorSk
import Derived.Test.YtegahpfmkepfmaaDoorEq
import Derived.Test.YtegahpfmkepfmaaDoorPr
import Derived.Deep.QuietTactic
import Derived.BigQuiet
import Derived.Test.YtegahpfmkepfmaaDoorHel
namespace Go.Proofs.YtegahpfmkepfmaaDoor
open Go.RowKit
def RowS (l : List Str) (w : World) (e : Ending) (w' : World) : Prop := ∃ v, e = .returned v ∧ OS w' w.heap.size v l ∧ Below w.heap.size w w'
theorem clF_size2 (ks : List Nat) (h i : Nat) (h6 : h ≤ 6) : (clF ks h i).length ≤ 64 := by
 have h1 := clF_size ks h i
 have h2 : 2 ^ h ≤ 2 ^ 6 := Nat.pow_le_pow_right (by omega) h6
 omega

set_option maxRecDepth 100000 in
set_option maxHeartbeats 4000000 in
theorem closedR_any (vl vk : Value) (l : List Ent) (ks : List Int) (W0 : World) (hl : SE W0 vl l) (hm : Mp l) (hvk : SI W0 vk ks) (hk : ∀ k ∈ ks, 0 ≤ k ∧ k < 64) (hn : ks.length ≤ 140737488351232) :
  ∀ h : Nat, h ≤ 6 → ∀ (i low : Nat) (w : World), Below W0.heap.size W0 w → 1 ≤ i → low + 64 = i * 2 ^ h → (i + 1) * 2 ^ h ≤ 128 →
  Calls Tryd.prog 49 #[vl, vk, .int .i64 (low : Int), .int .i64 ((2 ^ h : Nat) : Int)] w (RowS ((clF (tN ks) h i).map (partV l)) w) := by
 have hlh := Lib.hid (fun W (B : Below W0.heap.size W0 W) => SLG.below (W' := W) hl B)
 have hkh := Lib.hid (fun W (B : Below W0.heap.size W0 W) => SLG.below (W' := W) hvk B)
 have hml : l.length ≤ 100000000 := by have := Mp_len l hm; omega
 have hpt := Lib.hid (show ∀ (h i low : Nat) (W : World), h ≤ 6 → Below W0.heap.size W0 W → 1 ≤ i → low + 64 = i * 2 ^ h → (i + 1) * 2 ^ h ≤ 128 → Calls Tryd.prog 40 #[vl, .int .i64 (low : Int), .int .i64 ((2 ^ h : Nat) : Int), .slice none 0 0] W (PartPost W (partV l i) ([] ++ hsd sha (fun _ => []) (mE l) h i)) from fun h i low W h6 B h1 h2 h3 => by
  have hE : E sha (fun _ => []) (mE l) i = partV l i := by unfold partV; rw [mE_map l hm]
  rw [← hE]
  refine part_any vl l W (hlh.out W B) hml (fun k => ?_) h h6 i low (.slice none 0 0) [] W h1 h2 h3 (Below.refl _ _) (OwnG.nil _ _) ?_
  ·by_cases g : lookE l k = []
   ·rw [g]; simp
   ·have := mapV_small l hm k
    rwa [vF_map l _ hm] at this
  ·have : 2 ^ (h + 1) ≤ 2 ^ 7 := Nat.pow_le_pow_right (by omega) (by omega)
   simp; omega)
 obtain ⟨ka, K, kc, hvs, hK⟩ := hvk.shape'
 subst hvs
 clear hl hvk
 intro h
 induction h with
 | zero =>
  intro h6 i low w B hi hlow hhi
  have hw := withinR_any (.slice ka K kc) ks low (2 ^ 0) w (hkh.out w B) hn (by omega) (by omega)
  rw [win_op ks 0 i low hk (by omega) hlow hhi] at hw
  have hw := Lib.hid hw
  have hp := Lib.hid (hpt.out 0 i low w h6 B hi hlow hhi)
  cases ho : op (tN ks) i with
  | false =>
   rw [clF_ok _ _ _ ho]
   rw [ho] at hw
   rw [List.map_cons, List.map_nil]
   generalize partV l i = D at *
   generalize [] ++ hsd sha (fun _ => []) (mE l) 0 i = S at *
   clear ho hpt
   go_enter Tryd.func49, Tryd.ntmps49
   go_wp2_with fail
   refine hw.out.mono ?_
   rintro e w1 ⟨rfl, rfl⟩
   go_wp2_with fail
   refine hp.out.mono ?_
   rintro e w2 ⟨sv, rfl, o1, B1⟩
   obtain ⟨a1, c1, hsh1⟩ := (OwnG.SL eS_len o1).shape
   generalize S.length = n1 at hsh1
   subst hsh1
   clear o1
   go_wp2_with fail
   go_ret
   exact ⟨_, rfl, OS_lit _ _ _ B1.size, B1.alloc B1.size _⟩
  | true =>
   rw [clF_zero _ _ ho]
   rw [ho] at hw
   clear ho hp hpt
   go_enter Tryd.func49, Tryd.ntmps49
   go_wp2_with fail
   refine hw.out.mono ?_
   rintro e w1 ⟨rfl, rfl⟩
   go_wp2_with fail
   go_ret
   exact ⟨_, rfl, OwnG.nil _ _, Below.refl _ _⟩
 | succ h ih =>
  intro h6 i low w B hi hlow hhi
  obtain ⟨g1, g2, g3, g4, g5, g6, g7, g8⟩ := geo h i low hi hlow hhi
  have hw := withinR_any (.slice ka K kc) ks low (2 ^ (h + 1)) w (hkh.out w B) hn (by omega) (by omega)
  rw [win_op ks (h + 1) i low hk (by omega) hlow hhi] at hw
  have hw := Lib.hid hw
  have hp := Lib.hid (hpt.out (h + 1) i low w h6 B hi hlow hhi)
  have hA := Lib.hid (ih (by omega) (2 * i) low w B (by omega) (by omega) (by omega))
  have hB := Lib.hid (show ∀ W, Below W0.heap.size W0 W → _ from fun W B => ih (by omega) (2 * i + 1) (low + 2 ^ h) W B (by omega) (by omega) (by omega))
  rw [Int.natCast_add] at hB
  have t1 : (((2 ^ (h + 1) : Nat) : Int) == 1) = false := by rw [beq_eq_false_iff_ne]; omega
  have hdiv1 : ((2 ^ (h + 1) : Nat) : Int).tdiv 2 = ((2 ^ h : Nat) : Int) := by
   rw [g5, Int.tdiv_eq_ediv_of_nonneg (by omega)]; omega
  have hdiv2 : ((2 ^ (h + 1) : Nat) : Int) / 2 = ((2 ^ h : Nat) : Int) := by rw [g5]; omega
  cases ho : op (tN ks) i with
  | false =>
   rw [clF_ok _ _ _ ho]
   rw [ho] at hw
   rw [List.map_cons, List.map_nil]
   generalize partV l i = D at *
   generalize [] ++ hsd sha (fun _ => []) (mE l) (h + 1) i = S at *
   clear ho hpt ih hA hB hlow hhi g1 g2 g3 g4 g5 g8
   generalize 2 ^ (h + 1) = wd at *
   go_enter Tryd.func49, Tryd.ntmps49
   go_wp2_with fail
   refine hw.out.mono ?_
   rintro e w1 ⟨rfl, rfl⟩
   go_wp2_with fail
   refine hp.out.mono ?_
   rintro e w2 ⟨sv, rfl, o1, B1⟩
   obtain ⟨a1, c1, hsh1⟩ := (OwnG.SL eS_len o1).shape
   generalize S.length = n1 at hsh1
   subst hsh1
   clear o1
   go_wp2_with fail
   go_ret
   exact ⟨_, rfl, OS_lit _ _ _ B1.size, B1.alloc B1.size _⟩
  | true =>
   rw [clF_succ _ _ _ ho, List.map_append]
   rw [ho] at hw
   have s1 : ((clF (tN ks) h (2 * i)).map (partV l)).length ≤ 64 := by
    rw [List.length_map]; exact clF_size2 _ _ _ (by omega)
   have s2 : ((clF (tN ks) h (2 * i + 1)).map (partV l)).length ≤ 64 := by
    rw [List.length_map]; exact clF_size2 _ _ _ (by omega)
   clear ho ih hp hpt hlow hhi g1 g2 g3 g4 g5
   generalize 2 ^ (h + 1) = wd at *
   generalize 2 ^ h = q at *
   generalize (clF (tN ks) h (2 * i)).map (partV l) = A at *
   generalize (clF (tN ks) h (2 * i + 1)).map (partV l) = A2 at *
   go_enter Tryd.func49, Tryd.ntmps49
   go_wp2_with fail
   refine hw.out.mono ?_
   rintro e w1 ⟨rfl, rfl⟩
   go_wp2_with fail
   refine hA.out.mono ?_
   rintro e w1 ⟨v1, rfl, o1, B1⟩
   obtain ⟨a1, c1, hsh1⟩ := (OwnG.SL eS_len o1).shape
   obtain ⟨n1, hn1⟩ : ∃ n, Hid (n = A.length) := ⟨_, rfl⟩
   rw [← hn1.out] at hsh1
   subst hsh1
   have o1 := Lib.hid o1
   rename_i ox; clear ox
   go_wp2_with fail
   refine (hB.out _ (B.trans (B1.mono B.size))).mono ?_
   rintro e w2 ⟨v2, rfl, o2, B2⟩
   obtain ⟨a2, c2, hsh2⟩ := (OwnG.SL eS_len o2).shape
   obtain ⟨n2, hn2⟩ : ∃ n, Hid (n = A2.length) := ⟨_, rfl⟩
   rw [← hn2.out] at hsh2
   subst hsh2
   have o2 := Lib.hid o2
   rename_i ox; clear ox
   have B3 := B1.trans (B2.mono B1.size)
   obtain ⟨v', w', ⟨y1, y2, y3, rfl⟩, hrun, ho, hBB⟩ := catS w2 w.heap.size (.slice a1 n1 c1) (.slice a2 n2 c2) A A2 (o1.out.below B2) (OwnG.SL eS_len o2.out) (by omega) B3.size
   have hend := Lib.hid (show OS w' w.heap.size (.slice y1 y2 y3) (A ++ A2) ∧ Below w.heap.size w w' from ⟨ho, B3.trans hBB⟩)
   clear ho hBB o1 o2 hn1 hn2
   go_wp2_with (at_builtin; refine wpList_append_runB rfl (.tmp 32) (.tmp 41) 35 rfl (.slice a1 n1 c1) (.slice a2 n2 c2) rfl rfl _ _ hrun ?_)
   go_ret
   exact ⟨_, rfl, hend.out⟩
end Go.Proofs.YtegahpfmkepfmaaDoor
namespace Go.Proofs.YtegahpfmkepfmaaDoor
open Go.RowKit
set_option maxRecDepth 100000 in
set_option maxHeartbeats 1000000 in
theorem Same_any (va vb : Value) (A B : List Str) (w : World) (ha : SS w va A) (hb : SS w vb B) (hAl : A.length ≤ 1000000000000) (_ : B.length ≤ 140737488351232) :
  Calls Tryd.prog 50 #[va, vb] w fun e w' => e = .returned (.bool (decide (A = B))) ∧ Below w.heap.size w w' := by
 have cellA := Lib.hid (show ∀ (k : Nat) (hk : k < A.length), _ from fun k hk => SS.at ha k hk)
 have cellB := Lib.hid (show ∀ (k : Nat) (hk : k < B.length), _ from fun k hk => SS.at hb k hk)
 obtain ⟨a1, N, c1, rfl, hN⟩ := ha.shape'
 obtain ⟨a2, M, c2, rfl, hM⟩ := hb.shape'
 clear ha hb
 by_cases hlen : N = M
 rotate_left
 ·have hr : Hid (false = decide (A = B)) := by
   show _ = _
   symm
   rw [decide_eq_false_iff_not]; exact fun e => hlen (by rw [hN.out, hM.out, e])
  generalize decide (A = B) = r at *
  have t0 : ((N : Int) != (M : Int)) = true := by rw [bne_iff_ne]; omega
  have t0n : ((N : Int) == (M : Int)) = false := by rw [beq_eq_false_iff_ne]; omega
  clear hlen cellA cellB
  go_enter Tryd.func50, Tryd.ntmps50
  go_wp2_with fail
  go_ret
  exact ⟨ret_bool hr.out, Below.refl _ _⟩
 ·subst hlen
  rw [← hN.out] at hAl
  go_enter Tryd.func50, Tryd.ntmps50
  go_wp2_with fail
  go_loopw [5] (fun i wr => ∃ k : Nat, k ≤ N ∧ i = .int .i64 k ∧ Hid (A.take k = B.take k) ∧ Below w.heap.size w wr) (fun i _ => N - (intOf i).toNat)
  case atStart => exact ⟨0, by omega, rfl, rfl, Below.refl _ _⟩
  case round =>
   obtain ⟨k, hk, rfl, hall, Bw⟩ := hrel
   by_cases hlt : k < N
   ·have hkA : k < A.length := by rw [← hN.out]; exact hlt
    have hkB : k < B.length := by rw [← hM.out]; exact hlt
    obtain ⟨p1, p2, p3, he, g1⟩ := cellA.out k hkA
    injection he with he1 he2 he3
    subst he1
    obtain ⟨r1, r2, r3, he, g2⟩ := cellB.out k hkB
    injection he with he4 he5 he6
    subst he4
    have q1 := g1 wr Bw
    have q2 := g2 wr Bw
    clear he2 he3 he5 he6 g1 g2
    have i0 : (0 : Int) ≤ (k : Int) := by omega
    have i1 : (k : Int) < (N : Int) := by omega
    by_cases hxy : A[k] = B[k]
    ·have hnew : Hid (A.take (k + 1) = B.take (k + 1)) := by
      show _ = _
      rw [List.take_succ_eq_append_getElem hkA, List.take_succ_eq_append_getElem hkB, hall.out, hxy]
     rw [← hxy] at q2
     clear hxy hall
     generalize A[k] = x at *
     have c0 := q1
     have d0 := q2
     skip
     go_wp2_with fail
     go_quiet (fail)
     go_wp2_with fail
     go_roundw
     case rel => exact ⟨k + 1, by omega, by go_num, hnew, below_drewN Bw _⟩
     case measure => simp [intOf]; omega
    ·have hr : decide (A = B) = false := by
      rw [decide_eq_false_iff_not]
      intro e
      subst e
      exact hxy rfl
     have hr2 := Lib.hid hr
     generalize A[k] = x at *
     generalize B[k] = y at *
     have hne : (x == y) = false := by simpa using hxy
     have hne2 : (x != y) = true := by simpa using hxy
     clear hxy hr hall
     have c0 := q1
     have d0 := q2
     go_wp2_with fail
     go_quiet (fail)
     go_wp2_with fail
     go_ret
     exact ⟨ret_bool hr2.out.symm, below_drewN Bw _⟩
   ·have hk2 : k = N := by omega
    have hr : decide (A = B) = true := by
     have h := hall.out
     rw [List.take_of_length_le (by rw [hk2, ← hN.out]; exact Nat.le_refl _), List.take_of_length_le (by rw [hk2, ← hM.out]; exact Nat.le_refl _)] at h
     simpa using h
    have hr2 := Lib.hid hr
    have i1 : ¬ (k : Int) < (N : Int) := by omega
    clear hr hall hk2
    go_wp2_with fail
    go_ret
    exact ⟨ret_bool hr2.out.symm, Bw⟩

def ProveNo (w : World) (e : Ending) (w' : World) : Prop := e = .returned (.tuple #[.agg #[.slice none 0 0, .slice none 0 0, .slice none 0 0], .int .i64 40]) ∧ Below w.heap.size w w'
set_option maxRecDepth 100000 in
set_option maxHeartbeats 4000000 in
theorem Prove_bad (v vk : Value) (l : List Ent) (ks : List Int) (w : World) {W0 : World} (hW : W0 = w) (hv : SE W0 v l) (hvk : SI W0 vk ks) (hn : l.length ≤ 140737488351232) (hk : ks.length ≤ 140737488351232) (hb : (mapB l && ascB (-1) ks) = false) : Calls Tryd.prog 18 #[v, vk] w (ProveNo w) := by
 subst hW
 have B0 : Below W0.heap.size W0 (W0.alloc (.cells #[.slice none 0 0, .slice none 0 0, .slice none 0 0] 37)) := (Below.refl _ _).alloc (Nat.le_refl _) _
 have g0 : (W0.alloc (.cells #[.slice none 0 0, .slice none 0 0, .slice none 0 0] 37)).heap[W0.heap.size]? = some (.cells #[.slice none 0 0, .slice none 0 0, .slice none 0 0] 37 (0, 0)) := heap_alloc_new W0 _
 have z0 : W0.heap.size < (W0.alloc (.cells #[.slice none 0 0, .slice none 0 0, .slice none 0 0] 37)).heap.size := by simp
 have h1 := Lib.hid (show ∀ W, Below W0.heap.size W0 W → _ from fun W B => Valid_any v l W (hv.below B) (by omega))
 have h1b := Lib.hid (show ∀ W, Below W0.heap.size W0 W → _ from fun W B => keyList_any vk ks W (hvk.below B) (by omega))
 unfold ProveNo
 cases hm : mapB l with
 | false =>
  rw [hm] at h1
  clear hm hb hv hvk
  go_enter Tryd.func18, Tryd.ntmps18
  go_upto_region 1 with (fail)
  obtain ⟨wA, hwA⟩ : ∃ wA, wA = W0.alloc (.cells #[.slice none 0 0, .slice none 0 0, .slice none 0 0] 37) := ⟨_, rfl⟩
  rw [← hwA] at B0 g0 z0 ⊢
  clear hwA
  go_wp2_with fail
  refine (h1.out _ B0).mono ?_
  rintro e w1 ⟨rfl, b1⟩
  have g1 := (b1.block _ z0).trans g0
  have b1 := B0.trans (b1.mono B0.size)
  clear g0 B0 z0
  go_wp2_with (refine wpList_store_row rfl 37 (.tmp 4) (.tmp 21) rfl W0.heap.size #[.slice none 0 0, .slice none 0 0, .slice none 0 0] rfl rfl 37 _ g1 size37 rfl (by simp [Value.oneCell']) ?_)
  refine bodyPost_ret (v := _) (results_row_tmp (fn := Tryd.f18) rfl _ _ W0.heap.size #[.slice none 0 0, .slice none 0 0, .slice none 0 0] (.int .i64 40) _ rfl rfl (setRow_heap _ _ _ _ _ _ g1) Tryd.underlying37 rfl size37) rfl ?_
  exact ⟨rfl, below_setRow b1 (Nat.le_refl _) _⟩
 | true =>
  rw [hm, Bool.true_and] at hb
  rw [hm] at h1
  rw [hb] at h1b
  clear hm hb hv hvk
  go_enter Tryd.func18, Tryd.ntmps18
  go_upto_region 1 with (fail)
  obtain ⟨wA, hwA⟩ : ∃ wA, wA = W0.alloc (.cells #[.slice none 0 0, .slice none 0 0, .slice none 0 0] 37) := ⟨_, rfl⟩
  rw [← hwA] at B0 g0 z0 ⊢
  clear hwA
  go_wp2_with fail
  refine (h1.out _ B0).mono ?_
  rintro e w1 ⟨rfl, b1⟩
  have g1 := (b1.block _ z0).trans g0
  have z1 := Nat.lt_of_lt_of_le z0 b1.size
  have b1 := B0.trans (b1.mono B0.size)
  clear g0 B0 z0
  go_wp2_with fail
  refine (h1b.out _ b1).mono ?_
  rintro e w2 ⟨rfl, b2⟩
  have g1 := (b2.block _ z1).trans g1
  have b1 := b1.trans (b2.mono b1.size)
  clear z1 b2
  go_wp2_with (refine wpList_store_row rfl 37 (.tmp 4) (.tmp 21) rfl W0.heap.size #[.slice none 0 0, .slice none 0 0, .slice none 0 0] rfl rfl 37 _ g1 size37 rfl (by simp [Value.oneCell']) ?_)
  refine bodyPost_ret (v := _) (results_row_tmp (fn := Tryd.f18) rfl _ _ W0.heap.size #[.slice none 0 0, .slice none 0 0, .slice none 0 0] (.int .i64 40) _ rfl rfl (setRow_heap _ _ _ _ _ _ g1) Tryd.underlying37 rfl size37) rfl ?_
  exact ⟨rfl, below_setRow b1 (Nat.le_refl _) _⟩
end Go.Proofs.YtegahpfmkepfmaaDoor
namespace Go.Proofs.YtegahpfmkepfmaaDoor
open Go.RowKit
set_option maxRecDepth 100000 in
set_option maxHeartbeats 4000000 in
theorem ProveR_bad (v vk : Value) (l : List Ent) (ks : List Int) (w : World) {W0 : World} (hW : W0 = w) (hv : SE W0 v l) (hvk : SI W0 vk ks) (hn : l.length ≤ 100000) (hk : ks.length ≤ 100000) (hI : ∀ e ∈ l, I64 e.1) (hKI : ∀ x ∈ ks, I64 x) (hb : (mapB l && ascB (-1) ks) = false) : Calls Tryd.prog 19 #[v, vk] w (ProveNo w) := by
 subst hW
 have B0 : Below W0.heap.size W0 (W0.alloc (.cells #[.slice none 0 0, .slice none 0 0, .slice none 0 0] 37)) := (Below.refl _ _).alloc (Nat.le_refl _) _
 have g0 : (W0.alloc (.cells #[.slice none 0 0, .slice none 0 0, .slice none 0 0] 37)).heap[W0.heap.size]? = some (.cells #[.slice none 0 0, .slice none 0 0, .slice none 0 0] 37 (0, 0)) := heap_alloc_new W0 _
 have z0 : W0.heap.size < (W0.alloc (.cells #[.slice none 0 0, .slice none 0 0, .slice none 0 0] 37)).heap.size := by simp
 have h1 := Lib.hid (show ∀ W, Below W0.heap.size W0 W → _ from fun W B => ValidR_any v l W (hv.below B) rfl (by omega) hI)
 have h1b := Lib.hid (show ∀ W, Below W0.heap.size W0 W → _ from fun W B => keysR_any vk ks W (hvk.below B) rfl (by omega) hKI)
 unfold ProveNo
 cases hm : mapB l with
 | false =>
  rw [hm] at h1
  clear hm hb hv hvk
  go_enter Tryd.func19, Tryd.ntmps19
  go_upto_region 1 with (fail)
  obtain ⟨wA, hwA⟩ : ∃ wA, wA = W0.alloc (.cells #[.slice none 0 0, .slice none 0 0, .slice none 0 0] 37) := ⟨_, rfl⟩
  rw [← hwA] at B0 g0 z0 ⊢
  clear hwA
  go_wp2_with fail
  refine (h1.out _ B0).mono ?_
  rintro e w1 ⟨rfl, b1⟩
  have g1 := (b1.block _ z0).trans g0
  have b1 := B0.trans (b1.mono B0.size)
  clear g0 B0 z0
  go_wp2_with (refine wpList_store_row rfl 37 (.tmp 4) (.tmp 16) rfl W0.heap.size #[.slice none 0 0, .slice none 0 0, .slice none 0 0] rfl rfl 37 _ g1 size37 rfl (by simp [Value.oneCell']) ?_)
  refine bodyPost_ret (v := _) (results_row_tmp (fn := Tryd.f19) rfl _ _ W0.heap.size #[.slice none 0 0, .slice none 0 0, .slice none 0 0] (.int .i64 40) _ rfl rfl (setRow_heap _ _ _ _ _ _ g1) Tryd.underlying37 rfl size37) rfl ?_
  exact ⟨rfl, below_setRow b1 (Nat.le_refl _) _⟩
 | true =>
  rw [hm, Bool.true_and] at hb
  rw [hm] at h1
  rw [hb] at h1b
  clear hm hb hv hvk
  go_enter Tryd.func19, Tryd.ntmps19
  go_upto_region 1 with (fail)
  obtain ⟨wA, hwA⟩ : ∃ wA, wA = W0.alloc (.cells #[.slice none 0 0, .slice none 0 0, .slice none 0 0] 37) := ⟨_, rfl⟩
  rw [← hwA] at B0 g0 z0 ⊢
  clear hwA
  go_wp2_with fail
  refine (h1.out _ B0).mono ?_
  rintro e w1 ⟨rfl, b1⟩
  have g1 := (b1.block _ z0).trans g0
  have z1 := Nat.lt_of_lt_of_le z0 b1.size
  have b1 := B0.trans (b1.mono B0.size)
  clear g0 B0 z0
  go_wp2_with fail
  refine (h1b.out _ b1).mono ?_
  rintro e w2 ⟨rfl, b2⟩
  have g1 := (b2.block _ z1).trans g1
  have b1 := b1.trans (b2.mono b1.size)
  clear z1 b2
  go_wp2_with (refine wpList_store_row rfl 37 (.tmp 4) (.tmp 16) rfl W0.heap.size #[.slice none 0 0, .slice none 0 0, .slice none 0 0] rfl rfl 37 _ g1 size37 rfl (by simp [Value.oneCell']) ?_)
  refine bodyPost_ret (v := _) (results_row_tmp (fn := Tryd.f19) rfl _ _ W0.heap.size #[.slice none 0 0, .slice none 0 0, .slice none 0 0] (.int .i64 40) _ rfl rfl (setRow_heap _ _ _ _ _ _ g1) Tryd.underlying37 rfl size37) rfl ?_
  exact ⟨rfl, below_setRow b1 (Nat.le_refl _) _⟩

set_option linter.unusedSimpArgs false in
set_option maxRecDepth 100000 in
set_option maxHeartbeats 4000000 in
theorem ProveR_ok (v vk : Value) (l : List Ent) (ks : List Int) (w : World) {W0 : World} (hW : W0 = w) (hv : SE W0 v l) (hvk : SI W0 vk ks) (hm : mapB l = true) (hk : ascB (-1) ks = true) : Calls Tryd.prog 19 #[v, vk] w (ProvePost l ks w) := by
 subst hW
 obtain ⟨m1, m2, m3⟩ := mapB_facts l hm
 have hmp := (mapB_iff l).1 hm
 have hkb := ascB_bd ks (-1) (by omega) hk
 have hkl := ascB_len ks (-1) (by omega) (by omega) hk
 have h1 := Lib.hid (show ∀ W, Below W0.heap.size W0 W → _ from fun W B => ValidR_any v l W (hv.below B) rfl (by omega) (mp_i64 l hmp))
 rw [hm] at h1
 have h1b := Lib.hid (show ∀ W, Below W0.heap.size W0 W → _ from fun W B => keysR_any vk ks W (hvk.below B) rfl (by omega) (fun x hx => by have := hkb x hx; unfold I64; omega))
 rw [hk] at h1b
 have h5 := Lib.hid (show ∀ W, Below W0.heap.size W0 W → Calls Tryd.prog 49 #[v, vk, .int .i64 0, .int .i64 64] W (RowS (pathL l ks) W) from fun W B => closedR_any v vk l ks W0 hv hmp hvk (fun k h => by have := hkb k h; omega) (by omega) 6 (by omega) 1 0 W B (by omega) (by omega) (by omega))
 have hatt := Lib.hid (show ∀ (key : Int) (W : World), Below W0.heap.size W0 W → _ from fun key W B => At_any v l key W (hv.below B) rfl (by omega))
 have hap := Lib.hid (show ∀ W, Below W0.heap.size W0 W → _ from fun W B => copyI W vk ks (hvk.below B) (by omega))
 have hka := Lib.hid (show ∀ (k : Nat) (hk : k < ks.length), _ from fun k hk => SI.at hvk k hk)
 have hvals : Hid (valsL l ks = ks.map fun k => lookE l k) := by
  show _ = _
  unfold valsL tN
  rw [List.map_map]
  refine List.map_congr_left fun k hk2 => ?_
  have := hkb k hk2
  show vF (mapV l) k.toNat = _
  rw [vF_map l _ hmp, show ((k.toNat : Nat) : Int) = k by omega]
 have hsmall := Lib.hid (mp_small l hmp)
 unfold ProvePost
 generalize valsL l ks = VL at *
 generalize pathL l ks = PL at *
 obtain ⟨k1, N, k2, hsh, hN⟩ := hvk.shape'
 subst hsh
 rw [← hN.out] at hkl
 have hkl : N ≤ 64 := by omega
 clear hv hvk m1 m2 m3 hm hk hkb
 go_enter Tryd.func19, Tryd.ntmps19
 go_upto_region 1 with (fail)
 obtain ⟨wA, hwA⟩ : ∃ wA, wA = W0.alloc (.cells #[.slice none 0 0, .slice none 0 0, .slice none 0 0] 37) := ⟨_, rfl⟩
 rw [← hwA]
 have zA : wA.heap.size = W0.heap.size + 1 := by rw [hwA]; simp
 have hA4 := Lib.hid (show wA.heap[W0.heap.size]? = some (.cells #[.slice none 0 0, .slice none 0 0, .slice none 0 0] 37 (0, 0)) by rw [hwA]; exact heap_alloc_new W0 _)
 have BA : Below W0.heap.size W0 wA := by rw [hwA]; exact (Below.refl _ _).alloc (Nat.le_refl _) _
 clear hwA
 have toW := Lib.hid (show ∀ W, Below wA.heap.size wA W → Below W0.heap.size W0 W from fun W B => BA.trans (B.mono BA.size))
 have zAh := Lib.hid zA
 clear BA zA
 go_wp2_with fail
 refine (h1.out _ (toW.out _ (Below.refl _ _))).mono ?_
 rintro e w1 ⟨rfl, b1⟩
 go_wp2_with fail
 refine (h1b.out _ (toW.out _ b1)).mono ?_
 rintro e w2 ⟨rfl, b2⟩
 have b2 := b1.trans (b2.mono b1.size)
 obtain ⟨kv, w7, hrun, ok, b7⟩ := hap.out _ (toW.out _ b2)
 obtain ⟨y1, y3, hys⟩ := (OwnG.SL eI_len ok).shape
 obtain ⟨y2, hy2⟩ : ∃ y, y = ks.length := ⟨_, rfl⟩
 rw [← hy2] at hys
 subst hys
 clear hy2
 have b7 := b2.trans (b7.mono b2.size)
 have zA3 : wA.heap.size ≤ w2.heap.size := b2.size
 clear b1 b2 h1 h1b hap
 go_wp2_with (at_builtin; refine wpList_append_runB rfl (.tmp 17) (.tmp 18) 24 rfl (.slice (some ⟨w2.heap.size, 0, none⟩) 0 0) (.slice k1 N k2) rfl rfl _ _ hrun ?_)
 refine (h5.out _ (toW.out _ b7)).mono ?_
 rintro e w8 ⟨pv, rfl, hpv, b8⟩
 obtain ⟨p1, p2, hpsh⟩ := (OwnG.SL eS_len hpv).shape
 obtain ⟨M, hM⟩ : ∃ M, Hid (M = PL.length) := ⟨_, rfl⟩
 rw [← hM.out] at hpsh
 subst hpsh
 have b8w := b7.trans (b8.mono b7.size)
 obtain ⟨zA1, zA2⟩ : wA.heap.size ≤ w7.heap.size ∧ w7.heap.size ≤ w8.heap.size := ⟨b7.size, b8.size⟩
 have hkvS := Lib.hid (show OI w8 (W0.heap.size + 1) (.slice y1 y2 y3) ks from (ok.below b8).mono (by have := zAh.out; omega))
 have hkvL := Lib.hid (OwnG.lt hkvS.out)
 have hpvS := Lib.hid (show OS w8 (W0.heap.size + 1) (.slice p1 M p2) PL from hpv.mono (by have := zAh.out; omega))
 have hpvL := Lib.hid (OwnG.lt hpvS.out)
 clear ok hpv b8 b7 h5
 go_upto_region 4 with (fail)
 have hs8 := heap_alloc_new w8 (.cells #[.slice y1 y2 y3, .slice none 0 0, .slice p1 M p2] 37)
 have hz8 : (w8.alloc (.cells #[.slice y1 y2 y3, .slice none 0 0, .slice p1 M p2] 37)).heap.size = w8.heap.size + 1 := by simp
 have hB8 : Below w8.heap.size w8 (w8.alloc (.cells #[.slice y1 y2 y3, .slice none 0 0, .slice p1 M p2] 37)) := (Below.refl _ _).alloc (Nat.le_refl _) _
 generalize (w8.alloc (.cells #[.slice y1 y2 y3, .slice none 0 0, .slice p1 M p2] 37)) = wB at *
 have hAb : wA.heap.size ≤ w8.heap.size := b8w.size
 obtain ⟨b8, hb8⟩ : ∃ b8, w8.heap.size = b8 := ⟨_, rfl⟩
 rw [hb8] at hs8 hz8 hB8 hAb ⊢
 have fK := Lib.hid (show ∀ W, Below b8 w8 W → OI W (W0.heap.size + 1) (.slice y1 y2 y3) ks from fun W B => hkvS.out.keep B (fun k hk => by rw [← hb8]; exact hkvL.out k hk))
 have fP := Lib.hid (show ∀ W, Below b8 w8 W → OS W (W0.heap.size + 1) (.slice p1 M p2) PL from fun W B => hpvS.out.keep B (fun k hk => by rw [← hb8]; exact hpvL.out k hk))
 have fA := Lib.hid (show ∀ W, Below b8 w8 W → Below wA.heap.size wA W from fun W B => b8w.trans (B.mono hAb))
 have f4 := Lib.hid (show ∀ W, Below b8 w8 W → W.heap[W0.heap.size]? = some (.cells #[.slice none 0 0, .slice none 0 0, .slice none 0 0] 37 (0, 0)) from fun W B => ((fA.out W B).block _ (by rw [zAh.out]; omega)).trans hA4.out)
 have h48 : W0.heap.size < b8 := by have := zAh.out; omega
 clear hkvS hkvL hpvS hpvL b8w hA4 hb8 hAb zA1 zA2 zA3
 go_wp2_with fail
 go_loopw [7] (fun i wr => ∃ n : Nat, n ≤ N ∧ i = .int .i64 n ∧ ∃ xa xn xc, wr.heap[b8]? = some (.cells #[.slice y1 y2 y3, .slice xa xn xc, .slice p1 M p2] 37 (0, 0)) ∧ OS wr (b8 + 1) (.slice xa xn xc) (VL.take n) ∧ Below b8 w8 wr ∧ b8 + 1 ≤ wr.heap.size) (fun i _ => N - (intOf i).toNat)
 case atStart => exact ⟨0, by omega, rfl, none, 0, 0, hs8, OwnG.nil _ _, hB8, by omega⟩
 case round =>
  clear hs8 hz8 hB8
  obtain ⟨n, hn, rfl, xa, xn, xc, g8, hown, B, hb4⟩ := hrel
  by_cases hlt : n < N
  ·have hnk : n < ks.length := by rw [← hN.out]; exact hlt
   obtain ⟨b, o, c', he, hcell⟩ := hka.out n hnk
   injection he with he1 he2 he3
   subst he1
   have hcc := hcell wr (toW.out _ (fA.out _ B))
   have hvn : n < VL.length := by rw [hvals.out]; simpa using hnk
   have hsn : Hid (VL.take (n + 1) = VL.take n ++ [lookE l ks[n]]) := by
    show _ = _
    rw [List.take_succ_eq_append_getElem hvn]
    congr 2
    simp only [hvals.out, List.getElem_map]
   have hcellh := Lib.hid hcell
   clear hcell he2 he3
   have hat := Lib.hid (show ∀ W, Below wr.heap.size wr W → _ from fun W BW => hatt.out ks[n] W (toW.out _ (fA.out _ (B.trans (BW.mono (by omega))))))
   generalize ks[n] = y at *
   generalize lookE l y = s at *
   have hlen : (VL.take n).length ≤ 1000 := by have := List.length_take_le n VL; omega
   have c1 : wr.cell? ⟨b8, 1, none⟩ = some (.slice xa xn xc) := by rw [cell_of_row _ _ _ _ _ _ g8]; rfl
   have happ := Lib.hid (show ∀ W, Below wr.heap.size wr W → _ from fun W BW => app_field W b8 (b8 + 1) #[.slice y1 y2 y3, .slice xa xn xc, .slice p1 M p2] (.slice xa xn xc) (VL.take n) s (by omega) (Nat.le_trans hb4 BW.size) ((BW.block b8 (by omega)).trans g8) (hown.below BW) (by omega))
   have hfin := Lib.hid (show ∀ W, Below wr.heap.size wr W → ∀ v' w', Below (b8 + 1) W w' → OS w' (b8 + 1) v' (VL.take n ++ [s]) → w'.heap[b8]? = some (.cells #[.slice y1 y2 y3, .slice xa xn xc, .slice p1 M p2] 37 (0, 0)) →
     ((w'.setCell ⟨b8, 1, none⟩ v').heap[b8]? = some (.cells #[.slice y1 y2 y3, v', .slice p1 M p2] 37 (0, 0)) ∧ OS (w'.setCell ⟨b8, 1, none⟩ v') (b8 + 1) v' (VL.take (n + 1)) ∧ Below b8 w8 (w'.setCell ⟨b8, 1, none⟩ v') ∧ b8 + 1 ≤ (w'.setCell ⟨b8, 1, none⟩ v').heap.size) from fun W BW v' w' Bw ow g => by
    refine ⟨set_field g, by rw [hsn.out]; exact ow.set (by omega) _ _, ((B.trans (BW.mono (by omega))).trans (Bw.mono (by omega))).setCell (by simp) _, ?_⟩
    have := Bw.size; have := BW.size; simp; omega)
   have sK := Lib.hid (show ∀ W, Below (b8 + 1) wr W → W.cell? ⟨b8, 1, none⟩ = some (.slice xa xn xc) ∧ W.cell? ⟨b, o + n, none⟩ = some (.int .i64 y) from fun W BW => ⟨by rw [BW.cell (p := ⟨b8, 1, none⟩) (by simp)]; exact c1, hcellh.out W (toW.out _ (fA.out _ (B.trans (BW.mono (by omega)))))⟩)
   have hS0 := Lib.hid (sK.out wr.drew (Below.refl _ _).drew)
   have i0 : (0 : Int) ≤ (n : Int) := by omega
   have i1 : (n : Int) < (N : Int) := by omega
   clear g8 hown B hsn hvn hlen c1 hcellh
   go_wp2_with fail
   refine wp_region_F (fun w' : World => w'.cell? ⟨b8, 1, none⟩ = some (.slice xa xn xc) ∧ w'.cell? ⟨b, o + n, none⟩ = some (.int .i64 y)) 11 (by kernel_rfl) hS0.out (fun hHeld => ?_)
   refine takeA (i := 0) (oi := { dst := some 30, op := .fieldAddr 37 (.tmp 6) 1, type := _, pos := _, after := _, guard := none }) (v := ?_) rfl (Or.inl ⟨by rfl, ?_⟩) (by assumption) ?_
   rotate_left
   ·(intro w hSw; (try dsimp only at hSw); go_simp) <;> with_reducible rfl
   try simp only [Act.put, zT, z0, zS]
   refine takeA (i := 1) (oi := { dst := some 31, op := .load 35 (.tmp 30), type := _, pos := _, after := _, guard := none }) (v := ?_) rfl (Or.inl ⟨by rfl, ?_⟩) (by assumption) ?_
   rotate_left
   ·(intro w hSw; (try dsimp only at hSw); go_simp) <;> with_reducible rfl
   try simp only [Act.put, zT, z0, zS]
   refine takeA (i := 2) (oi := { dst := some 32, op := .move (.tmp 0), type := _, pos := _, after := _, guard := none }) (v := ?_) rfl (Or.inl ⟨by rfl, ?_⟩) (by assumption) ?_
   rotate_left
   ·(intro w hSw; (try dsimp only at hSw); go_simp) <;> with_reducible rfl
   try simp only [Act.put, zT, z0, zS]
   refine takeA (i := 3) (oi := { dst := some 33, op := .move (.tmp 1), type := _, pos := _, after := _, guard := none }) (v := ?_) rfl (Or.inl ⟨by rfl, ?_⟩) (by assumption) ?_
   rotate_left
   ·(intro w hSw; (try dsimp only at hSw); go_simp) <;> with_reducible rfl
   try simp only [Act.put, zT, z0, zS]
   refine takeA (i := 4) (oi := { dst := some 34, op := .move (.tmp 7), type := _, pos := _, after := _, guard := none }) (v := ?_) rfl (Or.inl ⟨by rfl, ?_⟩) (by assumption) ?_
   rotate_left
   ·(intro w hSw; (try dsimp only at hSw); go_simp) <;> with_reducible rfl
   try simp only [Act.put, zT, z0, zS]
   refine takeA (i := 5) (oi := { dst := some 35, op := .indexAddr 24 (.tmp 33) (.tmp 34), type := _, pos := _, after := _, guard := none }) (v := ?_) rfl (Or.inl ⟨by rfl, ?_⟩) (by assumption) ?_
   rotate_left
   ·(intro w hSw; (try dsimp only at hSw); go_simp) <;> with_reducible rfl
   try simp only [Act.put, zT, z0, zS]
   refine takeA (i := 6) (oi := { dst := some 36, op := .load 3 (.tmp 35), type := _, pos := _, after := _, guard := none }) (v := ?_) rfl (Or.inl ⟨by rfl, ?_⟩) (by assumption) ?_
   rotate_left
   ·(intro w hSw; (try dsimp only at hSw); go_simp) <;> with_reducible rfl
   try simp only [Act.put, zT, z0, zS]
   refine wpAnyF_ready (rs := [7]) (by kernel_rfl) (by simp) ?_
   refine AllReadyF.cons (o := { dst := some 37, op := .call { callee := .value (.func 29), args := #[(.tmp 32), (.tmp 36)], argTypes := #[23, 3] }, type := _, pos := _, after := _, guard := none }) rfl (fun K hK => ?_) ?_
   ·skip
    go_simp
    with_reducible refine (hat.out wr.drew (Below.refl _ wr).drew).mono ?_
    rintro e W2 ⟨rfl, rfl⟩
    go_wp2_with fail
    refine hK.out _ _ ?_ (fun hHeld => ?_)
    ·exact hHeld
    clear hK K
    try simp only [Act.put, zT, z0, zS]
    refine wpAnyF_ready (rs := [8]) (by kernel_rfl) (by simp) ?_
    refine AllReadyF.cons (o := { dst := some 38, op := .buildSlice 35 1 #[(0, (.tmp 37))], type := _, pos := _, after := _, guard := none }) rfl (fun K hK => ?_) ?_
    ·skip
     go_simp
     go_wp2_with fail
     refine hK.out _ _ ?_ (fun hHeld => ?_)
     ·exact sK.out _ (((Below.refl _ wr).drew.mono hb4).alloc hb4 _)
     clear hK K
     try simp only [Act.put, zT, z0, zS]
     refine wpAnyF_ready (rs := [9]) (by kernel_rfl) (by simp) ?_
     refine AllReadyF.cons (o := { dst := some 39, op := .call { callee := .builtin .append, args := #[(.tmp 31), (.tmp 38)], argTypes := #[35, 35] }, type := _, pos := _, after := _, guard := none }) rfl (fun K hK => ?_) ?_
     ·skip
      obtain ⟨v', w', ⟨ya, yk, yc, rfl⟩, hr, g8, bw, ow⟩ := happ.out wr.drew (Below.refl _ wr).drew
      have f8 := free_of_block (i := 1) g8
      have c8 : w'.cell? ⟨b8, 1, none⟩ = some (.slice xa xn xc) := by rw [cell_of_row _ _ _ _ _ _ g8]; rfl
      refine wp_append_run (.tmp 31) (.tmp 38) 35 rfl (.slice xa xn xc) (.slice (some ⟨wr.heap.size, 0, none⟩) 1 1) rfl rfl _ _ hr ?_
      refine hK.out _ _ ?_ (fun hHeld => ?_)
      ·exact sK.out _ (((Below.refl _ wr).drew.mono hb4).trans bw)
      clear hK K
      try simp only [Act.put, zT, z0, zS]
      refine takeA (i := 10) (oi := { dst := some 40, op := .fieldAddr 37 (.tmp 6) 1, type := _, pos := _, after := _, guard := none }) (v := ?_) rfl (Or.inl ⟨by rfl, ?_⟩) (by assumption) ?_
      rotate_left
      ·(intro w hSw; (try dsimp only at hSw); go_simp) <;> with_reducible rfl
      try simp only [Act.put, zT, z0, zS]
      refine wpAnyF_ready (rs := [11]) (by kernel_rfl) (by simp) ?_
      refine AllReadyF.last (o := { dst := none, op := .store 35 (.tmp 40) (.tmp 39), type := _, pos := _, after := _, guard := none }) rfl (fun K hK => ?_) ?_
      ·skip
       go_simp
       go_wp2_with fail
       refine hK.out _ _ ?_
       clear hK K
       try simp only [Act.put, zT, z0, zS]
       refine wpAnyF_done (by kernel_rfl) ?_ _
       have hend0 := hfin.out wr.drew (Below.refl _ wr).drew _ _ bw ow g8
       have hend := Lib.hid hend0
       clear hend0
       go_wp2_with fail
       go_roundw
       case rel => exact ⟨n + 1, by omega, by go_num, _, _, _, hend.out⟩
       case measure => simp [intOf]; omega
      exact AllReadyF.nil
     exact AllReadyF.nil
    exact AllReadyF.nil
   exact AllReadyF.nil
  ·have hnN : n = N := by omega
   have hVLl : VL.length = N := by rw [hvals.out, hN.out]; simp
   have hfull : VL.take n = VL := List.take_of_length_le (by omega)
   rw [hfull] at hown
   have i1 : ¬ (n : Int) < (N : Int) := by omega
   have g8h := Lib.hid g8
   have g4h := Lib.hid (f4.out wr B)
   have hend := Lib.hid (show OpV (wr.setRow W0.heap.size #[.slice y1 y2 y3, .slice xa xn xc, .slice p1 M p2]) (.agg #[.slice y1 y2 y3, .slice xa xn xc, .slice p1 M p2]) ks VL PL from
    ⟨_, _, _, rfl, OwnG.SL eI_len ((fK.out wr B).setRow (by omega) _), OwnG.SL eS_len (hown.setRow (by omega) _), OwnG.SL eS_len ((fP.out wr B).setRow (by omega) _)⟩)
   have hBf := Lib.hid (toW.out _ (fA.out _ B))
   clear hnN hVLl hfull g8 hown B hka hvals hatt
   go_wp2_with (first
    | (refine wpList_load_row rfl 37 (.tmp 6) rfl b8 rfl 37 #[.slice y1 y2 y3, .slice xa xn xc, .slice p1 M p2] (0, 0) _ g8h.out Tryd.underlying37 rfl size37 ?_)
    | (refine wpList_store_row rfl 37 (.tmp 4) (.tmp 41) rfl W0.heap.size #[.slice y1 y2 y3, .slice xa xn xc, .slice p1 M p2] rfl rfl 37 _ g4h.out size37 rfl (by simp [Value.oneCell']) ?_))
   refine bodyPost_ret (v := _) (results_row_tmp (fn := Tryd.f19) rfl _ _ W0.heap.size #[.slice y1 y2 y3, .slice xa xn xc, .slice p1 M p2] (.int .i64 0) _ rfl rfl (setRow_heap _ _ _ _ _ _ g4h.out) Tryd.underlying37 rfl size37) rfl ?_
   exact ⟨_, rfl, hend.out, below_setRow hBf.out (Nat.le_refl _) _⟩
end Go.Proofs.YtegahpfmkepfmaaDoor
