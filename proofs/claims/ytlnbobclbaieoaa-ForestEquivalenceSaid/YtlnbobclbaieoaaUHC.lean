/- Contracts and facts. -/
import Derived.Deep.LoopGhost
import Derived.Handy
import Derived.WalkMore
import Derived.BigRegion
import Derived.Laws.EntriesVeiled
import Derived.Test.YtlnbobclbaieoaaUHB
set_option linter.unusedSimpArgs false
set_option maxRecDepth 100000
set_option maxHeartbeats 4000000
namespace Go.Proofs.Ytlnbobclbaieoaa
open Go.RowKit

theorem bentF_nil (x : List T3) : bentF [] x = [] := by
  unfold bentF
  generalize x.take 4 = l
  induction l with
  | nil => rfl
  | cons t l ih =>
    rw [List.foldl_cons, show bstep [] t = [] from List.length_eq_zero_iff.1 (by rw [bstep_len]; rfl)]
    exact ih
set_option maxRecDepth 1000000 in
theorem bent_nil (q0 q2 q3 q4 q6 q7 q8 q9 q10 q11 q12 q13 q14 q15 q16 q17 q18 q19 q20 q21 q22 q23 q24 q25 q26 q27 q28 q29 q30 q31 q32 q33 q34 q35 q36 q37 q38 q39 q40 q41 q42 q43 q44 q45 q46 q47 q48 q49 q50 q51 q52 q53 q54 q55 q56 q57 q58 q59 q60 q61 q62 q63 q64 q65 q66 q67 q68 q69 q70 q71 q72 q73 q74 q75 q76 q77 q78 q79 q80 q81 q82 q83 q84 q85 q86 q87 q88 q89 q90 q91 q92 q93 q94 q95 q96 q97 q98 q99 q100 q101 q102 q103 q104 q105 q106 q107 q108 q109 q110 q111 q112 q113 q114 q115 q116 q117 q118 q119 q120 q121 q122 q123 q124 q125 q126 q127 q128 q129 q130 q131 q132 q133 q134 q135 q136 q137 q138 q139 q140 q141 q142 q143 q144 q145 q146 q147 q148 q149 q150 q151 q152 q153 q154 q155 q156 q157 q158 q159 q160 q161 q162 q163 q164 q165 q166 q167 q168 q169 q170 : Value) (w wA : World) (xa : Option Addr) (X xc : Nat) (x : List T3) (hXl : X ≤ 9223372036854775807) (ra : Option Addr) (rc : Nat) (hS : Hid (OwnN wA w.heap.size (.slice ra 0 rc) [])) (hbel : Hid (Below w.heap.size w wA)) :
    Code.wp Try.prog (sfxB 3) (bodyPost Try.prog Try.f31 (BentR w (bentF [] x))) ⟨(q0 :: .slice xa X xc :: q2 :: q3 :: q4 :: .slice ra 0 rc :: q6 :: q7 :: q8 :: q9 :: q10 :: q11 :: q12 :: q13 :: q14 :: q15 :: q16 :: q17 :: q18 :: q19 :: q20 :: q21 :: q22 :: q23 :: q24 :: q25 :: q26 :: q27 :: q28 :: q29 :: q30 :: q31 :: q32 :: q33 :: q34 :: q35 :: q36 :: q37 :: q38 :: q39 :: q40 :: q41 :: q42 :: q43 :: q44 :: q45 :: q46 :: q47 :: q48 :: q49 :: q50 :: q51 :: q52 :: q53 :: q54 :: q55 :: q56 :: q57 :: q58 :: q59 :: q60 :: q61 :: q62 :: q63 :: q64 :: q65 :: q66 :: q67 :: q68 :: q69 :: q70 :: q71 :: q72 :: q73 :: q74 :: q75 :: q76 :: q77 :: q78 :: q79 :: q80 :: q81 :: q82 :: q83 :: q84 :: q85 :: q86 :: q87 :: q88 :: q89 :: q90 :: q91 :: q92 :: q93 :: q94 :: q95 :: q96 :: q97 :: q98 :: q99 :: q100 :: q101 :: q102 :: q103 :: q104 :: q105 :: q106 :: q107 :: q108 :: q109 :: q110 :: q111 :: q112 :: q113 :: q114 :: q115 :: q116 :: q117 :: q118 :: q119 :: q120 :: q121 :: q122 :: q123 :: q124 :: q125 :: q126 :: q127 :: q128 :: q129 :: q130 :: q131 :: q132 :: q133 :: q134 :: q135 :: q136 :: q137 :: q138 :: q139 :: q140 :: q141 :: q142 :: q143 :: q144 :: q145 :: q146 :: q147 :: q148 :: q149 :: q150 :: q151 :: q152 :: q153 :: q154 :: q155 :: q156 :: q157 :: q158 :: q159 :: q160 :: q161 :: q162 :: q163 :: q164 :: q165 :: q166 :: q167 :: q168 :: q169 :: q170 :: []).toArray, []⟩ wA := by
  rw [bentF_nil]
  conv => arg 2; whnf
  go_wp2_with fail
  go_loopg [7] 0 (fun q kv wr => q = 0 ∧ kv = .int .i64 0 ∧ OwnN wr w.heap.size (.slice ra 0 rc) [] ∧ Below w.heap.size w wr)
  case atStart => exact ⟨rfl, rfl, hS.out, hbel.out⟩
  case round =>
    obtain ⟨rfl, rfl, hS1, hB⟩ := hrel
    have hS2 := Lib.hid hS1
    have hB2 := Lib.hid hB
    clear hB hbel hS hS1
    by_cases hX : X = 0
    · subst hX
      go_wp2_with fail
      go_ret
      exact ⟨_, rfl, hS2.out, hB2.out⟩
    · have i1 : (0 : Int) < (X : Int) := by omega
      clear hX
      go_wp2_with fail
      go_ret
      exact ⟨_, rfl, hS2.out, hB2.out⟩
set_option maxRecDepth 1000000 in
set_option maxHeartbeats 8000000 in
theorem Bent_any (lv xv : Value) (L : List Nm) (x : List T3) (w : World) (hL : NL w lv L) (hx : L3 w xv x) (hLn : L.length ≤ 1000000) (hXl : x.length ≤ 9223372036854775807) (hxi : ∀ t ∈ x, i64T t) (hbd : Bd 1000000 L) :
    Calls Try.prog 31 #[lv, xv] w (BentR w (bentF L x)) := by
  obtain ⟨la, lc, rfl⟩ := hL.shape
  obtain ⟨xa, xc, rfl⟩ := hx.shape
  obtain ⟨RR, hRR⟩ : ∃ R, Hid (R = bentF L x) := ⟨_, rfl⟩
  rw [← hRR.out]
  obtain ⟨N, hN⟩ : ∃ N, Hid (N = L.length) := ⟨_, rfl⟩
  obtain ⟨X, hX⟩ : ∃ N, Hid (N = x.length) := ⟨_, rfl⟩
  have hL2 := Lib.hid hL
  have hx2 := Lib.hid hx
  rw [← hX.out] at hx2
  have hbd2 := Lib.hid hbd
  have hxi2 := Lib.hid hxi
  have cellL := Lib.hid hL.cells
  rw [← hN.out] at hLn ⊢
  rw [← hX.out] at hXl ⊢
  obtain ⟨A, hA⟩ : ∃ A : Nat → List Nm, ∀ k, A k = L.take k := ⟨_, fun _ => rfl⟩
  have hA0 : Hid (A 0 = []) := by show _ = _; rw [hA]; rfl
  have hAs := Lib.hid (fun (k : Nat) (hk : k < L.length) => (show A (k + 1) = A k ++ [L[k]] by rw [hA, hA, List.take_succ_eq_append_getElem hk]))
  have hAe : Hid (A N = L) := by show _ = _; rw [hA, hN.out, List.take_of_length_le (Nat.le_refl _)]
  have hAl := Lib.hid (fun k (hk : k ≤ N) => (show (A k).length = k by rw [hA, List.length_take]; have := hN.out; omega))
  have hxl := Lib.hid (fun (k : Nat) (hk : k < L.length) => (hbd L[k] (List.getElem_mem hk)).1)
  clear hL hx hbd hxi hA
  go_enter Try.func31, Try.ntmps31
  go_wp2_with fail
  go_loopg [5, 6] N (fun q ov kv wr => ∃ k : Nat, k + q = N ∧ kv = .int .i64 k ∧ OwnN wr w.heap.size ov (A k) ∧ Below w.heap.size w wr)
  case atStart => exact ⟨0, by omega, rfl, by rw [hA0.out]; exact OwnN.nil _ _, Below.refl _ _⟩
  case round =>
  obtain ⟨k, hk, rfl, hS, hB⟩ := hrel
  obtain ⟨wo, rfl⟩ : ∃ x, x = wr := ⟨_, rfl⟩
  clear hA0
  cases gk with
  | zero =>
    have hk2 : N = k := by omega
    have i1 : ¬ (k : Int) < (N : Int) := by omega
    rw [← hk2, hAe.out] at hS
    clear hk
    have hS2 := Lib.hid hS
    have hB2 := Lib.hid hB
    rename_i Ka hKa J1 Kb hJ1 hJ2
    have hK1 := Lib.hid hKa
    clear hKa hS hB
    obtain ⟨a1, a2, rfl⟩ := hS2.out.NL.shape
    by_cases hN0 : N = 0
    · have hLe : L = [] := List.length_eq_zero_iff.1 (by rw [← hN.out]; exact hN0)
      subst hLe
      clear hN0 hk2
      simp only [List.length_nil] at hS2 ⊢
      go_wp2_with fail
      refine hK1.out _ _ ?_
      refine wp_eq (D := sfxB 3) (by kernel_rfl) ?_
      rw [hRR.out]
      exact bent_nil _ _ _ _ _ _ _ _ _ _ _ _ _ _ _ _ _ _ _ _ _ _ _ _ _ _ _ _ _ _ _ _ _ _ _ _ _ _ _ _ _ _ _ _ _ _ _ _ _ _ _ _ _ _ _ _ _ _ _ _ _ _ _ _ _ _ _ _ _ _ _ _ _ _ _ _ _ _ _ _ _ _ _ _ _ _ _ _ _ _ _ _ _ _ _ _ _ _ _ _ _ _ _ _ _ _ _ _ _ _ _ _ _ _ _ _ _ _ _ _ _ _ _ _ _ _ _ _ _ _ _ _ _ _ _ _ _ _ _ _ _ _ _ _ _ _ _ _ _ _ _ _ _ _ _ _ _ _ _ _ _ _ _ _ _ _ _ _ _ w _ xa X xc x hXl a1 a2 hS2 hB2
    · obtain ⟨vs, hv⟩ := hS2.out
      rcases hv.row.2 with ⟨h0, h1⟩ | ⟨R, cap, cur, h0, _⟩
      · exact absurd (hN.out.trans h1) hN0
      · injection h0 with h0 _ h1
        subst h0 h1
        have hv2 := Lib.hid hv
        have hN0' : 0 < N := by omega
        rw [← hN.out] at hv2
        clear hv hS2 hN0 hk2
        rw [← hN.out]
        go_wp2_with fail
        refine hK1.out _ _ ?_
        refine wp_eq (D := sfxB 3) (by kernel_rfl) ?_
        rw [hRR.out]
        exact bent_loop _ _ _ _ _ _ _ _ _ _ _ _ _ _ _ _ _ _ _ _ _ _ _ _ _ _ _ _ _ _ _ _ _ _ _ _ _ _ _ _ _ _ _ _ _ _ _ _ _ _ _ _ _ _ _ _ _ _ _ _ _ _ _ _ _ _ _ _ _ _ _ _ _ _ _ _ _ _ _ _ _ _ _ _ _ _ _ _ _ _ _ _ _ _ _ _ _ _ _ _ _ _ _ _ _ _ _ _ _ _ _ _ _ _ _ _ _ _ _ _ _ _ _ _ _ _ _ _ _ _ _ _ _ _ _ _ _ _ _ _ _ _ _ _ _ _ _ _ _ _ _ _ _ _ _ _ _ _ _ _ _ _ _ _ _ _ _ _ _ w _ R N a2 xa X xc L x vs hN hN0' hX hLn hXl hx2 hxi2 hbd2 hB2 hv2
  | succ ga =>
    have hlt : k < N := by omega
    have hkl : k < L.length := by rw [← hN.out]; exact hlt
    obtain ⟨bv, ov, lvk, rfl, cv⟩ := cellL.out k hkl
    have j0 : (0 : Int) ≤ (k : Int) := by omega
    have j1 : (k : Int) < (N : Int) := by omega
    have hle : Hid (k + 1 + ga = N) := by show _ = _; omega
    have hst := Lib.hid (hAs.out k hkl)
    have hln := hAl.out k (by omega)
    have hlN : Hid (k ≤ 1000000) := by show _ ≤ _; omega
    have hxk := Lib.hid (hxl.out k hkl)
    generalize L[k] = x at *
    obtain ⟨o1, o2, rfl⟩ := hS.NL.shape
    obtain ⟨vs, hvs⟩ := hS
    have hcW := Lib.hid (fun W (q : Below wo.heap.size wo W) => (show W.cell? ⟨bv, ov + k * 2, none⟩ = some (.int .i64 x.1) ∧ W.cell? ⟨bv, ov + k * 2 + 1, none⟩ = some lvk ∧ DL W lvk x.2 from ⟨(cv W (hB.trans (q.mono hB.size))).1, (cv W (hB.trans (q.mono hB.size))).2.1, (cv W (hB.trans (q.mono hB.size))).2.2⟩))
    have hsW := Lib.hid (fun W (q : Below wo.heap.size wo W) => hvs.below q)
    have hlt2 := Lib.hid (fun (j : Nat) (u : Value) (hu : vs[j]? = some u) (b : Nat) (hb : u.ownBlock = some b) => hvs.lt j u hu b hb)
    have hbase : Hid (w.heap.size ≤ wo.heap.size) := hB.size
    have hB2 := Lib.hid hB
    obtain ⟨la1, la2, hlv⟩ := (hcW.out wo (Below.refl _ _)).2.2.shape
    subst hlv
    generalize A k = Lk at *
    have hkk := Lib.hid hln
    rw [hln] at hsW ⊢
    clear cv hvs hB hlt hkl hk hAs hAl hAe cellL hxl hln
    go_upto_region 5 with (fail)
    refine Rel.c_region (fun _ => false) wo [some (.slice o1 k o2), some (.slice (some ⟨bv, ov, none⟩) N lc), some (.int .i64 k), some (.pointer (some ⟨bv, ov + k * 2, none⟩)), some (.pointer (some ⟨bv, ov + k * 2, none⟩)), some (.int .i64 x.1), none, some (.slice (some ⟨bv, ov, none⟩) N lc), some (.int .i64 k), some (.pointer (some ⟨bv, ov + k * 2, none⟩)), some (.pointer (some ⟨bv, ov + k * 2 + 1, none⟩)), some (.slice la1 x.2.length la2), none, none, none, none, none]
      (fun i v W => match i with
        | 6 => ∃ q, v = .slice (some ⟨q, 0, none⟩) 0 0 ∧ W.heap[q]? = some (.cells #[] 3 (0, 0)) ∧ wo.heap.size ≤ q
        | 12 => ∃ f c, v = .slice f x.2.length c ∧ OwnI W w.heap.size v x.2 ∧ ∀ bb, v.ownBlock = some bb → wo.heap.size ≤ bb
        | 13 => ∃ f c, v = .agg #[.int .i64 x.1, .slice f x.2.length c] ∧ OwnI W w.heap.size (.slice f x.2.length c) x.2 ∧ ∀ bb, (Value.slice f x.2.length c).ownBlock = some bb → wo.heap.size ≤ bb
        | 14 => ∃ q f c, v = .slice (some ⟨q, 0, none⟩) 1 1 ∧ W.heap[q]? = some (.cells #[.int .i64 x.1, .slice f x.2.length c] 54 (0, 0)) ∧ OwnI W w.heap.size (.slice f x.2.length c) x.2 ∧ ∀ bb, (Value.slice f x.2.length c).ownBlock = some bb → wo.heap.size ≤ bb
        | _ => True)
      (fun i vals W => Below w.heap.size w W ∧ ∃ f m c, vals i = .slice f m c ∧ vals 15 = .slice f m c ∧ OwnN W w.heap.size (.slice f m c) (Lk ++ [x])) 15 (by kernel_rfl) (by kernel_rfl) (fun i hi => by cases hi)
      (fun j hj => by simp only [List.getD_eq_getElem?_getD]; rcases Nat.lt_or_ge j 17 with h | h; (obtain rfl | rfl : j = 15 ∨ j = 16 := by omega); rfl; rfl; rw [List.getElem?_eq_none (by simp; omega)]; rfl) (by decide) (fun i v W W' h Bl => by
        split at h
        · obtain ⟨q, h1, h2, h3⟩ := h; exact ⟨q, h1, (Bl.block _ (Array.getElem?_eq_some_iff.1 h2).1).trans h2, h3⟩
        · obtain ⟨f, c, h1, h2, h3⟩ := h; exact ⟨f, c, h1, own_below h2 Bl, h3⟩
        · obtain ⟨f, c, h1, h2, h3⟩ := h; exact ⟨f, c, h1, own_below h2 Bl, h3⟩
        · obtain ⟨q, f, c, h1, h2, h3, h4⟩ := h; exact ⟨q, f, c, h1, (Bl.block _ (Array.getElem?_eq_some_iff.1 h2).1).trans h2, own_below h3 Bl, h4⟩
        · exact trivial) ((Below.refl _ wo).drew) (fun vals hO => ?_)
    refine Rel.c_pure rfl (.slice o1 k o2) rfl (by decide) (hO 0 _ rfl) (by rfl) (fun w hC hd => ?_) ?_
    · clear hd hO; go_simp
    try simp only [Act.put, zT, z0, zS]
    refine Rel.c_pure rfl (.slice (some ⟨bv, ov, none⟩) N lc) rfl (by decide) (hO 1 _ rfl) (by rfl) (fun w hC hd => ?_) ?_
    · clear hd hO; go_simp
    try simp only [Act.put, zT, z0, zS]
    refine Rel.c_pure rfl (.int .i64 k) rfl (by decide) (hO 2 _ rfl) (by rfl) (fun w hC hd => ?_) ?_
    · clear hd hO; go_simp
    try simp only [Act.put, zT, z0, zS]
    refine Rel.c_pure rfl (.pointer (some ⟨bv, ov + k * 2, none⟩)) rfl (by decide) (hO 3 _ rfl) (by rfl) (fun w hC hd => ?_) ?_
    · clear hd hO; go_simp
    try simp only [Act.put, zT, z0, zS]
    refine Rel.c_pure rfl (.pointer (some ⟨bv, ov + k * 2, none⟩)) rfl (by decide) (hO 4 _ rfl) (by rfl) (fun w hC hd => ?_) ?_
    · clear hd hO; go_simp
    try simp only [Act.put, zT, z0, zS]
    refine Rel.c_pure rfl (.int .i64 x.1) rfl (by decide) (hO 5 _ rfl) (by rfl) (fun w hC hd => ?_) ?_
    · obtain ⟨y0, y1, _⟩ := hcW.out w hC; clear hd hO; go_simp
    try simp only [Act.put, zT, z0, zS]
    refine Rel.c_rel rfl rfl (by decide) (by rfl) (fun w hC hd => ?_) ?_
    · refine post_value (.slice (some ⟨w.heap.size, 0, none⟩) 0 0) (w.alloc (.cells #[] 3)) ?_ ⟨(Below.refl _ w).alloc (Nat.le_refl _) _, _, rfl, heap_alloc_new w _, hC.size⟩
      clear hd hO; go_simp
    try simp only [Act.put, zT, z0, zS]
    refine Rel.c_pure rfl (.slice (some ⟨bv, ov, none⟩) N lc) rfl (by decide) (hO 7 _ rfl) (by rfl) (fun w hC hd => ?_) ?_
    · clear hd hO; go_simp
    try simp only [Act.put, zT, z0, zS]
    refine Rel.c_pure rfl (.int .i64 k) rfl (by decide) (hO 8 _ rfl) (by rfl) (fun w hC hd => ?_) ?_
    · clear hd hO; go_simp
    try simp only [Act.put, zT, z0, zS]
    refine Rel.c_pure rfl (.pointer (some ⟨bv, ov + k * 2, none⟩)) rfl (by decide) (hO 9 _ rfl) (by rfl) (fun w hC hd => ?_) ?_
    · clear hd hO; go_simp
    try simp only [Act.put, zT, z0, zS]
    refine Rel.c_pure rfl (.pointer (some ⟨bv, ov + k * 2 + 1, none⟩)) rfl (by decide) (hO 10 _ rfl) (by rfl) (fun w hC hd => ?_) ?_
    · clear hd hO; go_simp
    try simp only [Act.put, zT, z0, zS]
    refine Rel.c_pure rfl (.slice la1 x.2.length la2) rfl (by decide) (hO 11 _ rfl) (by rfl) (fun w hC hd => ?_) ?_
    · obtain ⟨y0, y1, _⟩ := hcW.out w hC; clear hd hO; go_simp
    try simp only [Act.put, zT, z0, zS]
    refine Rel.c_rel rfl rfl (by decide) (by rfl) (fun wz hC hd => ?_) ?_
    · obtain ⟨q, h0, h1, h2⟩ : ∃ q, vals 6 = .slice (some ⟨q, 0, none⟩) 0 0 ∧ wz.heap[q]? = some (.cells #[] 3 (0, 0)) ∧ wo.heap.size ≤ q := hd 6 (by decide)
      obtain ⟨f, c, w', k1, k2, k3, k4⟩ := appL wz q w.heap.size _ x.2 h1 (Nat.le_trans hbase.out h2) (hcW.out wz hC).2.2 (Nat.le_trans hxk.out (by omega)) (Nat.le_trans hbase.out hC.size)
      exact post_append (.tmp 23) (.tmp 28) 26 rfl (.slice (some ⟨q, 0, none⟩) 0 0) (.slice la1 x.2.length la2) h0 rfl _ w' k1 ⟨k3, f, c, rfl, k2, fun bb hbb => by
        rcases k4 bb hbb with rfl | h
        · exact h2
        · exact Nat.le_trans hC.size h⟩
    try simp only [Act.put, zT, z0, zS]
    refine Rel.c_rel rfl rfl (by decide) (by rfl) (fun wz hC hd => ?_) ?_
    · obtain ⟨f, c, h1, h2, h3⟩ : ∃ f c, vals 12 = .slice f x.2.length c ∧ OwnI wz w.heap.size (vals 12) x.2 ∧ ∀ bb, (vals 12).ownBlock = some bb → wo.heap.size ≤ bb := hd 12 (by decide)
      rw [h1] at h2 h3
      refine post_value (.agg #[.int .i64 x.1, .slice f x.2.length c]) wz ?_ ⟨Below.refl _ _, _, _, rfl, h2, h3⟩
      rw [h1]
      clear hd hO h1 h2 h3; go_simp
    try simp only [Act.put, zT, z0, zS]
    refine Rel.c_rel rfl rfl (by decide) (by rfl) (fun wz hC hd => ?_) ?_
    · obtain ⟨f, c, h1, h2, h3⟩ : ∃ f c, vals 13 = .agg #[.int .i64 x.1, .slice f x.2.length c] ∧ OwnI wz w.heap.size (.slice f x.2.length c) x.2 ∧ ∀ bb, (Value.slice f x.2.length c).ownBlock = some bb → wo.heap.size ≤ bb := hd 13 (by decide)
      refine post_value (.slice (some ⟨wz.heap.size, 0, none⟩) 1 1) (wz.alloc (.cells #[.int .i64 x.1, .slice f x.2.length c] 54)) ?_ ⟨(Below.refl _ wz).alloc (Nat.le_refl _) _, _, _, _, rfl, heap_alloc_new wz _, own_below h2 ((Below.refl _ wz).alloc (Nat.le_refl _) _), h3⟩
      rw [h1]
      clear hd hO h1 h2 h3; go_simp
    try simp only [Act.put, zT, z0, zS]
    refine Rel.c_tail0 rfl rfl (by rfl) (fun wz hC hd => ?_) ?_
    · obtain ⟨q, f, c, h1, h2, h3, h4⟩ : ∃ q f c, vals 14 = .slice (some ⟨q, 0, none⟩) 1 1 ∧ wz.heap[q]? = some (.cells #[.int .i64 x.1, .slice f x.2.length c] 54 (0, 0)) ∧ OwnI wz w.heap.size (.slice f x.2.length c) x.2 ∧ ∀ bb, (Value.slice f x.2.length c).ownBlock = some bb → wo.heap.size ≤ bb := hd 14 (by decide)
      have hs := hsW.out wz hC
      obtain ⟨v', w', k1, k2, k3⟩ := snocNG wz w.heap.size q _ Lk x f c vs h2 hs h3 (fun b hb j u hu e => by
        have := hlt2.out j u hu b e
        have := h4 b hb
        omega) (by rw [hkk.out]; exact hlN.out) (Nat.le_trans hbase.out hC.size)
      obtain ⟨f2, c2, rfl⟩ := k2.NL.shape
      exact post_append (.tmp 17) (.tmp 31) 46 rfl (.slice o1 k o2) (.slice (some ⟨q, 0, none⟩) 1 1) rfl h1 _ w' k1 ⟨(hB2.out.trans (hC.mono hB2.out.size)).grown k3 (Nat.le_trans hbase.out hC.size) (fun y hy => (own_row hs.row y hy).1), f2, _, c2, by simp [Rel.upd], by simp [Rel.upd], k2⟩
    try simp only [Act.put, zT, z0, zS]
    refine Rel.c_tail rfl 15 rfl (by decide) (by rfl) (fun w' hF => ?_) ?_
    · obtain ⟨h0, f, m, c, h1, h2, h3⟩ := hF
      refine post_value (.slice f m c) w' ?_ ⟨h0, f, m, c, by simp [Rel.upd], by simpa [Rel.upd] using h1, h3⟩
      rw [h1]
      clear hO h1 h2; go_simp
    try simp only [Act.put, zT, z0, zS]
    refine Rel.c_end ?_
    intro w3 hF
    obtain ⟨hb3, f, m, c, h1, h2, hF⟩ := hF
    have hV3 := Lib.hid hF
    have hB3 := Lib.hid hb3
    have e16 : vals (0 + 1 + 1 + 1 + 1 + 1 + 1 + 1 + 1 + 1 + 1 + 1 + 1 + 1 + 1 + 1 + 1) = .slice f m c := h1
    rw [e16]
    clear hF hO hb3 h1 h2 e16
    go_wp2_with fail
    go_roundg ga
    case measure => omega
    case rel => exact ⟨k + 1, hle.out, by go_num, by rw [hst.out]; exact hV3.out, hB3.out⟩

end Go.Proofs.Ytlnbobclbaieoaa
