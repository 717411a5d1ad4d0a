import Derived.Test.YtlnbobclbaieoaaVNVYQt
import Derived.Test.YtlnbobclbaieoaaVNVYF
import Derived.Deep.RegionLaw
import Derived.Deep.AppendLies
namespace Go.Proofs.Ytlnbobclbaieoaa
open Go.RowKit
theorem inB_iff (n a b : Int) : inB n a b = true ↔ a ≤ n ∧ n ≤ b := by unfold inB; simp
theorem Vx.ok_id (v : Vx) (h : v.ok = true) : 0 ≤ v.id := by
  unfold Vx.ok at h
  simp only [Bool.and_eq_true, inB_iff] at h
  exact h.1.1
/-- the number ahead of place k -/
def before (l : List Vx) (k : Nat) : Int := if k = 0 then -1 else ((l[k - 1]?).map (·.id)).getD (-1)
theorem before_zero (l : List Vx) : before l 0 = -1 := rfl
theorem before_succ (l : List Vx) (k : Nat) (h : k < l.length) : before l (k + 1) = l[k].id := by
  unfold before
  rw [if_neg (by omega)]
  simp [List.getElem?_eq_getElem h]
theorem before_at (l : List Vx) (k : Nat) (h0 : k ≠ 0) (h : k - 1 < l.length) : before l k = l[k - 1].id := by
  unfold before
  rw [if_neg h0]
  simp [List.getElem?_eq_getElem h]

theorem ascV_keys (l : List Vx) : ∀ (x : Int), ascV x l = true → ∀ i ∈ keysV l, inB i 0 23 = true := by
  induction l with
  | nil => intro x _ i hi; simp [keysV] at hi
  | cons v t ih =>
    intro x h i hi
    rw [ascV_cons] at h
    simp only [Bool.and_eq_true] at h
    obtain ⟨⟨_, h2⟩, h3⟩ := h
    have hi2 : i = v.id ∨ i ∈ keysV t := by simpa [keysV] using hi
    rcases hi2 with rfl | hi2
    · unfold Vx.ok at h2
      simp only [Bool.and_eq_true] at h2
      exact h2.1
    · exact ih _ h3 i hi2
theorem okIn_eq (e : Ed) (ks : List Int) (h : ∀ i ∈ ks, inB i 0 23 = true) : e.okIn ks = (e.ok && decide (e.src ∈ ks) && decide (e.dst ∈ ks)) := by
  unfold Ed.okIn Ed.ok
  by_cases h1 : e.src ∈ ks
  · by_cases h2 : e.dst ∈ ks
    · simp [h1, h2, h _ h1, h _ h2]
    · simp [h1, h2]
  · simp [h1]
theorem Ed.ok_id (e : Ed) (h : e.ok = true) : 0 ≤ e.id := by
  unfold Ed.ok at h
  simp only [Bool.and_eq_true, inB_iff] at h
  exact h.1.1.1.1.1
def beforeE (l : List Ed) (k : Nat) : Int := if k = 0 then -1 else ((l[k - 1]?).map (·.id)).getD (-1)
theorem beforeE_succ (l : List Ed) (k : Nat) (h : k < l.length) : beforeE l (k + 1) = l[k].id := by
  unfold beforeE
  rw [if_neg (by omega)]
  simp [List.getElem?_eq_getElem h]
theorem beforeE_at (l : List Ed) (k : Nat) (h0 : k ≠ 0) (h : k - 1 < l.length) : beforeE l k = l[k - 1].id := by
  unfold beforeE
  rw [if_neg h0]
  simp [List.getElem?_eq_getElem h]
def beforeD (l : List Int) (k : Nat) : Int := if k = 0 then -1 else (l[k - 1]?).getD (-1)
theorem beforeD_succ (l : List Int) (k : Nat) (h : k < l.length) : beforeD l (k + 1) = l[k] := by
  unfold beforeD
  rw [if_neg (by omega)]
  simp [List.getElem?_eq_getElem h]
theorem beforeD_at (l : List Int) (k : Nat) (h0 : k ≠ 0) (h : k - 1 < l.length) : beforeD l k = l[k - 1] := by
  unfold beforeD
  rw [if_neg h0]
  simp [List.getElem?_eq_getElem h]

set_option maxRecDepth 100000 in
set_option maxHeartbeats 4000000 in
set_option linter.unusedSimpArgs false in
theorem ValidR_any (v : Value) (g : Gr) (w : World) (hv : GV w v g) (hn : g.small) :
    Calls Try.prog 52 #[v] w fun e w' => e = .returned (.bool g.ok) ∧ Below w.heap.size w w' := by
  obtain ⟨a, b, c, rfl, h1, h2, h3⟩ := hv
  obtain ⟨hn1, hn2, hn3⟩ := hn
  obtain ⟨w1, hw1⟩ : ∃ w1, w1 = w.alloc (.cells #[a, b, c] 28) := ⟨_, rfl⟩
  obtain ⟨hB, hz, hcell0⟩ := one_box w w1 a b c 28 hw1
  have hcell := Lib.hid hcell0
  have hB0 := Lib.hid (fun W (B : Below w1.heap.size w1 W) => hB.trans (B.mono hB.size))
  have v1 := Lib.hid (h1.below hB)
  have v2 := Lib.hid (h2.below hB)
  have v3 := Lib.hid (h3.below hB)
  obtain ⟨vs, es, ds⟩ := g
  dsimp only at *
  obtain ⟨a1, a2, rfl⟩ := h1.shape
  obtain ⟨b1, b2, rfl⟩ := h2.shape
  obtain ⟨c1, c2, rfl⟩ := h3.shape
  have hw2 := Lib.hid hw1
  clear hw1 hcell0 hB h1 h2 h3
  obtain ⟨N1, hN1⟩ : ∃ N, Hid (N = vs.length) := ⟨_, rfl⟩
  obtain ⟨N2, hN2⟩ : ∃ N, Hid (N = es.length) := ⟨_, rfl⟩
  obtain ⟨N3, hN3⟩ : ∃ N, Hid (N = ds.length) := ⟨_, rfl⟩
  rw [← hN1.out] at hw2 hcell hn1 v1 ⊢
  rw [← hN2.out] at hw2 hcell hn2 v2 ⊢
  rw [← hN3.out] at hw2 hcell hn3 v3 ⊢
  have cellV := Lib.hid (show ∀ (k : Nat) (hk : k < vs.length), ∃ b o, a1 = some ⟨b, o, none⟩ ∧ ∀ W, Below w1.heap.size w1 W → W.cell? ⟨b, o + k * 2, none⟩ = some (.int .i64 vs[k].id) ∧ W.cell? ⟨b, o + k * 2 + 1, none⟩ = some (.int .i64 vs[k].side) from fun k hk => by
    obtain ⟨b, o, c, he, e1, e2, e3⟩ := v1.out.own (fun e => by rw [e] at hk; simp at hk)
    injection he with he1 he2 he3
    exact ⟨b, o, he1, fun W B => (e3.below e2 B) k _ (List.getElem?_eq_getElem hk)⟩)
  have cellE := Lib.hid (show ∀ (k : Nat) (hk : k < es.length), ∃ b o, b1 = some ⟨b, o, none⟩ ∧ ∀ W, Below w1.heap.size w1 W → EdAt W b (o + k * 6) es[k] from fun k hk => by
    obtain ⟨b, o, c, he, e1, e2, e3⟩ := v2.out.own (fun e => by rw [e] at hk; simp at hk)
    injection he with he1 he2 he3
    exact ⟨b, o, he1, fun W B => (e3.below e2 B) k _ (List.getElem?_eq_getElem hk)⟩)
  have cellD := Lib.hid (show ∀ (k : Nat) (hk : k < ds.length), ∃ b o, c1 = some ⟨b, o, none⟩ ∧ ∀ W, Below w1.heap.size w1 W → W.cell? ⟨b, o + k, none⟩ = some (.int .i64 ds[k]) from fun k hk => by
    obtain ⟨b, o, c, he, e1, e2, e3⟩ := v3.out.own (fun e => by rw [e] at hk; simp at hk)
    injection he with he1 he2 he3
    exact ⟨b, o, he1, fun W B => (e3.below e2 B) k _ (List.getElem?_eq_getElem hk)⟩)
  have ke := Lib.hid (fun (u : Ed) w' => edgeR_any u w')
  have kp := Lib.hid (fun (x : Int) w' (B : Below w1.heap.size w1 w') => PlaceR_any (.agg #[.slice a1 N1 a2, .slice b1 N2 b2, .slice c1 N3 c2]) ⟨vs, es, ds⟩ x w' ⟨_, _, _, rfl, (show VL w' _ vs from v1.out.below B), (show EL w' _ es from v2.out.below B), (show DL w' _ ds from v3.out.below B)⟩ (by dsimp only; rw [← hN1.out]; exact hn1))
  have kv := Lib.hid (fun (u : Vx) w' => vertexR_any u w')
  have B1 := Below.refl w1.heap.size w1
  go_enter Try.func52, Try.ntmps52
  go_wp2_with fail
  rw [← hw2.out]
  go_loopw [3] (fun i wr => ∃ k : Nat, k ≤ N1 ∧ i = .int .i64 k ∧ Hid (ascV (-1) vs = ascV (before vs k) (vs.drop k)) ∧ Below w1.heap.size w1 wr) (fun i _ => N1 - (intOf i).toNat)
  case atStart => exact ⟨0, by omega, rfl, rfl, B1⟩
  case round =>
    obtain ⟨k, hk, rfl, hr, B⟩ := hrel
    obtain ⟨q0, q1, q2⟩ := hcell.out wr B
    by_cases hlt : k < N1
    · have hkl : k < vs.length := by rw [← hN1.out]; exact hlt
      obtain ⟨bv, ov, rfl, cv⟩ := cellV.out k hkl
      obtain ⟨c0, c1⟩ := cv wr B
      have hd : Hid (ascV (-1) vs = (decide (before vs k < vs[k].id) && vs[k].ok && ascV vs[k].id (vs.drop (k + 1)))) := by show _ = _; rw [hr.out, drop_cons vs k hkl]; rfl
      have hbs : Hid (before vs (k + 1) = vs[k].id) := before_succ vs k hkl
      have hprev : Hid (k ≠ 0 → before vs k = (vs[k - 1]'(by omega)).id) := fun h0 => before_at vs k h0 (by omega)
      have cprev : Hid (k ≠ 0 → ∀ W, Below w1.heap.size w1 W → W.cell? ⟨bv, ov + (k - 1) * 2, none⟩ = some (.int .i64 (before vs k))) := fun h0 W BW => by
        obtain ⟨b', o', he, cp⟩ := cellV.out (k - 1) (by omega)
        injection he with he
        injection he with he1 he2
        subst he1 he2
        rw [hprev.out h0]
        exact (cp W BW).1
      have cvh := Lib.hid cv
      have hyz : Hid (k = 0 → before vs k = -1) := fun h => by rw [h]; rfl
      have i0 : (0 : Int) ≤ (k : Int) := by omega
      have i1 : (k : Int) < (N1 : Int) := by omega
      have hkv := Lib.hid (kv.out vs[k])
      unfold Vx.val at hkv
      have hqh := Lib.hid (fun W (BW : Below w1.heap.size w1 W) => hcell.out W BW)
      clear hr cv hprev
      generalize vs[k] = u at *
      generalize before vs k = y at *
      have hok0 := Vx.ok_id u
      generalize u.ok = ok at *
      cases ok with
      | false =>
        have hf : Hid (Gr.ok ⟨vs, es, ds⟩ = false) := by
          show _ = _
          unfold Gr.ok
          dsimp only
          rw [hd.out]
          simp
        clear hd hok0
        go_wp2_with fail
        refine q_region (fun W => Below w1.heap.size w1 W) (by kernel_rfl) (by kernel_rfl) (B.drew) ?_
        repeat (first | (refine q_skip (by rfl) ?_; try simp only [Act.put, List.setIfInBounds_toArray, List.set_cons_zero, List.set_cons_succ]) | (refine q_take (v := ?_) (by rfl) ?_ ?_; rotate_left; (first | ((intro w h; clear h; go_simp) <;> with_reducible rfl) | ((intro w h; obtain ⟨q0, _, _⟩ := hqh.out w h; obtain ⟨c0, c1⟩ := cvh.out w h; go_simp) <;> with_reducible rfl)); try simp only [Act.put, List.setIfInBounds_toArray, List.set_cons_zero, List.set_cons_succ]))
        refine q_call (v := _) Try.f75 (by rfl) rfl Try.func75 (by kernel_rfl) (by kernel_rfl) #[.agg #[.int .i64 u.id, .int .i64 u.side]] (by simp [Act.eval]) (fun w h => (hkv.out w).mono fun e w2 ⟨he, hb⟩ => ⟨he, h.trans (hb.mono h.size)⟩) ?_
        try simp only [Act.put, List.setIfInBounds_toArray, List.set_cons_zero, List.set_cons_succ]
        repeat (first | (refine q_skip (by rfl) ?_; try simp only [Act.put, List.setIfInBounds_toArray, List.set_cons_zero, List.set_cons_succ]) | (refine q_take (v := ?_) (by rfl) ?_ ?_; rotate_left; (first | ((intro w h; clear h; go_simp) <;> with_reducible rfl) | ((intro w h; obtain ⟨q0, _, _⟩ := hqh.out w h; obtain ⟨c0, c1⟩ := cvh.out w h; go_simp) <;> with_reducible rfl)); try simp only [Act.put, List.setIfInBounds_toArray, List.set_cons_zero, List.set_cons_succ]))
        refine q_nil ?_
        intro w3 B3
        go_wp2_with fail
        go_ret
        exact ⟨ret_bool hf.out.symm, hB0.out _ B3⟩
      | true =>
        have h0id := hok0 rfl
        by_cases hk0 : k = 0
        · have hy : y = -1 := hyz.out hk0
          have hnew : Hid (ascV (-1) vs = ascV (before vs (k + 1)) (vs.drop (k + 1))) := by
            show _ = _
            rw [hd.out, hbs.out, show decide (y < u.id) = true by rw [decide_eq_true_iff]; omega]
            rfl
          have g1 : decide ((k : Int) > 0) = false := by rw [decide_eq_false_iff_not]; omega
          have g2 : decide ((0 : Int) < (k : Int)) = false := by rw [decide_eq_false_iff_not]; omega
          have g3 : decide (0 < k) = false := by rw [decide_eq_false_iff_not]; omega
          have hk0h := Lib.hid hk0
          have hyh := Lib.hid hy
          clear hd hok0 hk0 hy
          go_wp2_with fail
          refine q_region (fun W => Below w1.heap.size w1 W) (by kernel_rfl) (by kernel_rfl) (B.drew) ?_
          repeat (first | (refine q_skip (by rfl) ?_; try simp only [Act.put, List.setIfInBounds_toArray, List.set_cons_zero, List.set_cons_succ]) | (refine q_take (v := ?_) (by rfl) ?_ ?_; rotate_left; (first | ((intro w h; clear h; go_simp) <;> with_reducible rfl) | ((intro w h; obtain ⟨q0, _, _⟩ := hqh.out w h; obtain ⟨c0, c1⟩ := cvh.out w h; go_simp) <;> with_reducible rfl)); try simp only [Act.put, List.setIfInBounds_toArray, List.set_cons_zero, List.set_cons_succ]))
          refine q_call (v := _) Try.f75 (by rfl) rfl Try.func75 (by kernel_rfl) (by kernel_rfl) #[.agg #[.int .i64 u.id, .int .i64 u.side]] (by simp [Act.eval]) (fun w h => (hkv.out w).mono fun e w2 ⟨he, hb⟩ => ⟨he, h.trans (hb.mono h.size)⟩) ?_
          try simp only [Act.put, List.setIfInBounds_toArray, List.set_cons_zero, List.set_cons_succ]
          repeat (first | (refine q_skip (by rfl) ?_; try simp only [Act.put, List.setIfInBounds_toArray, List.set_cons_zero, List.set_cons_succ]) | (refine q_take (v := ?_) (by rfl) ?_ ?_; rotate_left; (first | ((intro w h; clear h; go_simp) <;> with_reducible rfl) | ((intro w h; obtain ⟨q0, _, _⟩ := hqh.out w h; obtain ⟨c0, c1⟩ := cvh.out w h; go_simp) <;> with_reducible rfl)); try simp only [Act.put, List.setIfInBounds_toArray, List.set_cons_zero, List.set_cons_succ]))
          refine q_nil ?_
          intro w3 B3
          go_wp2_with fail
          go_roundw
          case rel => exact ⟨k + 1, by omega, by go_num, hnew.out, B3⟩
          case measure => simp [intOf]; omega
        · have g1 : decide ((k : Int) > 0) = true := by rw [decide_eq_true_iff]; omega
          have g2 : decide ((0 : Int) < (k : Int)) = true := by rw [decide_eq_true_iff]; omega
          have g3 : decide (0 < k) = true := by rw [decide_eq_true_iff]; omega
          have g4 : IntKind.i64.wrap ((k : Int) - 1) = ((k - 1 : Nat) : Int) := by rw [IntWalk.i64_in _ (by omega)]; omega
          have g5 : ((k - 1 : Nat) : Int) < (N1 : Int) := by omega
          have g6 : (0 : Int) ≤ ((k - 1 : Nat) : Int) := by omega
          by_cases hle : u.id ≤ y
          · have t1 : decide (u.id ≤ y) = true := by simpa using hle
            have hf : Hid (Gr.ok ⟨vs, es, ds⟩ = false) := by
              show _ = _
              unfold Gr.ok
              dsimp only
              rw [hd.out, show decide (y < u.id) = false by rw [decide_eq_false_iff_not]; omega]
              simp
            clear hd hok0
            go_wp2_with fail
            refine q_region (fun W => Below w1.heap.size w1 W) (by kernel_rfl) (by kernel_rfl) (B.drew) ?_
            repeat (first | (refine q_skip (by rfl) ?_; try simp only [Act.put, List.setIfInBounds_toArray, List.set_cons_zero, List.set_cons_succ]) | (refine q_take (v := ?_) (by rfl) ?_ ?_; rotate_left; (first | ((intro w h; clear h; go_simp) <;> with_reducible rfl) | ((intro w h; obtain ⟨q0, _, _⟩ := hqh.out w h; obtain ⟨c0, c1⟩ := cvh.out w h; have c2 := cprev.out hk0 w h; go_simp) <;> with_reducible rfl)); try simp only [Act.put, List.setIfInBounds_toArray, List.set_cons_zero, List.set_cons_succ]))
            refine q_call (v := _) Try.f75 (by rfl) rfl Try.func75 (by kernel_rfl) (by kernel_rfl) #[.agg #[.int .i64 u.id, .int .i64 u.side]] (by simp [Act.eval]) (fun w h => (hkv.out w).mono fun e w2 ⟨he, hb⟩ => ⟨he, h.trans (hb.mono h.size)⟩) ?_
            try simp only [Act.put, List.setIfInBounds_toArray, List.set_cons_zero, List.set_cons_succ]
            repeat (first | (refine q_skip (by rfl) ?_; try simp only [Act.put, List.setIfInBounds_toArray, List.set_cons_zero, List.set_cons_succ]) | (refine q_take (v := ?_) (by rfl) ?_ ?_; rotate_left; (first | ((intro w h; clear h; go_simp) <;> with_reducible rfl) | ((intro w h; obtain ⟨q0, _, _⟩ := hqh.out w h; obtain ⟨c0, c1⟩ := cvh.out w h; have c2 := cprev.out hk0 w h; go_simp) <;> with_reducible rfl)); try simp only [Act.put, List.setIfInBounds_toArray, List.set_cons_zero, List.set_cons_succ]))
            refine q_nil ?_
            intro w3 B3
            go_wp2_with fail
            go_ret
            exact ⟨ret_bool hf.out.symm, hB0.out _ B3⟩
          · have t1 : decide (u.id ≤ y) = false := by simpa using hle
            have hnew : Hid (ascV (-1) vs = ascV (before vs (k + 1)) (vs.drop (k + 1))) := by
              show _ = _
              rw [hd.out, hbs.out, show decide (y < u.id) = true by rw [decide_eq_true_iff]; omega]
              rfl
            clear hd hok0
            go_wp2_with fail
            refine q_region (fun W => Below w1.heap.size w1 W) (by kernel_rfl) (by kernel_rfl) (B.drew) ?_
            repeat (first | (refine q_skip (by rfl) ?_; try simp only [Act.put, List.setIfInBounds_toArray, List.set_cons_zero, List.set_cons_succ]) | (refine q_take (v := ?_) (by rfl) ?_ ?_; rotate_left; (first | ((intro w h; clear h; go_simp) <;> with_reducible rfl) | ((intro w h; obtain ⟨q0, _, _⟩ := hqh.out w h; obtain ⟨c0, c1⟩ := cvh.out w h; have c2 := cprev.out hk0 w h; go_simp) <;> with_reducible rfl)); try simp only [Act.put, List.setIfInBounds_toArray, List.set_cons_zero, List.set_cons_succ]))
            refine q_call (v := _) Try.f75 (by rfl) rfl Try.func75 (by kernel_rfl) (by kernel_rfl) #[.agg #[.int .i64 u.id, .int .i64 u.side]] (by simp [Act.eval]) (fun w h => (hkv.out w).mono fun e w2 ⟨he, hb⟩ => ⟨he, h.trans (hb.mono h.size)⟩) ?_
            try simp only [Act.put, List.setIfInBounds_toArray, List.set_cons_zero, List.set_cons_succ]
            repeat (first | (refine q_skip (by rfl) ?_; try simp only [Act.put, List.setIfInBounds_toArray, List.set_cons_zero, List.set_cons_succ]) | (refine q_take (v := ?_) (by rfl) ?_ ?_; rotate_left; (first | ((intro w h; clear h; go_simp) <;> with_reducible rfl) | ((intro w h; obtain ⟨q0, _, _⟩ := hqh.out w h; obtain ⟨c0, c1⟩ := cvh.out w h; have c2 := cprev.out hk0 w h; go_simp) <;> with_reducible rfl)); try simp only [Act.put, List.setIfInBounds_toArray, List.set_cons_zero, List.set_cons_succ]))
            refine q_nil ?_
            intro w3 B3
            go_wp2_with fail
            go_roundw
            case rel => exact ⟨k + 1, by omega, by go_num, hnew.out, B3⟩
            case measure => simp [intOf]; omega
    · have hk2 : k = N1 := by omega
      have hAv : Hid (ascV (-1) vs = true) := by show _ = _; rw [hr.out, List.drop_of_length_le (by rw [hk2, hN1.out]; exact Nat.le_refl _)]; rfl
      have i1 : ¬ (k : Int) < (N1 : Int) := by omega
      clear hk2 hr
      go_wp2_with fail
      obtain ⟨wo, rfl⟩ : ∃ wo : World, wo = wr := ⟨_, rfl⟩
      go_loopw [4, 5] (fun i _ wr => ∃ k : Nat, k ≤ N2 ∧ i = .int .i64 k ∧ Hid (ascE (keysV vs) (-1) es = ascE (keysV vs) (beforeE es k) (es.drop k)) ∧ Below w1.heap.size w1 wr) (fun i _ _ => N2 - (intOf i).toNat)
      case atStart => exact ⟨0, by omega, rfl, rfl, B⟩
      case round =>
        clear q0 q1 q2 B
        obtain ⟨k, hk, rfl, hr, B⟩ := hrel
        obtain ⟨q0, q1, q2⟩ := hcell.out wr B
        by_cases hlt : k < N2
        · have hkl : k < es.length := by rw [← hN2.out]; exact hlt
          obtain ⟨bv, ov, rfl, cv⟩ := cellE.out k hkl
          obtain ⟨d0, d1, d2, d3, d4, d5⟩ := cv wr B
          have hd : Hid (ascE (keysV vs) (-1) es = (decide (beforeE es k < es[k].id) && es[k].okIn (keysV vs) && ascE (keysV vs) es[k].id (es.drop (k + 1)))) := by show _ = _; rw [hr.out, dropE es k hkl]; rfl
          have hbs : Hid (beforeE es (k + 1) = es[k].id) := beforeE_succ es k hkl
          have hprev : Hid (k ≠ 0 → beforeE es k = (es[k - 1]'(by omega)).id) := fun h0 => beforeE_at es k h0 (by omega)
          have cprev : Hid (k ≠ 0 → ∀ W, Below w1.heap.size w1 W → W.cell? ⟨bv, ov + (k - 1) * 6, none⟩ = some (.int .i64 (beforeE es k))) := fun h0 W BW => by
            obtain ⟨b', o', he, cp⟩ := cellE.out (k - 1) (by omega)
            injection he with he
            injection he with he1 he2
            subst he1 he2
            rw [hprev.out h0]
            exact (cp W BW).1
          have hyz : Hid (k = 0 → beforeE es k = -1) := fun h => by rw [h]; rfl
          have hoki : Hid (es[k].okIn (keysV vs) = (es[k].ok && decide (es[k].src ∈ keysV vs) && decide (es[k].dst ∈ keysV vs))) := okIn_eq _ _ (ascV_keys vs (-1) hAv.out)
          have hbad : Hid (ascE (keysV vs) (-1) es = false → Gr.ok ⟨vs, es, ds⟩ = false) := fun h => by unfold Gr.ok; dsimp only; rw [h]; simp
          have i0 : (0 : Int) ≤ (k : Int) := by omega
          have i1 : (k : Int) < (N2 : Int) := by omega
          have Bs := B.size
          obtain ⟨we, hwe⟩ : ∃ we, we = wr.alloc (.cells (edCells es[k]) 40) := ⟨_, rfl⟩
          have hBe : Below w1.heap.size w1 we := by rw [hwe]; exact B.alloc Bs _
          have hze : wr.heap.size < we.heap.size := by rw [hwe]; simp
          have hEd : EdAt we wr.heap.size 0 es[k] := by rw [hwe]; exact EdAt.box wr _ 40
          have hE1 := Lib.hid (fun W (BW : Below we.heap.size we W) => hBe.trans (BW.mono hBe.size))
          have Be := Below.refl we.heap.size we
          have hke := Lib.hid (ke.out es[k])
          have hps := Lib.hid (kp.out es[k].src)
          have hpd := Lib.hid (kp.out es[k].dst)
          unfold Ed.val at hke
          have hweh := Lib.hid hwe
          unfold edCells at hweh
          have hSe := Lib.hid (show ∀ W, Below we.heap.size we W → (W.cell? ⟨w.heap.size, 0, none⟩ = some (.slice a1 N1 a2) ∧ W.cell? ⟨w.heap.size, 1, none⟩ = some (.slice (some ⟨bv, ov, none⟩) N2 b2) ∧ W.cell? ⟨w.heap.size, 2, none⟩ = some (.slice c1 N3 c2) ∧ W.cell? ⟨wr.heap.size, 0, none⟩ = some (.int .i64 es[k].id) ∧ W.cell? ⟨wr.heap.size, 1, none⟩ = some (.int .i64 es[k].src) ∧ W.cell? ⟨wr.heap.size, 2, none⟩ = some (.int .i64 es[k].dst) ∧ W.cell? ⟨wr.heap.size, 3, none⟩ = some (.bool es[k].dir) ∧ W.cell? ⟨wr.heap.size, 4, none⟩ = some (.int .i64 es[k].wt) ∧ W.cell? ⟨wr.heap.size, 5, none⟩ = some (.int .i64 es[k].cap)) from fun W BW => by
            obtain ⟨e0, e1, e2, e3, e4, e5⟩ := hEd.below hze BW
            simp only [Nat.zero_add] at e0 e1 e2 e3 e4 e5
            obtain ⟨f0, f1, f2⟩ := hcell.out W (hE1.out W BW)
            exact ⟨f0, f1, f2, e0, e1, e2, e3, e4, e5⟩)
          have hSe2 := Lib.hid (fun (h0 : k ≠ 0) W (BW : Below we.heap.size we W) => (show (W.cell? ⟨w.heap.size, 0, none⟩ = some (.slice a1 N1 a2) ∧ W.cell? ⟨w.heap.size, 1, none⟩ = some (.slice (some ⟨bv, ov, none⟩) N2 b2) ∧ W.cell? ⟨w.heap.size, 2, none⟩ = some (.slice c1 N3 c2) ∧ W.cell? ⟨wr.heap.size, 0, none⟩ = some (.int .i64 es[k].id) ∧ W.cell? ⟨wr.heap.size, 1, none⟩ = some (.int .i64 es[k].src) ∧ W.cell? ⟨wr.heap.size, 2, none⟩ = some (.int .i64 es[k].dst) ∧ W.cell? ⟨wr.heap.size, 3, none⟩ = some (.bool es[k].dir) ∧ W.cell? ⟨wr.heap.size, 4, none⟩ = some (.int .i64 es[k].wt) ∧ W.cell? ⟨wr.heap.size, 5, none⟩ = some (.int .i64 es[k].cap) ∧ W.cell? ⟨bv, ov + (k - 1) * 6, none⟩ = some (.int .i64 (beforeE es k))) from by
            obtain ⟨f0, f1, f2, e0, e1, e2, e3, e4, e5⟩ := hSe.out W BW
            exact ⟨f0, f1, f2, e0, e1, e2, e3, e4, e5, cprev.out h0 W (hE1.out W BW)⟩))
          clear hr cv hprev hwe hEd cprev
          generalize es[k] = u at *
          generalize beforeE es k = y at *
          have hok0 := Ed.ok_id u
          generalize u.ok = ok at *
          cases ok with
          | false =>
            have hf : Hid (Gr.ok ⟨vs, es, ds⟩ = false) := hbad.out (by rw [hd.out, hoki.out]; simp)
            clear hd hok0 hoki
            go_wp2_with fail
            rw [← hweh.out]
            go_wp2_with fail
            refine q_region (fun W => Below we.heap.size we W) (by kernel_rfl) (by kernel_rfl) (Be.drew) ?_
            repeat (first | (refine q_skip (by rfl) ?_; try simp only [Act.put, List.setIfInBounds_toArray, List.set_cons_zero, List.set_cons_succ]) | (refine q_take (v := ?_) (by rfl) ?_ ?_; rotate_left; (first | ((intro w h; clear h; go_simp) <;> with_reducible rfl) | ((intro w h; obtain ⟨f0, f1, f2, e0, e1, e2, e3, e4, e5⟩ := hSe.out w h; go_simp) <;> with_reducible rfl)); try simp only [Act.put, List.setIfInBounds_toArray, List.set_cons_zero, List.set_cons_succ]))
            refine q_call (v := _) Try.f76 (by rfl) rfl Try.func76 (by kernel_rfl) (by kernel_rfl) #[.agg #[.int .i64 u.id, .int .i64 u.src, .int .i64 u.dst, .bool u.dir, .int .i64 u.wt, .int .i64 u.cap]] (by simp [Act.eval]) (fun w h => (hke.out w).mono fun e w2 ⟨he, hb⟩ => ⟨he, h.trans (hb.mono h.size)⟩) ?_
            try simp only [Act.put, List.setIfInBounds_toArray, List.set_cons_zero, List.set_cons_succ]
            repeat (first | (refine q_skip (by rfl) ?_; try simp only [Act.put, List.setIfInBounds_toArray, List.set_cons_zero, List.set_cons_succ]) | (refine q_take (v := ?_) (by rfl) ?_ ?_; rotate_left; (first | ((intro w h; clear h; go_simp) <;> with_reducible rfl) | ((intro w h; obtain ⟨f0, f1, f2, e0, e1, e2, e3, e4, e5⟩ := hSe.out w h; go_simp) <;> with_reducible rfl)); try simp only [Act.put, List.setIfInBounds_toArray, List.set_cons_zero, List.set_cons_succ]))
            refine q_nil ?_
            intro w3 B3
            go_wp2_with fail
            go_ret
            exact ⟨ret_bool hf.out.symm, hB0.out _ (hE1.out _ B3)⟩
          | true =>
            have h0id := hok0 rfl
            by_cases hk0 : k = 0
            · have hy : y = -1 := hyz.out hk0
              have hlt0 : Hid (decide (y < u.id) = true) := by show _ = _; rw [decide_eq_true_iff]; omega
              have g1 : decide ((k : Int) > 0) = false := by rw [decide_eq_false_iff_not]; omega
              have g2 : decide ((0 : Int) < (k : Int)) = false := by rw [decide_eq_false_iff_not]; omega
              have g3 : decide (0 < k) = false := by rw [decide_eq_false_iff_not]; omega
              have hk0h := Lib.hid hk0
              have hyh := Lib.hid hy
              clear hk0 hy
              go_wp2_with fail
              rw [← hweh.out]
              by_cases hsm : decide (u.src ∈ keysV vs) = true
              rotate_left
              · have hf : Hid (Gr.ok ⟨vs, es, ds⟩ = false) := hbad.out (by rw [hd.out, hoki.out, show decide (u.src ∈ keysV vs) = false by simpa using hsm]; simp)
                have p1 : decide (plI (keysV vs) u.src < 0) = true := by rw [decide_eq_true_iff, plI_neg]; simpa using hsm
                clear hd hoki hok0 hsm
                generalize plI (keysV vs) u.src = ps at *
                go_wp2_with fail
                refine q_region (fun W => Below we.heap.size we W) (by kernel_rfl) (by kernel_rfl) (Be.drew) ?_
                repeat (first | (refine q_skip (by rfl) ?_; try simp only [Act.put, List.setIfInBounds_toArray, List.set_cons_zero, List.set_cons_succ]) | (refine q_take (v := ?_) (by rfl) ?_ ?_; rotate_left; (first | ((intro w h; clear h; go_simp) <;> with_reducible rfl) | ((intro w h; obtain ⟨f0, f1, f2, e0, e1, e2, e3, e4, e5⟩ := hSe.out w h; go_simp) <;> with_reducible rfl)); try simp only [Act.put, List.setIfInBounds_toArray, List.set_cons_zero, List.set_cons_succ]))
                refine q_call (v := _) Try.f76 (by rfl) rfl Try.func76 (by kernel_rfl) (by kernel_rfl) #[.agg #[.int .i64 u.id, .int .i64 u.src, .int .i64 u.dst, .bool u.dir, .int .i64 u.wt, .int .i64 u.cap]] (by simp [Act.eval]) (fun w h => (hke.out w).mono fun e w2 ⟨he, hb⟩ => ⟨he, h.trans (hb.mono h.size)⟩) ?_
                try simp only [Act.put, List.setIfInBounds_toArray, List.set_cons_zero, List.set_cons_succ]
                repeat (first | (refine q_skip (by rfl) ?_; try simp only [Act.put, List.setIfInBounds_toArray, List.set_cons_zero, List.set_cons_succ]) | (refine q_take (v := ?_) (by rfl) ?_ ?_; rotate_left; (first | ((intro w h; clear h; go_simp) <;> with_reducible rfl) | ((intro w h; obtain ⟨f0, f1, f2, e0, e1, e2, e3, e4, e5⟩ := hSe.out w h; go_simp) <;> with_reducible rfl)); try simp only [Act.put, List.setIfInBounds_toArray, List.set_cons_zero, List.set_cons_succ]))
                refine q_call (v := _) Try.f20 (by rfl) rfl Try.func20 (by kernel_rfl) (by kernel_rfl) #[.agg #[.slice a1 N1 a2, .slice (some ⟨bv, ov, none⟩) N2 b2, .slice c1 N3 c2], .int .i64 u.src] (by simp [Act.eval]) (fun w h => (hps.out w (hE1.out w h)).mono fun e w2 ⟨he, hb⟩ => ⟨he, h.trans (hb.mono h.size)⟩) ?_
                try simp only [Act.put, List.setIfInBounds_toArray, List.set_cons_zero, List.set_cons_succ]
                repeat (first | (refine q_skip (by rfl) ?_; try simp only [Act.put, List.setIfInBounds_toArray, List.set_cons_zero, List.set_cons_succ]) | (refine q_take (v := ?_) (by rfl) ?_ ?_; rotate_left; (first | ((intro w h; clear h; go_simp) <;> with_reducible rfl) | ((intro w h; obtain ⟨f0, f1, f2, e0, e1, e2, e3, e4, e5⟩ := hSe.out w h; go_simp) <;> with_reducible rfl)); try simp only [Act.put, List.setIfInBounds_toArray, List.set_cons_zero, List.set_cons_succ]))
                refine q_nil ?_
                intro w4 B4
                go_wp2_with fail
                go_ret
                exact ⟨ret_bool hf.out.symm, hB0.out _ (hE1.out _ B4)⟩
              have p1 : decide (plI (keysV vs) u.src < 0) = false := by rw [decide_eq_false_iff_not, plI_neg]; simpa using hsm
              by_cases hdm : decide (u.dst ∈ keysV vs) = true
              rotate_left
              · have hf : Hid (Gr.ok ⟨vs, es, ds⟩ = false) := hbad.out (by rw [hd.out, hoki.out, show decide (u.dst ∈ keysV vs) = false by simpa using hdm]; simp)
                have p2 : decide (plI (keysV vs) u.dst < 0) = true := by rw [decide_eq_true_iff, plI_neg]; simpa using hdm
                clear hd hoki hok0 hsm hdm
                generalize plI (keysV vs) u.src = ps at *
                generalize plI (keysV vs) u.dst = pd at *
                go_wp2_with fail
                refine q_region (fun W => Below we.heap.size we W) (by kernel_rfl) (by kernel_rfl) (Be.drew) ?_
                repeat (first | (refine q_skip (by rfl) ?_; try simp only [Act.put, List.setIfInBounds_toArray, List.set_cons_zero, List.set_cons_succ]) | (refine q_take (v := ?_) (by rfl) ?_ ?_; rotate_left; (first | ((intro w h; clear h; go_simp) <;> with_reducible rfl) | ((intro w h; obtain ⟨f0, f1, f2, e0, e1, e2, e3, e4, e5⟩ := hSe.out w h; go_simp) <;> with_reducible rfl)); try simp only [Act.put, List.setIfInBounds_toArray, List.set_cons_zero, List.set_cons_succ]))
                refine q_call (v := _) Try.f76 (by rfl) rfl Try.func76 (by kernel_rfl) (by kernel_rfl) #[.agg #[.int .i64 u.id, .int .i64 u.src, .int .i64 u.dst, .bool u.dir, .int .i64 u.wt, .int .i64 u.cap]] (by simp [Act.eval]) (fun w h => (hke.out w).mono fun e w2 ⟨he, hb⟩ => ⟨he, h.trans (hb.mono h.size)⟩) ?_
                try simp only [Act.put, List.setIfInBounds_toArray, List.set_cons_zero, List.set_cons_succ]
                repeat (first | (refine q_skip (by rfl) ?_; try simp only [Act.put, List.setIfInBounds_toArray, List.set_cons_zero, List.set_cons_succ]) | (refine q_take (v := ?_) (by rfl) ?_ ?_; rotate_left; (first | ((intro w h; clear h; go_simp) <;> with_reducible rfl) | ((intro w h; obtain ⟨f0, f1, f2, e0, e1, e2, e3, e4, e5⟩ := hSe.out w h; go_simp) <;> with_reducible rfl)); try simp only [Act.put, List.setIfInBounds_toArray, List.set_cons_zero, List.set_cons_succ]))
                refine q_call (v := _) Try.f20 (by rfl) rfl Try.func20 (by kernel_rfl) (by kernel_rfl) #[.agg #[.slice a1 N1 a2, .slice (some ⟨bv, ov, none⟩) N2 b2, .slice c1 N3 c2], .int .i64 u.src] (by simp [Act.eval]) (fun w h => (hps.out w (hE1.out w h)).mono fun e w2 ⟨he, hb⟩ => ⟨he, h.trans (hb.mono h.size)⟩) ?_
                try simp only [Act.put, List.setIfInBounds_toArray, List.set_cons_zero, List.set_cons_succ]
                repeat (first | (refine q_skip (by rfl) ?_; try simp only [Act.put, List.setIfInBounds_toArray, List.set_cons_zero, List.set_cons_succ]) | (refine q_take (v := ?_) (by rfl) ?_ ?_; rotate_left; (first | ((intro w h; clear h; go_simp) <;> with_reducible rfl) | ((intro w h; obtain ⟨f0, f1, f2, e0, e1, e2, e3, e4, e5⟩ := hSe.out w h; go_simp) <;> with_reducible rfl)); try simp only [Act.put, List.setIfInBounds_toArray, List.set_cons_zero, List.set_cons_succ]))
                refine q_call (v := _) Try.f20 (by rfl) rfl Try.func20 (by kernel_rfl) (by kernel_rfl) #[.agg #[.slice a1 N1 a2, .slice (some ⟨bv, ov, none⟩) N2 b2, .slice c1 N3 c2], .int .i64 u.dst] (by simp [Act.eval]) (fun w h => (hpd.out w (hE1.out w h)).mono fun e w2 ⟨he, hb⟩ => ⟨he, h.trans (hb.mono h.size)⟩) ?_
                try simp only [Act.put, List.setIfInBounds_toArray, List.set_cons_zero, List.set_cons_succ]
                repeat (first | (refine q_skip (by rfl) ?_; try simp only [Act.put, List.setIfInBounds_toArray, List.set_cons_zero, List.set_cons_succ]) | (refine q_take (v := ?_) (by rfl) ?_ ?_; rotate_left; (first | ((intro w h; clear h; go_simp) <;> with_reducible rfl) | ((intro w h; obtain ⟨f0, f1, f2, e0, e1, e2, e3, e4, e5⟩ := hSe.out w h; go_simp) <;> with_reducible rfl)); try simp only [Act.put, List.setIfInBounds_toArray, List.set_cons_zero, List.set_cons_succ]))
                refine q_nil ?_
                intro w5 B5
                go_wp2_with fail
                go_ret
                exact ⟨ret_bool hf.out.symm, hB0.out _ (hE1.out _ B5)⟩
              have p2 : decide (plI (keysV vs) u.dst < 0) = false := by rw [decide_eq_false_iff_not, plI_neg]; simpa using hdm
              have hnew : Hid (ascE (keysV vs) (-1) es = ascE (keysV vs) (beforeE es (k + 1)) (es.drop (k + 1))) := by
                show _ = _
                rw [hd.out, hbs.out, hoki.out, hsm, hdm, hlt0.out]
                rfl
              clear hd hoki hok0 hsm hdm
              generalize plI (keysV vs) u.src = ps at *
              generalize plI (keysV vs) u.dst = pd at *
              go_wp2_with fail
              refine q_region (fun W => Below we.heap.size we W) (by kernel_rfl) (by kernel_rfl) (Be.drew) ?_
              repeat (first | (refine q_skip (by rfl) ?_; try simp only [Act.put, List.setIfInBounds_toArray, List.set_cons_zero, List.set_cons_succ]) | (refine q_take (v := ?_) (by rfl) ?_ ?_; rotate_left; (first | ((intro w h; clear h; go_simp) <;> with_reducible rfl) | ((intro w h; obtain ⟨f0, f1, f2, e0, e1, e2, e3, e4, e5⟩ := hSe.out w h; go_simp) <;> with_reducible rfl)); try simp only [Act.put, List.setIfInBounds_toArray, List.set_cons_zero, List.set_cons_succ]))
              refine q_call (v := _) Try.f76 (by rfl) rfl Try.func76 (by kernel_rfl) (by kernel_rfl) #[.agg #[.int .i64 u.id, .int .i64 u.src, .int .i64 u.dst, .bool u.dir, .int .i64 u.wt, .int .i64 u.cap]] (by simp [Act.eval]) (fun w h => (hke.out w).mono fun e w2 ⟨he, hb⟩ => ⟨he, h.trans (hb.mono h.size)⟩) ?_
              try simp only [Act.put, List.setIfInBounds_toArray, List.set_cons_zero, List.set_cons_succ]
              repeat (first | (refine q_skip (by rfl) ?_; try simp only [Act.put, List.setIfInBounds_toArray, List.set_cons_zero, List.set_cons_succ]) | (refine q_take (v := ?_) (by rfl) ?_ ?_; rotate_left; (first | ((intro w h; clear h; go_simp) <;> with_reducible rfl) | ((intro w h; obtain ⟨f0, f1, f2, e0, e1, e2, e3, e4, e5⟩ := hSe.out w h; go_simp) <;> with_reducible rfl)); try simp only [Act.put, List.setIfInBounds_toArray, List.set_cons_zero, List.set_cons_succ]))
              refine q_call (v := _) Try.f20 (by rfl) rfl Try.func20 (by kernel_rfl) (by kernel_rfl) #[.agg #[.slice a1 N1 a2, .slice (some ⟨bv, ov, none⟩) N2 b2, .slice c1 N3 c2], .int .i64 u.src] (by simp [Act.eval]) (fun w h => (hps.out w (hE1.out w h)).mono fun e w2 ⟨he, hb⟩ => ⟨he, h.trans (hb.mono h.size)⟩) ?_
              try simp only [Act.put, List.setIfInBounds_toArray, List.set_cons_zero, List.set_cons_succ]
              repeat (first | (refine q_skip (by rfl) ?_; try simp only [Act.put, List.setIfInBounds_toArray, List.set_cons_zero, List.set_cons_succ]) | (refine q_take (v := ?_) (by rfl) ?_ ?_; rotate_left; (first | ((intro w h; clear h; go_simp) <;> with_reducible rfl) | ((intro w h; obtain ⟨f0, f1, f2, e0, e1, e2, e3, e4, e5⟩ := hSe.out w h; go_simp) <;> with_reducible rfl)); try simp only [Act.put, List.setIfInBounds_toArray, List.set_cons_zero, List.set_cons_succ]))
              refine q_call (v := _) Try.f20 (by rfl) rfl Try.func20 (by kernel_rfl) (by kernel_rfl) #[.agg #[.slice a1 N1 a2, .slice (some ⟨bv, ov, none⟩) N2 b2, .slice c1 N3 c2], .int .i64 u.dst] (by simp [Act.eval]) (fun w h => (hpd.out w (hE1.out w h)).mono fun e w2 ⟨he, hb⟩ => ⟨he, h.trans (hb.mono h.size)⟩) ?_
              try simp only [Act.put, List.setIfInBounds_toArray, List.set_cons_zero, List.set_cons_succ]
              repeat (first | (refine q_skip (by rfl) ?_; try simp only [Act.put, List.setIfInBounds_toArray, List.set_cons_zero, List.set_cons_succ]) | (refine q_take (v := ?_) (by rfl) ?_ ?_; rotate_left; (first | ((intro w h; clear h; go_simp) <;> with_reducible rfl) | ((intro w h; obtain ⟨f0, f1, f2, e0, e1, e2, e3, e4, e5⟩ := hSe.out w h; go_simp) <;> with_reducible rfl)); try simp only [Act.put, List.setIfInBounds_toArray, List.set_cons_zero, List.set_cons_succ]))
              refine q_nil ?_
              intro w5 B5
              go_wp2_with fail
              go_roundw
              case rel => exact ⟨k + 1, by omega, by go_num, hnew.out, hE1.out _ B5⟩
              case measure => simp [intOf]; omega
            · have g1 : decide ((k : Int) > 0) = true := by rw [decide_eq_true_iff]; omega
              have g2 : decide ((0 : Int) < (k : Int)) = true := by rw [decide_eq_true_iff]; omega
              have g3 : decide (0 < k) = true := by rw [decide_eq_true_iff]; omega
              have g4 : IntKind.i64.wrap ((k : Int) - 1) = ((k - 1 : Nat) : Int) := by rw [IntWalk.i64_in _ (by omega)]; omega
              have g5 : ((k - 1 : Nat) : Int) < (N2 : Int) := by omega
              have g6 : (0 : Int) ≤ ((k - 1 : Nat) : Int) := by omega
              by_cases hle : u.id ≤ y
              · have t1 : decide (u.id ≤ y) = true := by simpa using hle
                have hf : Hid (Gr.ok ⟨vs, es, ds⟩ = false) := hbad.out (by rw [hd.out, show decide (y < u.id) = false by rw [decide_eq_false_iff_not]; omega]; simp)
                clear hd hok0 hoki
                go_wp2_with fail
                rw [← hweh.out]
                go_wp2_with fail
                refine q_region (fun W => Below we.heap.size we W) (by kernel_rfl) (by kernel_rfl) (Be.drew) ?_
                repeat (first | (refine q_skip (by rfl) ?_; try simp only [Act.put, List.setIfInBounds_toArray, List.set_cons_zero, List.set_cons_succ]) | (refine q_take (v := ?_) (by rfl) ?_ ?_; rotate_left; (first | ((intro w h; clear h; go_simp) <;> with_reducible rfl) | ((intro w h; obtain ⟨f0, f1, f2, e0, e1, e2, e3, e4, e5, c2⟩ := hSe2.out hk0 w h; go_simp) <;> with_reducible rfl)); try simp only [Act.put, List.setIfInBounds_toArray, List.set_cons_zero, List.set_cons_succ]))
                refine q_call (v := _) Try.f76 (by rfl) rfl Try.func76 (by kernel_rfl) (by kernel_rfl) #[.agg #[.int .i64 u.id, .int .i64 u.src, .int .i64 u.dst, .bool u.dir, .int .i64 u.wt, .int .i64 u.cap]] (by simp [Act.eval]) (fun w h => (hke.out w).mono fun e w2 ⟨he, hb⟩ => ⟨he, h.trans (hb.mono h.size)⟩) ?_
                try simp only [Act.put, List.setIfInBounds_toArray, List.set_cons_zero, List.set_cons_succ]
                repeat (first | (refine q_skip (by rfl) ?_; try simp only [Act.put, List.setIfInBounds_toArray, List.set_cons_zero, List.set_cons_succ]) | (refine q_take (v := ?_) (by rfl) ?_ ?_; rotate_left; (first | ((intro w h; clear h; go_simp) <;> with_reducible rfl) | ((intro w h; obtain ⟨f0, f1, f2, e0, e1, e2, e3, e4, e5, c2⟩ := hSe2.out hk0 w h; go_simp) <;> with_reducible rfl)); try simp only [Act.put, List.setIfInBounds_toArray, List.set_cons_zero, List.set_cons_succ]))
                refine q_nil ?_
                intro w3 B3
                go_wp2_with fail
                go_ret
                exact ⟨ret_bool hf.out.symm, hB0.out _ (hE1.out _ B3)⟩
              · have t1 : decide (u.id ≤ y) = false := by simpa using hle
                have hlt0 : Hid (decide (y < u.id) = true) := by show _ = _; rw [decide_eq_true_iff]; omega
                go_wp2_with fail
                rw [← hweh.out]
                by_cases hsm : decide (u.src ∈ keysV vs) = true
                rotate_left
                · have hf : Hid (Gr.ok ⟨vs, es, ds⟩ = false) := hbad.out (by rw [hd.out, hoki.out, show decide (u.src ∈ keysV vs) = false by simpa using hsm]; simp)
                  have p1 : decide (plI (keysV vs) u.src < 0) = true := by rw [decide_eq_true_iff, plI_neg]; simpa using hsm
                  clear hd hoki hok0 hsm
                  generalize plI (keysV vs) u.src = ps at *
                  go_wp2_with fail
                  refine q_region (fun W => Below we.heap.size we W) (by kernel_rfl) (by kernel_rfl) (Be.drew) ?_
                  repeat (first | (refine q_skip (by rfl) ?_; try simp only [Act.put, List.setIfInBounds_toArray, List.set_cons_zero, List.set_cons_succ]) | (refine q_take (v := ?_) (by rfl) ?_ ?_; rotate_left; (first | ((intro w h; clear h; go_simp) <;> with_reducible rfl) | ((intro w h; obtain ⟨f0, f1, f2, e0, e1, e2, e3, e4, e5, c2⟩ := hSe2.out hk0 w h; go_simp) <;> with_reducible rfl)); try simp only [Act.put, List.setIfInBounds_toArray, List.set_cons_zero, List.set_cons_succ]))
                  refine q_call (v := _) Try.f76 (by rfl) rfl Try.func76 (by kernel_rfl) (by kernel_rfl) #[.agg #[.int .i64 u.id, .int .i64 u.src, .int .i64 u.dst, .bool u.dir, .int .i64 u.wt, .int .i64 u.cap]] (by simp [Act.eval]) (fun w h => (hke.out w).mono fun e w2 ⟨he, hb⟩ => ⟨he, h.trans (hb.mono h.size)⟩) ?_
                  try simp only [Act.put, List.setIfInBounds_toArray, List.set_cons_zero, List.set_cons_succ]
                  repeat (first | (refine q_skip (by rfl) ?_; try simp only [Act.put, List.setIfInBounds_toArray, List.set_cons_zero, List.set_cons_succ]) | (refine q_take (v := ?_) (by rfl) ?_ ?_; rotate_left; (first | ((intro w h; clear h; go_simp) <;> with_reducible rfl) | ((intro w h; obtain ⟨f0, f1, f2, e0, e1, e2, e3, e4, e5, c2⟩ := hSe2.out hk0 w h; go_simp) <;> with_reducible rfl)); try simp only [Act.put, List.setIfInBounds_toArray, List.set_cons_zero, List.set_cons_succ]))
                  refine q_call (v := _) Try.f20 (by rfl) rfl Try.func20 (by kernel_rfl) (by kernel_rfl) #[.agg #[.slice a1 N1 a2, .slice (some ⟨bv, ov, none⟩) N2 b2, .slice c1 N3 c2], .int .i64 u.src] (by simp [Act.eval]) (fun w h => (hps.out w (hE1.out w h)).mono fun e w2 ⟨he, hb⟩ => ⟨he, h.trans (hb.mono h.size)⟩) ?_
                  try simp only [Act.put, List.setIfInBounds_toArray, List.set_cons_zero, List.set_cons_succ]
                  repeat (first | (refine q_skip (by rfl) ?_; try simp only [Act.put, List.setIfInBounds_toArray, List.set_cons_zero, List.set_cons_succ]) | (refine q_take (v := ?_) (by rfl) ?_ ?_; rotate_left; (first | ((intro w h; clear h; go_simp) <;> with_reducible rfl) | ((intro w h; obtain ⟨f0, f1, f2, e0, e1, e2, e3, e4, e5, c2⟩ := hSe2.out hk0 w h; go_simp) <;> with_reducible rfl)); try simp only [Act.put, List.setIfInBounds_toArray, List.set_cons_zero, List.set_cons_succ]))
                  refine q_nil ?_
                  intro w4 B4
                  go_wp2_with fail
                  go_ret
                  exact ⟨ret_bool hf.out.symm, hB0.out _ (hE1.out _ B4)⟩
                have p1 : decide (plI (keysV vs) u.src < 0) = false := by rw [decide_eq_false_iff_not, plI_neg]; simpa using hsm
                by_cases hdm : decide (u.dst ∈ keysV vs) = true
                rotate_left
                · have hf : Hid (Gr.ok ⟨vs, es, ds⟩ = false) := hbad.out (by rw [hd.out, hoki.out, show decide (u.dst ∈ keysV vs) = false by simpa using hdm]; simp)
                  have p2 : decide (plI (keysV vs) u.dst < 0) = true := by rw [decide_eq_true_iff, plI_neg]; simpa using hdm
                  clear hd hoki hok0 hsm hdm
                  generalize plI (keysV vs) u.src = ps at *
                  generalize plI (keysV vs) u.dst = pd at *
                  go_wp2_with fail
                  refine q_region (fun W => Below we.heap.size we W) (by kernel_rfl) (by kernel_rfl) (Be.drew) ?_
                  repeat (first | (refine q_skip (by rfl) ?_; try simp only [Act.put, List.setIfInBounds_toArray, List.set_cons_zero, List.set_cons_succ]) | (refine q_take (v := ?_) (by rfl) ?_ ?_; rotate_left; (first | ((intro w h; clear h; go_simp) <;> with_reducible rfl) | ((intro w h; obtain ⟨f0, f1, f2, e0, e1, e2, e3, e4, e5, c2⟩ := hSe2.out hk0 w h; go_simp) <;> with_reducible rfl)); try simp only [Act.put, List.setIfInBounds_toArray, List.set_cons_zero, List.set_cons_succ]))
                  refine q_call (v := _) Try.f76 (by rfl) rfl Try.func76 (by kernel_rfl) (by kernel_rfl) #[.agg #[.int .i64 u.id, .int .i64 u.src, .int .i64 u.dst, .bool u.dir, .int .i64 u.wt, .int .i64 u.cap]] (by simp [Act.eval]) (fun w h => (hke.out w).mono fun e w2 ⟨he, hb⟩ => ⟨he, h.trans (hb.mono h.size)⟩) ?_
                  try simp only [Act.put, List.setIfInBounds_toArray, List.set_cons_zero, List.set_cons_succ]
                  repeat (first | (refine q_skip (by rfl) ?_; try simp only [Act.put, List.setIfInBounds_toArray, List.set_cons_zero, List.set_cons_succ]) | (refine q_take (v := ?_) (by rfl) ?_ ?_; rotate_left; (first | ((intro w h; clear h; go_simp) <;> with_reducible rfl) | ((intro w h; obtain ⟨f0, f1, f2, e0, e1, e2, e3, e4, e5, c2⟩ := hSe2.out hk0 w h; go_simp) <;> with_reducible rfl)); try simp only [Act.put, List.setIfInBounds_toArray, List.set_cons_zero, List.set_cons_succ]))
                  refine q_call (v := _) Try.f20 (by rfl) rfl Try.func20 (by kernel_rfl) (by kernel_rfl) #[.agg #[.slice a1 N1 a2, .slice (some ⟨bv, ov, none⟩) N2 b2, .slice c1 N3 c2], .int .i64 u.src] (by simp [Act.eval]) (fun w h => (hps.out w (hE1.out w h)).mono fun e w2 ⟨he, hb⟩ => ⟨he, h.trans (hb.mono h.size)⟩) ?_
                  try simp only [Act.put, List.setIfInBounds_toArray, List.set_cons_zero, List.set_cons_succ]
                  repeat (first | (refine q_skip (by rfl) ?_; try simp only [Act.put, List.setIfInBounds_toArray, List.set_cons_zero, List.set_cons_succ]) | (refine q_take (v := ?_) (by rfl) ?_ ?_; rotate_left; (first | ((intro w h; clear h; go_simp) <;> with_reducible rfl) | ((intro w h; obtain ⟨f0, f1, f2, e0, e1, e2, e3, e4, e5, c2⟩ := hSe2.out hk0 w h; go_simp) <;> with_reducible rfl)); try simp only [Act.put, List.setIfInBounds_toArray, List.set_cons_zero, List.set_cons_succ]))
                  refine q_call (v := _) Try.f20 (by rfl) rfl Try.func20 (by kernel_rfl) (by kernel_rfl) #[.agg #[.slice a1 N1 a2, .slice (some ⟨bv, ov, none⟩) N2 b2, .slice c1 N3 c2], .int .i64 u.dst] (by simp [Act.eval]) (fun w h => (hpd.out w (hE1.out w h)).mono fun e w2 ⟨he, hb⟩ => ⟨he, h.trans (hb.mono h.size)⟩) ?_
                  try simp only [Act.put, List.setIfInBounds_toArray, List.set_cons_zero, List.set_cons_succ]
                  repeat (first | (refine q_skip (by rfl) ?_; try simp only [Act.put, List.setIfInBounds_toArray, List.set_cons_zero, List.set_cons_succ]) | (refine q_take (v := ?_) (by rfl) ?_ ?_; rotate_left; (first | ((intro w h; clear h; go_simp) <;> with_reducible rfl) | ((intro w h; obtain ⟨f0, f1, f2, e0, e1, e2, e3, e4, e5, c2⟩ := hSe2.out hk0 w h; go_simp) <;> with_reducible rfl)); try simp only [Act.put, List.setIfInBounds_toArray, List.set_cons_zero, List.set_cons_succ]))
                  refine q_nil ?_
                  intro w5 B5
                  go_wp2_with fail
                  go_ret
                  exact ⟨ret_bool hf.out.symm, hB0.out _ (hE1.out _ B5)⟩
                have p2 : decide (plI (keysV vs) u.dst < 0) = false := by rw [decide_eq_false_iff_not, plI_neg]; simpa using hdm
                have hnew : Hid (ascE (keysV vs) (-1) es = ascE (keysV vs) (beforeE es (k + 1)) (es.drop (k + 1))) := by
                  show _ = _
                  rw [hd.out, hbs.out, hoki.out, hsm, hdm, hlt0.out]
                  rfl
                clear hd hoki hok0 hsm hdm
                generalize plI (keysV vs) u.src = ps at *
                generalize plI (keysV vs) u.dst = pd at *
                go_wp2_with fail
                refine q_region (fun W => Below we.heap.size we W) (by kernel_rfl) (by kernel_rfl) (Be.drew) ?_
                repeat (first | (refine q_skip (by rfl) ?_; try simp only [Act.put, List.setIfInBounds_toArray, List.set_cons_zero, List.set_cons_succ]) | (refine q_take (v := ?_) (by rfl) ?_ ?_; rotate_left; (first | ((intro w h; clear h; go_simp) <;> with_reducible rfl) | ((intro w h; obtain ⟨f0, f1, f2, e0, e1, e2, e3, e4, e5, c2⟩ := hSe2.out hk0 w h; go_simp) <;> with_reducible rfl)); try simp only [Act.put, List.setIfInBounds_toArray, List.set_cons_zero, List.set_cons_succ]))
                refine q_call (v := _) Try.f76 (by rfl) rfl Try.func76 (by kernel_rfl) (by kernel_rfl) #[.agg #[.int .i64 u.id, .int .i64 u.src, .int .i64 u.dst, .bool u.dir, .int .i64 u.wt, .int .i64 u.cap]] (by simp [Act.eval]) (fun w h => (hke.out w).mono fun e w2 ⟨he, hb⟩ => ⟨he, h.trans (hb.mono h.size)⟩) ?_
                try simp only [Act.put, List.setIfInBounds_toArray, List.set_cons_zero, List.set_cons_succ]
                repeat (first | (refine q_skip (by rfl) ?_; try simp only [Act.put, List.setIfInBounds_toArray, List.set_cons_zero, List.set_cons_succ]) | (refine q_take (v := ?_) (by rfl) ?_ ?_; rotate_left; (first | ((intro w h; clear h; go_simp) <;> with_reducible rfl) | ((intro w h; obtain ⟨f0, f1, f2, e0, e1, e2, e3, e4, e5, c2⟩ := hSe2.out hk0 w h; go_simp) <;> with_reducible rfl)); try simp only [Act.put, List.setIfInBounds_toArray, List.set_cons_zero, List.set_cons_succ]))
                refine q_call (v := _) Try.f20 (by rfl) rfl Try.func20 (by kernel_rfl) (by kernel_rfl) #[.agg #[.slice a1 N1 a2, .slice (some ⟨bv, ov, none⟩) N2 b2, .slice c1 N3 c2], .int .i64 u.src] (by simp [Act.eval]) (fun w h => (hps.out w (hE1.out w h)).mono fun e w2 ⟨he, hb⟩ => ⟨he, h.trans (hb.mono h.size)⟩) ?_
                try simp only [Act.put, List.setIfInBounds_toArray, List.set_cons_zero, List.set_cons_succ]
                repeat (first | (refine q_skip (by rfl) ?_; try simp only [Act.put, List.setIfInBounds_toArray, List.set_cons_zero, List.set_cons_succ]) | (refine q_take (v := ?_) (by rfl) ?_ ?_; rotate_left; (first | ((intro w h; clear h; go_simp) <;> with_reducible rfl) | ((intro w h; obtain ⟨f0, f1, f2, e0, e1, e2, e3, e4, e5, c2⟩ := hSe2.out hk0 w h; go_simp) <;> with_reducible rfl)); try simp only [Act.put, List.setIfInBounds_toArray, List.set_cons_zero, List.set_cons_succ]))
                refine q_call (v := _) Try.f20 (by rfl) rfl Try.func20 (by kernel_rfl) (by kernel_rfl) #[.agg #[.slice a1 N1 a2, .slice (some ⟨bv, ov, none⟩) N2 b2, .slice c1 N3 c2], .int .i64 u.dst] (by simp [Act.eval]) (fun w h => (hpd.out w (hE1.out w h)).mono fun e w2 ⟨he, hb⟩ => ⟨he, h.trans (hb.mono h.size)⟩) ?_
                try simp only [Act.put, List.setIfInBounds_toArray, List.set_cons_zero, List.set_cons_succ]
                repeat (first | (refine q_skip (by rfl) ?_; try simp only [Act.put, List.setIfInBounds_toArray, List.set_cons_zero, List.set_cons_succ]) | (refine q_take (v := ?_) (by rfl) ?_ ?_; rotate_left; (first | ((intro w h; clear h; go_simp) <;> with_reducible rfl) | ((intro w h; obtain ⟨f0, f1, f2, e0, e1, e2, e3, e4, e5, c2⟩ := hSe2.out hk0 w h; go_simp) <;> with_reducible rfl)); try simp only [Act.put, List.setIfInBounds_toArray, List.set_cons_zero, List.set_cons_succ]))
                refine q_nil ?_
                intro w5 B5
                go_wp2_with fail
                go_roundw
                case rel => exact ⟨k + 1, by omega, by go_num, hnew.out, hE1.out _ B5⟩
                case measure => simp [intOf]; omega
        · have hk2 : k = N2 := by omega
          have hAe : Hid (ascE (keysV vs) (-1) es = true) := by show _ = _; rw [hr.out, List.drop_of_length_le (by rw [hk2, hN2.out]; exact Nat.le_refl _)]; rfl
          have i1 : ¬ (k : Int) < (N2 : Int) := by omega
          clear hk2 hr
          go_wp2_with fail
          obtain ⟨wp, rfl⟩ : ∃ wp : World, wp = wr := ⟨_, rfl⟩
          go_loopw [6] (fun i wr => ∃ k : Nat, k ≤ N3 ∧ i = .int .i64 k ∧ Hid (ascD (keysV vs) (-1) ds = ascD (keysV vs) (beforeD ds k) (ds.drop k)) ∧ Below w1.heap.size w1 wr) (fun i _ => N3 - (intOf i).toNat)
          case atStart => exact ⟨0, by omega, rfl, rfl, B⟩
          case round =>
            clear q0 q1 q2 B
            obtain ⟨k, hk, rfl, hr, B⟩ := hrel
            obtain ⟨q0, q1, q2⟩ := hcell.out wr B
            have hbad : Hid (ascD (keysV vs) (-1) ds = false → Gr.ok ⟨vs, es, ds⟩ = false) := fun h => by unfold Gr.ok dOk; dsimp only; rw [h]; simp
            by_cases hlt : k < N3
            · have hkl : k < ds.length := by rw [← hN3.out]; exact hlt
              obtain ⟨bv, ov, rfl, cv⟩ := cellD.out k hkl
              have d0 := cv wr B
              have hd : Hid (ascD (keysV vs) (-1) ds = (decide (beforeD ds k < ds[k]) && decide (ds[k] ∈ keysV vs) && ascD (keysV vs) ds[k] (ds.drop (k + 1)))) := by show _ = _; rw [hr.out, dropD ds k hkl]; rfl
              have hbs : Hid (beforeD ds (k + 1) = ds[k]) := beforeD_succ ds k hkl
              have hprev : Hid (k ≠ 0 → beforeD ds k = ds[k - 1]'(by omega)) := fun h0 => beforeD_at ds k h0 (by omega)
              have hyz : Hid (k = 0 → beforeD ds k = -1) := fun h => by rw [h]; rfl
              have hgood : Hid (decide (ds[k] ∈ keysV vs) = true → 0 ≤ ds[k]) := fun h => by
                have := ascV_keys vs (-1) hAv.out ds[k] (by simpa using h)
                rw [inB_iff] at this
                exact this.1
              have i0 : (0 : Int) ≤ (k : Int) := by omega
              have i1 : (k : Int) < (N3 : Int) := by omega
              have hps := Lib.hid (kp.out ds[k])
              have hSd := Lib.hid (show ∀ W, Below w1.heap.size w1 W → (W.cell? ⟨w.heap.size, 0, none⟩ = some (.slice a1 N1 a2) ∧ W.cell? ⟨w.heap.size, 1, none⟩ = some (.slice b1 N2 b2) ∧ W.cell? ⟨w.heap.size, 2, none⟩ = some (.slice (some ⟨bv, ov, none⟩) N3 c2) ∧ W.cell? ⟨bv, ov + k, none⟩ = some (.int .i64 ds[k])) from fun W BW => by
                obtain ⟨f0, f1, f2⟩ := hcell.out W BW
                exact ⟨f0, f1, f2, cv W BW⟩)
              have hSd2 := Lib.hid (fun (h0 : k ≠ 0) W (BW : Below w1.heap.size w1 W) => (show (W.cell? ⟨w.heap.size, 0, none⟩ = some (.slice a1 N1 a2) ∧ W.cell? ⟨w.heap.size, 1, none⟩ = some (.slice b1 N2 b2) ∧ W.cell? ⟨w.heap.size, 2, none⟩ = some (.slice (some ⟨bv, ov, none⟩) N3 c2) ∧ W.cell? ⟨bv, ov + k, none⟩ = some (.int .i64 ds[k]) ∧ W.cell? ⟨bv, ov + (k - 1), none⟩ = some (.int .i64 (beforeD ds k))) from by
                obtain ⟨f0, f1, f2⟩ := hcell.out W BW
                obtain ⟨b', o', he, cp⟩ := cellD.out (k - 1) (by omega)
                injection he with he
                injection he with he1 he2
                subst he1 he2
                rw [hprev.out h0]
                exact ⟨f0, f1, f2, cv W BW, cp W BW⟩))
              clear hr cv hprev
              generalize ds[k] = u at *
              generalize beforeD ds k = y at *
              by_cases hsm : decide (u ∈ keysV vs) = true
              rotate_left
              · have hf : Hid (Gr.ok ⟨vs, es, ds⟩ = false) := hbad.out (by rw [hd.out, show decide (u ∈ keysV vs) = false by simpa using hsm]; simp)
                have p1 : decide (plI (keysV vs) u < 0) = true := by rw [decide_eq_true_iff, plI_neg]; simpa using hsm
                clear hd hsm
                generalize plI (keysV vs) u = ps at *
                go_wp2_with fail
                refine q_region (fun W => Below w1.heap.size w1 W) (by kernel_rfl) (by kernel_rfl) (B.drew) ?_
                repeat (first | (refine q_skip (by rfl) ?_; try simp only [Act.put, List.setIfInBounds_toArray, List.set_cons_zero, List.set_cons_succ]) | (refine q_take (v := ?_) (by rfl) ?_ ?_; rotate_left; (first | ((intro w h; clear h; go_simp) <;> with_reducible rfl) | ((intro w h; obtain ⟨f0, f1, f2, c0⟩ := hSd.out w h; go_simp) <;> with_reducible rfl)); try simp only [Act.put, List.setIfInBounds_toArray, List.set_cons_zero, List.set_cons_succ]))
                refine q_call (v := _) Try.f20 (by rfl) rfl Try.func20 (by kernel_rfl) (by kernel_rfl) #[.agg #[.slice a1 N1 a2, .slice b1 N2 b2, .slice (some ⟨bv, ov, none⟩) N3 c2], .int .i64 u] (by simp [Act.eval]) (fun w h => (hps.out w h).mono fun e w2 ⟨he, hb⟩ => ⟨he, h.trans (hb.mono h.size)⟩) ?_
                try simp only [Act.put, List.setIfInBounds_toArray, List.set_cons_zero, List.set_cons_succ]
                repeat (first | (refine q_skip (by rfl) ?_; try simp only [Act.put, List.setIfInBounds_toArray, List.set_cons_zero, List.set_cons_succ]) | (refine q_take (v := ?_) (by rfl) ?_ ?_; rotate_left; (first | ((intro w h; clear h; go_simp) <;> with_reducible rfl) | ((intro w h; obtain ⟨f0, f1, f2, c0⟩ := hSd.out w h; go_simp) <;> with_reducible rfl)); try simp only [Act.put, List.setIfInBounds_toArray, List.set_cons_zero, List.set_cons_succ]))
                refine q_nil ?_
                intro w3 B3
                go_wp2_with fail
                go_ret
                exact ⟨ret_bool hf.out.symm, hB0.out _ B3⟩
              have p1 : decide (plI (keysV vs) u < 0) = false := by rw [decide_eq_false_iff_not, plI_neg]; simpa using hsm
              have h0id := hgood.out hsm
              by_cases hk0 : k = 0
              · have hy : y = -1 := hyz.out hk0
                have hnew : Hid (ascD (keysV vs) (-1) ds = ascD (keysV vs) (beforeD ds (k + 1)) (ds.drop (k + 1))) := by
                  show _ = _
                  rw [hd.out, hbs.out, hsm, show decide (y < u) = true by rw [decide_eq_true_iff]; omega]
                  rfl
                have g1 : decide ((k : Int) > 0) = false := by rw [decide_eq_false_iff_not]; omega
                have g2 : decide ((0 : Int) < (k : Int)) = false := by rw [decide_eq_false_iff_not]; omega
                have g3 : decide (0 < k) = false := by rw [decide_eq_false_iff_not]; omega
                have hk0h := Lib.hid hk0
                have hyh := Lib.hid hy
                clear hk0 hy hd hsm
                generalize plI (keysV vs) u = ps at *
                go_wp2_with fail
                refine q_region (fun W => Below w1.heap.size w1 W) (by kernel_rfl) (by kernel_rfl) (B.drew) ?_
                repeat (first | (refine q_skip (by rfl) ?_; try simp only [Act.put, List.setIfInBounds_toArray, List.set_cons_zero, List.set_cons_succ]) | (refine q_take (v := ?_) (by rfl) ?_ ?_; rotate_left; (first | ((intro w h; clear h; go_simp) <;> with_reducible rfl) | ((intro w h; obtain ⟨f0, f1, f2, c0⟩ := hSd.out w h; go_simp) <;> with_reducible rfl)); try simp only [Act.put, List.setIfInBounds_toArray, List.set_cons_zero, List.set_cons_succ]))
                refine q_call (v := _) Try.f20 (by rfl) rfl Try.func20 (by kernel_rfl) (by kernel_rfl) #[.agg #[.slice a1 N1 a2, .slice b1 N2 b2, .slice (some ⟨bv, ov, none⟩) N3 c2], .int .i64 u] (by simp [Act.eval]) (fun w h => (hps.out w h).mono fun e w2 ⟨he, hb⟩ => ⟨he, h.trans (hb.mono h.size)⟩) ?_
                try simp only [Act.put, List.setIfInBounds_toArray, List.set_cons_zero, List.set_cons_succ]
                repeat (first | (refine q_skip (by rfl) ?_; try simp only [Act.put, List.setIfInBounds_toArray, List.set_cons_zero, List.set_cons_succ]) | (refine q_take (v := ?_) (by rfl) ?_ ?_; rotate_left; (first | ((intro w h; clear h; go_simp) <;> with_reducible rfl) | ((intro w h; obtain ⟨f0, f1, f2, c0⟩ := hSd.out w h; go_simp) <;> with_reducible rfl)); try simp only [Act.put, List.setIfInBounds_toArray, List.set_cons_zero, List.set_cons_succ]))
                refine q_nil ?_
                intro w3 B3
                go_wp2_with fail
                go_roundw
                case rel => exact ⟨k + 1, by omega, by go_num, hnew.out, B3⟩
                case measure => simp [intOf]; omega
              · have g1 : decide ((k : Int) > 0) = true := by rw [decide_eq_true_iff]; omega
                have g2 : decide ((0 : Int) < (k : Int)) = true := by rw [decide_eq_true_iff]; omega
                have g3 : decide (0 < k) = true := by rw [decide_eq_true_iff]; omega
                have g4 : IntKind.i64.wrap ((k : Int) - 1) = ((k - 1 : Nat) : Int) := by rw [IntWalk.i64_in _ (by omega)]; omega
                have g5 : ((k - 1 : Nat) : Int) < (N3 : Int) := by omega
                have g6 : (0 : Int) ≤ ((k - 1 : Nat) : Int) := by omega
                by_cases hle : u ≤ y
                · have t1 : decide (u ≤ y) = true := by simpa using hle
                  have hf : Hid (Gr.ok ⟨vs, es, ds⟩ = false) := hbad.out (by rw [hd.out, show decide (y < u) = false by rw [decide_eq_false_iff_not]; omega]; simp)
                  clear hd hsm
                  generalize plI (keysV vs) u = ps at *
                  go_wp2_with fail
                  refine q_region (fun W => Below w1.heap.size w1 W) (by kernel_rfl) (by kernel_rfl) (B.drew) ?_
                  repeat (first | (refine q_skip (by rfl) ?_; try simp only [Act.put, List.setIfInBounds_toArray, List.set_cons_zero, List.set_cons_succ]) | (refine q_take (v := ?_) (by rfl) ?_ ?_; rotate_left; (first | ((intro w h; clear h; go_simp) <;> with_reducible rfl) | ((intro w h; obtain ⟨f0, f1, f2, c0, c2⟩ := hSd2.out hk0 w h; go_simp) <;> with_reducible rfl)); try simp only [Act.put, List.setIfInBounds_toArray, List.set_cons_zero, List.set_cons_succ]))
                  refine q_call (v := _) Try.f20 (by rfl) rfl Try.func20 (by kernel_rfl) (by kernel_rfl) #[.agg #[.slice a1 N1 a2, .slice b1 N2 b2, .slice (some ⟨bv, ov, none⟩) N3 c2], .int .i64 u] (by simp [Act.eval]) (fun w h => (hps.out w h).mono fun e w2 ⟨he, hb⟩ => ⟨he, h.trans (hb.mono h.size)⟩) ?_
                  try simp only [Act.put, List.setIfInBounds_toArray, List.set_cons_zero, List.set_cons_succ]
                  repeat (first | (refine q_skip (by rfl) ?_; try simp only [Act.put, List.setIfInBounds_toArray, List.set_cons_zero, List.set_cons_succ]) | (refine q_take (v := ?_) (by rfl) ?_ ?_; rotate_left; (first | ((intro w h; clear h; go_simp) <;> with_reducible rfl) | ((intro w h; obtain ⟨f0, f1, f2, c0, c2⟩ := hSd2.out hk0 w h; go_simp) <;> with_reducible rfl)); try simp only [Act.put, List.setIfInBounds_toArray, List.set_cons_zero, List.set_cons_succ]))
                  refine q_nil ?_
                  intro w3 B3
                  go_wp2_with fail
                  go_ret
                  exact ⟨ret_bool hf.out.symm, hB0.out _ B3⟩
                · have t1 : decide (u ≤ y) = false := by simpa using hle
                  have hnew : Hid (ascD (keysV vs) (-1) ds = ascD (keysV vs) (beforeD ds (k + 1)) (ds.drop (k + 1))) := by
                    show _ = _
                    rw [hd.out, hbs.out, hsm, show decide (y < u) = true by rw [decide_eq_true_iff]; omega]
                    rfl
                  clear hd hsm
                  generalize plI (keysV vs) u = ps at *
                  go_wp2_with fail
                  refine q_region (fun W => Below w1.heap.size w1 W) (by kernel_rfl) (by kernel_rfl) (B.drew) ?_
                  repeat (first | (refine q_skip (by rfl) ?_; try simp only [Act.put, List.setIfInBounds_toArray, List.set_cons_zero, List.set_cons_succ]) | (refine q_take (v := ?_) (by rfl) ?_ ?_; rotate_left; (first | ((intro w h; clear h; go_simp) <;> with_reducible rfl) | ((intro w h; obtain ⟨f0, f1, f2, c0, c2⟩ := hSd2.out hk0 w h; go_simp) <;> with_reducible rfl)); try simp only [Act.put, List.setIfInBounds_toArray, List.set_cons_zero, List.set_cons_succ]))
                  refine q_call (v := _) Try.f20 (by rfl) rfl Try.func20 (by kernel_rfl) (by kernel_rfl) #[.agg #[.slice a1 N1 a2, .slice b1 N2 b2, .slice (some ⟨bv, ov, none⟩) N3 c2], .int .i64 u] (by simp [Act.eval]) (fun w h => (hps.out w h).mono fun e w2 ⟨he, hb⟩ => ⟨he, h.trans (hb.mono h.size)⟩) ?_
                  try simp only [Act.put, List.setIfInBounds_toArray, List.set_cons_zero, List.set_cons_succ]
                  repeat (first | (refine q_skip (by rfl) ?_; try simp only [Act.put, List.setIfInBounds_toArray, List.set_cons_zero, List.set_cons_succ]) | (refine q_take (v := ?_) (by rfl) ?_ ?_; rotate_left; (first | ((intro w h; clear h; go_simp) <;> with_reducible rfl) | ((intro w h; obtain ⟨f0, f1, f2, c0, c2⟩ := hSd2.out hk0 w h; go_simp) <;> with_reducible rfl)); try simp only [Act.put, List.setIfInBounds_toArray, List.set_cons_zero, List.set_cons_succ]))
                  refine q_nil ?_
                  intro w3 B3
                  go_wp2_with fail
                  go_roundw
                  case rel => exact ⟨k + 1, by omega, by go_num, hnew.out, B3⟩
                  case measure => simp [intOf]; omega
            · have hk2 : k = N3 := by omega
              have hAd : Hid (ascD (keysV vs) (-1) ds = true) := by show _ = _; rw [hr.out, List.drop_of_length_le (by rw [hk2, hN3.out]; exact Nat.le_refl _)]; rfl
              have hfin : Hid (decide ((N3 : Int) ≤ 3) = Gr.ok ⟨vs, es, ds⟩) := by
                show _ = _
                unfold Gr.ok dOk
                dsimp only
                rw [hAv.out, hAe.out, hAd.out, ← hN3.out]
                simp
                omega
              have i1 : ¬ (k : Int) < (N3 : Int) := by omega
              clear hk2 hr
              go_wp2_with fail
              go_ret
              exact ⟨ret_bool hfin.out, hB0.out _ B⟩
end Go.Proofs.Ytlnbobclbaieoaa
