/- What an opening shows. -/
import Derived.Test.YtegahpfmkepfmaaDoorSt
namespace Go.Proofs.YtegahpfmkepfmaaDoor
open Go.RowKit
/-- the values that an opening shows, the first n of them -/
def putS (ks : List Int) (vs : List Str) (n : Nat) : List Str := (((tN ks).zip vs).take n).foldl (fun l p => l.set p.1 p.2) emp
theorem putS_len (ks : List Int) (vs : List Str) (n : Nat) : (putS ks vs n).length = 64 := by rw [putS, foldset_len]; simp [emp]
theorem putS_snoc (ks : List Int) (vs : List Str) (n : Nat) (h1 : n < ks.length) (h2 : n < vs.length) : putS ks vs (n + 1) = (putS ks vs n).set ks[n].toNat vs[n] := by
  unfold putS
  have h : n < ((tN ks).zip vs).length := by rw [List.length_zip]; simp [tN]; omega
  rw [List.take_succ_eq_append_getElem h, List.foldl_append, List.getElem_zip]
  simp [tN]
def shownV (ks : List Int) (vs : List Str) : List Str := putS ks vs ks.length
theorem shownV_small (ks : List Int) (vs : List Str) (n : Nat) (h : ∀ s ∈ vs, List.length s ≤ n) : ∀ s ∈ shownV ks vs, List.length s ≤ n := by
  unfold shownV putS
  refine foldset_small _ emp n (fun p hp => h _ (List.of_mem_zip (List.mem_of_mem_take hp)).2) (fun s hs => by simp [emp] at hs; simp [hs])
theorem results_cell_tmp {fn : Func} {p q : Tmp} {ty : TypeId} (h : fn.results = #[.cell p ty, .tmp q]) (tmps : Array Value) (w : World) (g n e : Nat) (l : List Str) (u : Value)
    (hp : tmps.getD p undef = .pointer (some ⟨g, 0, none⟩)) (hq : tmps.getD q undef = u) (hg : RowT ty w g l)
    (hu : Tryd.prog.underlying ty = some (.array n e)) (hi : (Tryd.prog.info? ty).map (·.size) = some (cT l).toArray.size) :
    (results fn tmps).run Tryd.prog w = .ok (.tuple #[.agg (cT l).toArray, u]) w := by
  have hp' : tmps[p]?.getD undef = .pointer (some ⟨g, 0, none⟩) := by simpa using hp
  have hq' : tmps[q]?.getD undef = u := by simpa using hq
  simp [results, h, hp', hq', asAddr, run_loadVar_row w g ty ty (cT l).toArray (0, 0) _ hg hu rfl hi]
/-- what shown returns -/
def shownB (root : Str) (ks : List Int) (vs ps : List Str) : Bool := formB ks vs ps && (standS ks ps (shownV ks vs) == root)
def ShownPost (root : Str) (ks : List Int) (vs ps : List Str) (w : World) (e : Ending) (w' : World) : Prop :=
  ∃ V, e = .returned (.tuple #[.agg (cT V).toArray, .bool (shownB root ks vs ps)]) ∧ (formB ks vs ps = true → V = shownV ks vs) ∧ V.length = 64 ∧ Below w.heap.size w w'
theorem formB_facts (ks : List Int) (vs ps : List Str) (h : formB ks vs ps = true) : ascB (-1) ks = true ∧ vs.length = ks.length ∧ (∀ s ∈ vs, List.length s ≤ 65536) ∧ ps.length = (closedL (tN ks)).length ∧ (∀ s ∈ ps, List.length s = 32) := by
  unfold formB at h
  simp only [Bool.and_eq_true, Bool.not_eq_true', beq_iff_eq, List.any_eq_false] at h
  obtain ⟨⟨⟨⟨h1, h2⟩, h3⟩, h4⟩, h5⟩ := h
  refine ⟨h1, h2, fun s hs => ?_, h4, fun s hs => ?_⟩
  · have := h3 s hs; simp [tl] at this; omega
  · have := h5 s hs; simpa [noD] using this
theorem box3_world (w w1 : World) (a b c : Value) (h : w1 = ((w.alloc (.cells #[a, b, c] 37)).alloc (.cells (cT emp).toArray 73)).alloc (.cells (cT emp).toArray 73)) : Below w.heap.size w w1 ∧ w1.heap.size = w.heap.size + 3 ∧
    (∀ W, Below (w.heap.size + 1) w1 W → (W.cell? ⟨w.heap.size, 0, none⟩ = some a ∧ W.cell? ⟨w.heap.size, 1, none⟩ = some b ∧ W.cell? ⟨w.heap.size, 2, none⟩ = some c)) ∧ RowT 73 w1 (w.heap.size + 1) emp ∧ RowT 73 w1 (w.heap.size + 1 + 1) emp := by
  obtain ⟨z, B, h1, h2, h3⟩ := three_world w w1 _ _ _ _ _ _ h
  refine ⟨B, z, fun W B => ?_, h2, h3⟩
  have g2 : W.heap[w.heap.size]? = some (.cells #[a, b, c] 37 (0, 0)) := (B.block _ (by omega)).trans h1
  exact ⟨by rw [cell_of_row _ _ _ _ _ _ g2]; rfl, by rw [cell_of_row _ _ _ _ _ _ g2]; rfl, by rw [cell_of_row _ _ _ _ _ _ g2]; rfl⟩

set_option linter.unusedSimpArgs false in
set_option maxRecDepth 100000 in
set_option maxHeartbeats 2000000 in
theorem shown_any (vo : Value) (root : Str) (ks : List Int) (vs ps : List Str) (w : World) {W0 : World} (hW : W0 = w) (hv : OpV W0 vo ks vs ps) (hkl : ks.length ≤ 140737488351232) (hvl : vs.length ≤ 140737488351232) (hpl : ps.length ≤ 140737488351232) (hT : Tab W0) :
    Calls Tryd.prog 52 #[.string ⟨root.toArray⟩, vo] w (ShownPost root ks vs ps w) := by
  subst hW
  obtain ⟨a, b, c, rfl, ha, hb, hc⟩ := hv
  obtain ⟨w1, hw1⟩ : ∃ w1, w1 = ((W0.alloc (.cells #[a, b, c] 37)).alloc (.cells (cT emp).toArray 73)).alloc (.cells (cT emp).toArray 73) := ⟨_, rfl⟩
  obtain ⟨B1, z1, hcell, r1, r2⟩ := box3_world W0 w1 a b c hw1
  have hform := Lib.hid (formed_any (.agg #[a, b, c]) ks vs ps w1 ⟨a, b, c, rfl, ha.below B1, hb.below B1, hc.below B1⟩ hkl hvl hpl)
  have hsB : Hid (shownB root ks vs ps = (formB ks vs ps && (standS ks ps (shownV ks vs) == root))) := rfl
  have hff := Lib.hid (formB_facts ks vs ps)
  have hab := Lib.hid ha
  have hbb := Lib.hid hb
  have hcb := Lib.hid hc
  have hTh := Lib.hid hT
  obtain ⟨a1, a2, hae⟩ := ha.shape
  obtain ⟨b1, b2, hbe⟩ := hb.shape
  obtain ⟨c1, c2, hce⟩ := hc.shape
  have hcellh := Lib.hid hcell
  have hw1h := Lib.hid hw1
  have c0 := hcell w1 (Below.refl _ _)
  cases hf : formB ks vs ps with
  | false =>
    rw [hf] at hform hsB
    have hR : shownB root ks vs ps = false := by rw [hsB.out]; rfl
    unfold ShownPost
    rw [hR]
    have f1 := Lib.hid r1
    have f2 := Lib.hid r2
    have z2 := Lib.hid (size73l emp rfl)
    subst hae hbe hce
    obtain ⟨d0, d1, d2⟩ := c0
    clear hR hff hsB hab hbb hcb hTh ha hb hc hcell hw1 r1 r2 hT hcellh
    have B1h := Lib.hid B1
    clear B1 z1
    go_enter Tryd.func52, Tryd.ntmps52
    go_upto_region 2 with (fail)
    rw [z64s, ← hw1h.out]
    go_wp2_with fail
    refine hform.out.mono ?_
    rintro e W ⟨rfl, b2⟩
    have q1 := Lib.hid (f1.out.below b2 f1.out.lt)
    have q2 := Lib.hid (f2.out.below b2 f2.out.lt)
    have B2 := Lib.hid (B1h.out.trans (b2.mono B1h.out.size))
    clear b2 d0 d1 d2
    go_wp2_with (first
      | (refine wpList_load_row rfl 73 (.tmp 6) rfl (W0.heap.size + 1 + 1) rfl 73 (cT emp).toArray (0, 0) _ q2.out Tryd.underlying73 rfl z2.out ?_)
      | (refine wpList_store_row rfl 73 (.tmp 4) (.tmp 12) rfl (W0.heap.size + 1) (cT emp).toArray rfl rfl 73 _ q1.out z2.out rfl (cT_all _) ?_))
    refine bodyPost_ret (v := _) (results_cell_tmp (fn := Tryd.f52) rfl _ _ (W0.heap.size + 1) _ _ emp (.bool false) rfl rfl (q1.out.setRow _) Tryd.underlying73 z2.out) rfl ?_
    exact ⟨emp, rfl, (fun h => by rw [hf] at h; cases h), rfl, below_setRow B2.out (by omega) _⟩
  | true =>
    obtain ⟨k1, k2, k3, k4, k5⟩ := hff.out hf
    rw [hf] at hform hsB
    have hlen := ascB_len ks (-1) (by omega) (by omega) k1
    have hbd := Lib.hid (ascB_bd ks (-1) (by omega) k1)
    obtain ⟨N, hN⟩ : ∃ N, Hid (N = ks.length) := ⟨_, rfl⟩
    have hNv : Hid (N = vs.length) := by show _ = _; rw [hN.out, k2]
    have hN64 : N ≤ 64 := by rw [hN.out]; omega
    have hca := Lib.hid (show ∀ (k : Nat) (hk : k < ks.length), _ from fun k hk => SI.at ha k hk)
    have hcb := Lib.hid (show ∀ (k : Nat) (hk : k < vs.length), _ from fun k hk => SS.at hb k hk)
    have hsmall := Lib.hid (shownV_small ks vs 1000000 (fun s hs => by have := k3 s hs; omega))
    have hst0 := Lib.hid (show ∀ W, Below W0.heap.size W0 W → Calls Tryd.prog 56 #[.agg #[a, b, c], .agg (cT (shownV ks vs)).toArray] W fun e w' => e = .returned (.string ⟨(standS ks ps (shownV ks vs)).toArray⟩) ∧ Below W.heap.size W w' from fun W B =>
      standsFor_any (.agg #[a, b, c]) ks vs ps (shownV ks vs) W ⟨a, b, c, rfl, ha.below B, hb.below B, hc.below B⟩ k1 k4 (fun s hs => by have := k5 s hs; omega) (putS_len _ _ _) hsmall.out (hT.below B))
    have f1 := Lib.hid r1
    have f2 : RowT 73 w1 (W0.heap.size + 1 + 1) (putS ks vs 0) := r2
    have f2 := Lib.hid f2
    subst hae hbe hce
    clear c0
    rw [← hN.out] at hform hst0 hcellh hw1h
    rw [← hNv.out] at hform hst0 hcellh hw1h
    unfold ShownPost
    rw [← hN.out, ← hNv.out]
    generalize ps.length = n3 at *
    obtain ⟨d0, d1, d2⟩ := hcellh.out w1 (Below.refl _ _)
    have B1h := Lib.hid B1
    clear hff hab hbb hcb hTh ha hb hc hcell hw1 r1 r2 hT k1 k2 k3 k4 k5 hlen hkl hvl hpl B1 z1
    go_enter Tryd.func52, Tryd.ntmps52
    go_upto_region 2 with (fail)
    rw [z64s, ← hw1h.out]
    go_wp2_with fail
    refine hform.out.mono ?_
    rintro e W ⟨rfl, b2⟩
    have q1 := f1.out.below b2 f1.out.lt
    have q2 := f2.out.below b2 f2.out.lt
    have hc2 := Lib.hid (show ∀ W', Below (W0.heap.size + 1) W W' → _ from fun W' B => hcellh.out W' ((b2.mono (by have := f2.out.lt; omega)).trans B))
    have B2 := B1h.out.trans (b2.mono B1h.out.size)
    clear b2 d0 d1 d2 hcellh
    obtain ⟨d0, d1, d2⟩ := hc2.out W (Below.refl _ _)
    go_wp2_with fail
    go_loopw [16] (fun i wr => ∃ n : Nat, n ≤ N ∧ i = .int .i64 n ∧ RowT 73 wr (W0.heap.size + 1) emp ∧ RowT 73 wr (W0.heap.size + 1 + 1) (putS ks vs n) ∧ Below (W0.heap.size + 1) W wr ∧ Below W0.heap.size W0 wr) (fun i _ => N - (intOf i).toNat)
    case atStart => exact ⟨0, by omega, rfl, q1, q2, Below.refl _ _, B2⟩
    case round =>
      clear q1 q2 B2 d0 d1 d2
      obtain ⟨n, hn, rfl, q1, q2, BW, B⟩ := hrel
      obtain ⟨d0, d1, d2⟩ := hc2.out wr BW
      by_cases hlt : n < N
      · have hnk : n < ks.length := by rw [← hN.out]; exact hlt
        have hnv : n < vs.length := by rw [← hNv.out]; exact hlt
        obtain ⟨b1', o1', c1', he, hcl⟩ := hca.out n hnk
        injection he with he1 he2 he3
        subst he1
        have e1 := hcl wr B
        obtain ⟨b2', o2', c2', he, hcl2⟩ := hcb.out n hnv
        injection he with he4 he5 he6
        subst he4
        have e2 := hcl2 wr B
        have hb := hbd.out ks[n] (List.getElem_mem hnk)
        have hsn := putS_snoc ks vs n hnk hnv
        have hln := putS_len ks vs n
        clear hcl hcl2 he2 he3 he5 he6
        obtain ⟨p, hp⟩ : ∃ p : Nat, ks[n] = (p : Int) := ⟨ks[n].toNat, by omega⟩
        rw [hp] at e1 hb hsn
        rw [Int.toNat_natCast] at hsn
        have hsn := Lib.hid hsn
        rename_i hsno
        clear hsno hp
        generalize vs[n] = s at *
        generalize putS ks vs n = l at *
        have i0 : (0 : Int) ≤ (n : Int) := by omega
        have i1 : (n : Int) < (N : Int) := by omega
        have i2 : (0 : Int) ≤ (p : Int) := by omega
        have i3 : (p : Int) < 64 := by omega
        have g1 := q2.cell p (by omega)
        have g2 := q2.free p
        have y2 := Lib.hid (q2.set p s)
        have y1 := Lib.hid (q1.other (g := W0.heap.size + 1 + 1) (i := p) (v := .string ⟨s.toArray⟩) (by omega))
        have yB := Lib.hid (B.setCell (p := ⟨W0.heap.size + 1 + 1, p, none⟩) (by simp; omega) (.string ⟨s.toArray⟩))
        have yW := Lib.hid (BW.setCell (p := ⟨W0.heap.size + 1 + 1, p, none⟩) (by simp) (.string ⟨s.toArray⟩))
        generalize l.getD p [] = old at *
        clear q1 q2 BW B hb hln
        go_wp2_with fail
        go_roundw
        case rel => exact ⟨n + 1, by omega, by go_num, y1.out, by rw [hsn.out]; exact y2.out, yW.out, yB.out⟩
        case measure => simp [intOf]; omega
      · have hnN : n = ks.length := by rw [← hN.out]; omega
        have hV : Hid (shownV ks vs = putS ks vs n) := by show _ = _; rw [hnN]; rfl
        rw [← hV.out] at q2
        have zl : (shownV ks vs).length = 64 := putS_len _ _ _
        have z2 := Lib.hid (size73l _ zl)
        have z3 := Lib.hid (size_eq emp (shownV ks vs) (by rw [zl]; rfl))
        have hst := Lib.hid (show ∀ W', Below wr.heap.size wr W' → _ from fun W' B' => hst0.out W' (B.trans (B'.mono B.size)))
        have hrow := Lib.hid (show ∀ W', Below wr.heap.size wr W' → RowT 73 W' (W0.heap.size + 1) emp from fun W' B' => q1.below B' q1.lt)
        have sK := Lib.hid (show ∀ W', Below wr.heap.size wr W' → (Instr.loadAt 73 (.pointer (some ⟨W0.heap.size + 1 + 1, 0, none⟩))).run Tryd.prog W' = .ok (.agg (cT (shownV ks vs)).toArray) W' ∧ _ from fun W' B' => ⟨loadAt_row 73 _ W' _ _ _ Tryd.underlying73 z2.out (q2.below B' q2.lt), hc2.out W' (BW.trans (B'.mono (by have := q1.lt; omega)))⟩)
        have sS := Lib.hid (show ∀ W', Below wr.heap.size wr W' → (Instr.loadAt 73 (.pointer (some ⟨W0.heap.size + 1 + 1, 0, none⟩))).run Tryd.prog (W'.setRow (W0.heap.size + 1) (cT (shownV ks vs)).toArray) = .ok (.agg (cT (shownV ks vs)).toArray) (W'.setRow (W0.heap.size + 1) (cT (shownV ks vs)).toArray) ∧ _ from fun W' B' => ⟨loadAt_row 73 _ _ _ _ _ Tryd.underlying73 z2.out ((q2.below B' q2.lt).setRow_other _ (by omega)), hc2.out (W'.setRow (W0.heap.size + 1) (cT (shownV ks vs)).toArray) (below_setRow (BW.trans (B'.mono (by have := q1.lt; omega))) (by omega) _)⟩)
        have hS0 := Lib.hid (sK.out wr.drew (Below.refl _ _).drew)
        have hBh := Lib.hid B
        have i1 : ¬ (n : Int) < (N : Int) := by omega
        clear hca hcb hst0 hc2 hnN hV q1 q2 B BW hbd hsmall hform f1 f2 B1h
        generalize hVq : shownV ks vs = V at *
        have hVq := Lib.hid hVq
        rename_i hVqo
        clear hVqo
        generalize standS ks ps V = R at *
        go_wp2_with fail
        refine wp_region_held_drew (S := (fun w' : World => ((Instr.loadAt 73 (.pointer (some ⟨W0.heap.size + 1 + 1, 0, none⟩))).run Tryd.prog w' = .ok (.agg (cT V).toArray) w') ∧ w'.cell? ⟨W0.heap.size, 0, none⟩ = some (.slice a1 N a2) ∧ w'.cell? ⟨W0.heap.size, 1, none⟩ = some (.slice b1 N b2) ∧ w'.cell? ⟨W0.heap.size, 2, none⟩ = some (.slice c1 n3 c2))) (by kernel_rfl) hS0.out (fun hHeld => ?_)
        refine wpAnyH_take (i := 0) (oi := { dst := some 29, op := Op.load 73 (Operand.tmp 6), type := _, pos := _, after := _, guard := none }) (v := ?_) rfl (by kernel_rfl) (by kernel_rfl) (by kernel_rfl) (fun _ _ _ h => h) (Or.inl ⟨by rfl, ?_⟩) (by assumption) ?_
        rotate_left
        · (intro W hSw; refine exec_load _ 73 (.tmp 6) rfl _ ?_; exact hSw.1)
        try simp only [Act.put, List.setIfInBounds_toArray, List.set_cons_zero, List.set_cons_succ]
        refine wpAnyH_take (i := 1) (oi := { dst := some 30, op := Op.load 37 (Operand.tmp 3), type := _, pos := _, after := _, guard := none }) (v := ?_) rfl (by kernel_rfl) (by kernel_rfl) (by kernel_rfl) (fun _ _ _ h => h) (Or.inl ⟨by rfl, ?_⟩) (by assumption) ?_
        rotate_left
        · ((intro w hSw; (try dsimp only at hSw); go_simp) <;> with_reducible rfl)
        try simp only [Act.put, List.setIfInBounds_toArray, List.set_cons_zero, List.set_cons_succ]
        refine wpAnyH_take (i := 2) (oi := { dst := some 31, op := Op.load 73 (Operand.tmp 6), type := _, pos := _, after := _, guard := none }) (v := ?_) rfl (by kernel_rfl) (by kernel_rfl) (by kernel_rfl) (fun _ _ _ h => h) (Or.inl ⟨by rfl, ?_⟩) (by assumption) ?_
        rotate_left
        · (intro W hSw; refine exec_load _ 73 (.tmp 6) rfl _ ?_; exact hSw.1)
        try simp only [Act.put, List.setIfInBounds_toArray, List.set_cons_zero, List.set_cons_succ]
        refine wpAnyH_take (i := 4) (oi := { dst := some 33, op := Op.move (Operand.tmp 0), type := _, pos := _, after := _, guard := none }) (v := ?_) rfl (by kernel_rfl) (by kernel_rfl) (by kernel_rfl) (fun _ _ _ h => h) (Or.inl ⟨by rfl, ?_⟩) (by assumption) ?_
        rotate_left
        · ((intro w hSw; (try dsimp only at hSw); go_simp) <;> with_reducible rfl)
        try simp only [Act.put, List.setIfInBounds_toArray, List.set_cons_zero, List.set_cons_succ]
        refine wpAnyH_ready (rs := [3]) (by kernel_rfl) (by simp) ?_
        refine AllReadyH.cons (o := { dst := some 32, op := Op.call { callee := Callee.value (Operand.func 56), args := #[(Operand.tmp 30), (Operand.tmp 31)], argTypes := #[37, 73] }, type := _, pos := _, after := _, guard := none }) rfl (fun K hK => ?_) ?_
        · skip
          go_simp
          with_reducible refine (hst.out _ (Below.refl _ _).drew).mono ?_
          rintro e W2 ⟨rfl, d2⟩
          have B2 : Below wr.heap.size wr W2 := (Below.refl _ wr).drew.trans d2
          have g2 := hrow.out W2 B2
          clear d2
          go_wp2_with fail
          refine hK.out _ _ ?_ (fun hHeld => ?_)
          · exact sK.out W2 B2
          clear hK K
          try simp only [Act.put, List.setIfInBounds_toArray, List.set_cons_zero, List.set_cons_succ]
          refine wpAnyH_take (i := 5) (oi := { dst := some 34, op := Op.binOp BinOp.eql 9 (Operand.tmp 32) (Operand.tmp 33) 9, type := _, pos := _, after := _, guard := none }) (v := ?_) rfl (by kernel_rfl) (by kernel_rfl) (by kernel_rfl) (fun _ _ _ h => h) (Or.inl ⟨by rfl, ?_⟩) (by assumption) ?_
          rotate_left
          · ((intro w hSw; (try dsimp only at hSw); go_simp) <;> with_reducible rfl)
          try simp only [Act.put, List.setIfInBounds_toArray, List.set_cons_zero, List.set_cons_succ]
          refine wpAnyH_ready (rs := [6]) (by kernel_rfl) (by simp) ?_
          refine AllReadyH.cons (o := { dst := none, op := Op.store 73 (Operand.tmp 4) (Operand.tmp 29), type := _, pos := _, after := _, guard := none }) rfl (fun K hK => ?_) ?_
          · skip
            refine wp_store_row 73 (.tmp 4) (.tmp 29) rfl (W0.heap.size + 1) (cT V).toArray rfl rfl 73 _ g2 z2.out z3.out (cT_all _) ?_
            refine hK.out _ _ ?_ (fun hHeld => ?_)
            · exact sS.out W2 B2
            clear hK K
            try simp only [Act.put, List.setIfInBounds_toArray, List.set_cons_zero, List.set_cons_succ]
            refine wpAnyH_take (i := 7) (oi := { dst := some 5, op := Op.assign (Operand.tmp 34), type := _, pos := _, after := _, guard := none }) (v := ?_) rfl (by kernel_rfl) (by kernel_rfl) (by kernel_rfl) (fun _ _ _ h => h) (Or.inl ⟨by rfl, ?_⟩) (by assumption) ?_
            rotate_left
            · ((intro w hSw; (try dsimp only at hSw); go_simp) <;> with_reducible rfl)
            try simp only [Act.put, List.setIfInBounds_toArray, List.set_cons_zero, List.set_cons_succ]
            refine wpAnyH_done (by kernel_rfl) ?_ _
            go_wp2_with fail
            refine bodyPost_ret (v := _) (results_cell_tmp (fn := Tryd.f52) rfl _ _ (W0.heap.size + 1) _ _ V _ rfl rfl (g2.setRow _) Tryd.underlying73 z2.out) rfl ?_
            exact ⟨V, by rw [hsB.out]; rfl, fun _ => hVq.out.symm, zl, below_setRow (hBh.out.trans (B2.mono hBh.out.size)) (by omega) _⟩
          exact AllReadyH.nil
        exact AllReadyH.nil
end Go.Proofs.YtegahpfmkepfmaaDoor
