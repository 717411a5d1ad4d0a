/- The reference's keys, Valid, Root, within, many. -/
import Derived.Test.YtegahpfmkepfmaaDoorRB
import Derived.Test.YtegahpfmkepfmaaDoorSom
import Derived.Test.YtegahpfmkepfmaaDoorCm
import Derived.BigQuiet
import Derived.Test.YtegahpfmkepfmaaDoorPm
namespace Go.Proofs.YtegahpfmkepfmaaDoor
open Go.RowKit
theorem asc_bad (l : List Int) (i : Nat) (h : i < l.length) (hb : l[i] < 0 ∨ 64 ≤ l[i]) : ascB (-1) l = false := by
  cases e : ascB (-1) l with
  | false => rfl
  | true =>
    have := ascB_bd l (-1) (by omega) e l[i] (List.getElem_mem h)
    omega
theorem asc_bad2 (l : List Int) (i : Nat) (h : i + 1 < l.length) (hb : l[i + 1] ≤ l[i]) : ascB (-1) l = false := by
  cases e : ascB (-1) l with
  | false => rfl
  | true =>
    have := List.pairwise_iff_getElem.1 ((ascB_iff _ _).1 e).2 i (i + 1) (by omega) h (by omega)
    omega
theorem asc_good0 (l : List Int) (h : 0 < l.length) (h0 : 0 ≤ l[0]) (h1 : l[0] < 64) : ascB (-1) (l.take (0 + 1)) = true := by
  rw [List.take_succ_eq_append_getElem h]
  exact asc_snoc [] l[0] rfl h0 h1 (fun x hx => by cases hx)
theorem asc_good (l : List Int) (j : Nat) (h : j + 1 < l.length) (h0 : 0 ≤ l[j + 1]) (h1 : l[j + 1] < 64) (ha : ascB (-1) (l.take (j + 1)) = true) (hk : l[j] < l[j + 1]) : ascB (-1) (l.take (j + 1 + 1)) = true := by
  rw [List.take_succ_eq_append_getElem h]
  have hlen : (l.take (j + 1)).length = j + 1 := by rw [List.length_take]; omega
  refine asc_snoc _ l[j + 1] ha h0 h1 (asc_last _ _ ha (fun e => by rw [e] at hlen; cases hlen) ?_)
  rw [List.getElem_take]
  simp only [hlen, Nat.add_sub_cancel]
  exact hk

set_option maxRecDepth 100000 in
set_option maxHeartbeats 4000000 in
theorem keysR_any (v : Value) (l : List Int) (w : World) {W0 : World} (hv : SI W0 v l) (hW : W0 = w) (hn : l.length ≤ 140737488351232) (hI : ∀ x ∈ l, I64 x) : Calls Tryd.prog 44 #[v] w fun e w' => e = .returned (.bool (ascB (-1) l)) ∧ Below w.heap.size w w' := by
  subst hW
  have hc := Lib.hid (show ∀ (k : Nat) (hk : k < l.length), _ from fun k hk => SI.at hv k hk)
  obtain ⟨a, N, c, rfl, hN⟩ := hv.shape'
  rw [← hN.out] at hn
  have hIh := Lib.hid hI
  obtain ⟨R, hR⟩ : ∃ R, Hid (R = ascB (-1) l) := ⟨_, rfl⟩
  rw [← hR.out]
  clear hv hI
  go_enter Tryd.func44, Tryd.ntmps44
  go_wp2_with fail
  go_loopw [3] (fun iv wr => ∃ i : Nat, i ≤ N ∧ iv = .int .i64 i ∧ Hid (ascB (-1) (l.take i) = true) ∧ Below W0.heap.size W0 wr) (fun iv _ => N - (intOf iv).toNat)
  case atStart => exact ⟨0, by omega, rfl, rfl, Below.refl _ _⟩
  case round =>
    obtain ⟨i, hi, rfl, hasc, B⟩ := hrel
    by_cases hlt : i < N
    · have hil : i < l.length := by rw [← hN.out]; exact hlt
      obtain ⟨b, o, c', he, hcell⟩ := hc.out i hil
      injection he with he1 he2 he3
      subst he1
      have hcc := hcell wr B
      have hcp := Lib.hid (show ∀ j (hj : j < l.length), wr.cell? ⟨b, o + j, none⟩ = some (.int .i64 l[j]) from fun j hj => by
        obtain ⟨b', o', c'', he', hcell'⟩ := hc.out j hj
        injection he' with e1 _ _
        injection e1 with e1
        injection e1 with e1 e2
        subst e1 e2
        exact hcell' wr B)
      have hI1 := hIh.out l[i] (List.getElem_mem hil)
      have hbad := Lib.hid (asc_bad l i hil)
      rw [← hR.out] at hbad
      clear hcell he2 he3
      have i0 : (0 : Int) ≤ (i : Int) := by omega
      have i1 : (i : Int) < (N : Int) := by omega
      obtain ⟨y, hy⟩ : ∃ y, Hid (l[i] = y) := ⟨l[i], (rfl : l[i] = l[i])⟩
      rw [hy.out] at hcc hI1 hbad
      obtain ⟨hI1a, hI1b⟩ := hI1
      by_cases h0 : y < 0
      · have t1 : decide (y < 0) = true := decide_eq_true h0
        have hr : Hid (R = false) := hbad.out (.inl h0)
        clear hbad hasc hcp hy
        go_wp2_with fail
        go_quiet (fail)
        go_wp2_with fail
        go_ret
        exact ⟨ret_bool hr.out.symm, below_drewN B _⟩
      · have t1 : decide (y < 0) = false := decide_eq_false h0
        by_cases h64 : 64 ≤ y
        · have t2 : decide (64 ≤ y) = true := decide_eq_true h64
          have hr : Hid (R = false) := hbad.out (.inr h64)
          clear hbad hasc hcp hy
          go_wp2_with fail
          go_quiet (fail)
          go_wp2_with fail
          go_ret
          exact ⟨ret_bool hr.out.symm, below_drewN B _⟩
        · have t2 : decide (64 ≤ y) = false := decide_eq_false h64
          by_cases hz : i = 0
          · have hnew : Hid (ascB (-1) (l.take (i + 1)) = true) := by
              show _ = _
              subst hz
              exact asc_good0 l hil (by rw [hy.out]; omega) (by rw [hy.out]; omega)
            have t3 : decide ((0 : Int) < (i : Int)) = false := by simp; omega
            have t4 : decide (0 < i) = false := by simp; omega
            clear hbad hasc hcp hy hz
            go_wp2_with fail
            go_quiet (fail)
            go_wp2_with fail
            go_roundw
            case rel => exact ⟨i + 1, by omega, by go_num, hnew, below_drewN B _⟩
            case measure => simp [intOf]; omega
          · obtain ⟨j, rfl⟩ : ∃ j, i = j + 1 := ⟨i - 1, by omega⟩
            have hcj := hcp.out j (by omega)
            have t3 : decide ((0 : Int) < ((j + 1 : Nat) : Int)) = true := by rw [decide_eq_true_eq]; omega
            have t4 : decide ((0 : Int) < (j : Int) + 1) = true := by rw [decide_eq_true_eq]; omega
            have j0 : (0 : Int) ≤ (j : Int) := by omega
            have j1 : (j : Int) < (N : Int) := by omega
            have j2 : j ≤ 140737488351232 := by omega
            have hb2 := Lib.hid (asc_bad2 l j hil)
            rw [← hR.out, hy.out] at hb2
            have hg2 := Lib.hid (fun h0 h1 h2 => asc_good l j hil h0 h1 hasc.out h2)
            rw [hy.out] at hg2
            generalize l[j] = p at *
            by_cases hyp : y ≤ p
            · have t5 : decide (y ≤ p) = true := decide_eq_true hyp
              have hr : Hid (R = false) := hb2.out hyp
              clear hbad hasc hcp hy hb2 hg2
              go_wp2_with fail
              go_quiet (fail)
              go_wp2_with fail
              go_ret
              exact ⟨ret_bool hr.out.symm, below_drewN B _⟩
            · have t5 : decide (y ≤ p) = false := decide_eq_false hyp
              have hnew : Hid (ascB (-1) (l.take (j + 1 + 1)) = true) := hg2.out (by omega) (by omega) (by omega)
              clear hbad hasc hcp hy hb2 hg2
              go_wp2_with fail
              go_quiet (fail)
              go_wp2_with fail
              go_roundw
              case rel => exact ⟨j + 1 + 1, by omega, by go_num, hnew, below_drewN B _⟩
              case measure => simp [intOf]; omega
    · have hr : Hid (R = true) := by
        show _ = _
        rw [hR.out, ← hasc.out, List.take_of_length_le (by rw [← hN.out]; omega)]
      have i1 : ¬ (i : Int) < (N : Int) := by omega
      clear hasc
      go_wp2_with fail
      go_ret
      exact ⟨ret_bool hr.out.symm, B⟩
end Go.Proofs.YtegahpfmkepfmaaDoor
namespace Go.Proofs.YtegahpfmkepfmaaDoor
open Go.RowKit
theorem flatS (m : List Str) : m.flatMap eS = m.map (fun s => Value.string ⟨s.toArray⟩) := by
  induction m with
  | nil => rfl
  | cons a t ih => rw [List.flatMap_cons, List.map_cons, ih]; rfl
set_option linter.unusedSimpArgs false in
/-- a row of strings behind another -/
theorem catS (W : World) (base : Nat) (v u : Value) (l m : List Str) (h : OS W base v l) (hu : SS W u m) (hl : l.length + m.length ≤ 1000000) (hb : base ≤ W.heap.size) :
    ∃ v' w', (∃ a k c, v' = .slice a k c) ∧ (Builtin.append_ #[35, 35] 35 #[v, u]).run Tryd.prog W = .ok v' w' ∧ OS w' base v' (l ++ m) ∧ Below base W w' := by
  obtain ⟨f0, hf, hz0, hz1, hz2⟩ := info_parts info9
  have hshape := (OwnG.SL eS_len h).shape
  rcases hu with ⟨rfl, b, c, rfl⟩ | ⟨h1, b, of, c, rfl, h3, h4, hL⟩
  · have hr : (Builtin.append_ #[35, 35] 35 #[v, .slice b 0 c]).run Tryd.prog W = .ok v W := by
      have hfn := run_firstCells_none (P := Tryd.prog) (w := W) f0.size 0 0 c
      have hfs := fun a => run_firstCells_some (P := Tryd.prog) W f0.size 0 a 0 c [] (by simp) (by simp)
      rcases (show W.ownsRow _ _ _ _ _ _ from h).2 with ⟨rfl, h0⟩ | ⟨g, cap, cur, rfl, _, _, hle, _⟩
      · cases b with
        | none => simp [Builtin.append_, run_underlying Tryd.underlying35, sizeOf, typeInfo, zeroValue, hf, hz0, Builtin.lenOf, Question.forced, hfn, storeCells]
        | some x => simp [Builtin.append_, run_underlying Tryd.underlying35, sizeOf, typeInfo, zeroValue, hf, hz0, Builtin.lenOf, Question.forced, hfs, storeCells]
      · cases b with
        | none => simp [Builtin.append_, run_underlying Tryd.underlying35, sizeOf, typeInfo, zeroValue, hf, hz0, Builtin.lenOf, Question.forced, hfn, storeCells, hle]
        | some x => simp [Builtin.append_, run_underlying Tryd.underlying35, sizeOf, typeInfo, zeroValue, hf, hz0, Builtin.lenOf, Question.forced, hfs, storeCells, hle]
    obtain ⟨a, c', hs⟩ := hshape
    exact ⟨v, W, ⟨a, _, c', hs⟩, hr, by rw [List.append_nil]; exact h, Below.refl _ _⟩
  · obtain ⟨g, cap, w', hr, ho, hg, hat, _⟩ := run_append_lies (P := Tryd.prog) W 35 35 base 9 f0 _ 1 16 Tryd.underlying35 hf hz0 hz1 hz2 rfl (by omega) v l.length (l.flatMap eS) h ⟨b, of, none⟩ m.length c (m.flatMap eS) (by rw [flatS]; simp)
      (fun j u e => by
        rw [flatS, List.getElem?_map, Option.map_eq_some_iff] at e
        obtain ⟨y, hy, rfl⟩ := e
        have := hL j y 0 _ hy rfl
        rw [Addr.add_lit]
        simpa using this) (fun u hu => by rw [flatS] at hu; obtain ⟨y, _, rfl⟩ := List.mem_map.1 hu; rfl) (List.length_pos_iff.2 h1) (by unfold maxLen; omega) (by omega) hb _ rfl
    refine ⟨_, w', ⟨_, _, _, rfl⟩, hr, ?_, (Below.refl base W).grown hg hb (fun k hk => h.base k hk)⟩
    show w'.ownsRow base 9 1 _ (l ++ m).length ((l ++ m).flatMap eS)
    rw [List.length_append, List.flatMap_append]
    exact ho
theorem OS_lit (W : World) (base : Nat) (s : Str) (hb : base ≤ W.heap.size) : OS (W.alloc (.cells #[.string ⟨s.toArray⟩] 9)) base (.slice (some ⟨W.heap.size, 0, none⟩) 1 1) [s] :=
  ⟨rfl, .inr ⟨W.heap.size, 1, _, rfl, hb, heap_alloc_new W _, Nat.le_refl _, by unfold maxLen; omega, rfl, rfl⟩⟩

def badE (e : Ent) : Bool := e.2.length == 0 || decide (65536 < e.2.length)
theorem mapB_bad (l : List Ent) (i : Nat) (h : i < l.length) (hb : l[i].2.length = 0 ∨ 65536 < l[i].2.length) : mapB l = false := by
  cases e : mapB l with
  | false => rfl
  | true =>
    have := ((mapB_iff l).1 e).1 l[i] (List.getElem_mem h)
    rcases hb with hb | hb
    · exact absurd (List.length_eq_zero_iff.1 hb) this.2.2.1
    · omega
theorem mapB_good (l : List Ent) (h : l.any badE = false) : mapB l = ascB (-1) (l.map Prod.fst) := by
  unfold mapB chgB
  rw [List.any_eq_false] at h
  have h1 : l.any tlE = false := by
    rw [List.any_eq_false]; intro e he; have := h e he
    simp [badE] at this; simp [tlE, tl]; omega
  have h2 : l.any noV = false := by
    rw [List.any_eq_false]; intro e he; have := h e he
    simp [badE] at this; simp [noV]; exact this.1
  rw [h1, h2]; simp

set_option maxRecDepth 100000 in
set_option maxHeartbeats 4000000 in
theorem ValidR_any (v : Value) (l : List Ent) (w : World) {W0 : World} (hv : SE W0 v l) (hW : W0 = w) (hn : l.length ≤ 100000) (hI : ∀ e ∈ l, I64 e.1) : Calls Tryd.prog 16 #[v] w fun e w' => e = .returned (.bool (mapB l)) ∧ Below w.heap.size w w' := by
  subst hW
  have hc := Lib.hid (show ∀ (k : Nat) (hk : k < l.length), _ from fun k hk => SE.at hv k hk)
  obtain ⟨a, N, c, rfl, hN⟩ := hv.shape'
  rw [← hN.out] at hn
  have hIh := Lib.hid hI
  obtain ⟨R, hR⟩ : ∃ R, Hid (R = mapB l) := ⟨_, rfl⟩
  rw [← hR.out]
  clear hv hI
  go_enter Tryd.func16, Tryd.ntmps16
  go_wp2_with fail
  go_loopw [3, 4] (fun kv iv wr => ∃ i : Nat, i ≤ N ∧ iv = .int .i64 i ∧ (∃ x1 x2 x3, kv = .slice x1 x2 x3) ∧ OI wr W0.heap.size kv ((l.take i).map Prod.fst) ∧ Hid ((l.take i).any badE = false) ∧ Below W0.heap.size W0 wr) (fun _ iv _ => N - (intOf iv).toNat)
  case atStart => exact ⟨0, by omega, rfl, ⟨_, _, _, rfl⟩, OwnG.nil _ _, rfl, Below.refl _ _⟩
  case round =>
    obtain ⟨i, hi, rfl, ⟨x1, x2, x3, rfl⟩, ok, hgood, B⟩ := hrel
    by_cases hlt : i < N
    · have hil : i < l.length := by rw [← hN.out]; exact hlt
      obtain ⟨b, o, c', he, hcell⟩ := hc.out i hil
      injection he with he1 he2 he3
      subst he1
      obtain ⟨hcc1, hcc2⟩ := hcell wr B
      have hbad := Lib.hid (mapB_bad l i hil)
      rw [← hR.out] at hbad
      have hsn := Lib.hid (any_snoc badE l i hil hgood.out)
      have hsn2 : Hid ((l.take (i + 1)).map Prod.fst = (l.take i).map Prod.fst ++ [l[i].1]) := by
        show _ = _
        rw [List.take_succ_eq_append_getElem hil, List.map_append]; rfl
      have hll : ((l.take i).map Prod.fst).length ≤ i := by rw [List.length_map]; exact List.length_take_le _ _
      clear hcell he2 he3
      have i0 : (0 : Int) ≤ (i : Int) := by omega
      have i1 : (i : Int) < (N : Int) := by omega
      have hbe : Hid (badE l[i] = (l[i].2.length == 0 || decide (65536 < l[i].2.length))) := rfl
      generalize l[i] = e at *
      obtain ⟨ek, es⟩ := e
      dsimp only at hcc1 hcc2 hbad hbe hsn2
      by_cases h0 : es.length = 0
      · have t1 : ((es.length : Int) == 0) = true := by rw [beq_iff_eq]; omega
        have hr : Hid (R = false) := hbad.out (.inl h0)
        have t2 : (es.length == 0) = true := by rw [beq_iff_eq]; omega
        clear hbad hgood hsn hsn2 hbe h0 ok hll
        go_wp2_with fail
        go_ret
        exact ⟨ret_bool hr.out.symm, B⟩
      · have t1 : ((es.length : Int) == 0) = false := by rw [beq_eq_false_iff_ne]; omega
        have t2 : (es.length == 0) = false := by rw [beq_eq_false_iff_ne]; omega
        by_cases h1 : 65536 < es.length
        · have t3 : (65536 : Int) < (es.length : Int) := by omega
          have hr : Hid (R = false) := hbad.out (.inr h1)
          clear hbad hgood hsn hsn2 hbe h0 ok hll
          go_wp2_with fail
          go_ret
          exact ⟨ret_bool hr.out.symm, B⟩
        · have t3 : ¬ (65536 : Int) < (es.length : Int) := by omega
          have hnew : Hid ((l.take (i + 1)).any badE = false) := by
            show _ = _
            rw [hsn.out, hbe.out, t2, decide_eq_false h1]; rfl
          obtain ⟨v', w', hr, ho, hBB⟩ := snocI wr W0.heap.size _ _ ek ok (by omega) B.size
          obtain ⟨ya, yc, hysh⟩ := (OwnG.SL eI_len ho).shape
          have hr : (Builtin.append_ #[24, 24] 24 #[.slice x1 x2 x3, .slice (some ⟨wr.heap.size, 0, none⟩) 1 1]).run Tryd.prog (wr.alloc (.cells #[.int .i64 ek] 3)) = .ok v' w' := hr
          have hend := Lib.hid (show OI w' W0.heap.size v' ((l.take (i + 1)).map Prod.fst) ∧ Hid ((l.take (i + 1)).any badE = false) ∧ Below W0.heap.size W0 w' from ⟨by rw [hsn2.out]; exact ho, hnew, B.trans hBB⟩)
          generalize ((l.take i).map Prod.fst ++ [ek]).length = yn at hysh
          subst hysh
          clear ho hBB hbad hgood hsn hsn2 hbe h0 ok hll hnew h1
          go_wp2_with (at_builtin; refine wpList_append_runB rfl (.tmp 27) (.tmp 33) 24 rfl (.slice x1 x2 x3) (.slice (some ⟨wr.heap.size, 0, none⟩) 1 1) rfl rfl _ _ hr ?_)
          go_roundw
          case rel => exact ⟨i + 1, by omega, by go_num, ⟨_, _, _, rfl⟩, hend.out⟩
          case measure => simp [intOf]; omega
    · rw [List.take_of_length_le (show l.length ≤ i by rw [← hN.out]; omega)] at ok
      have hgood2 : l.any badE = false := by rw [← hgood.out, List.take_of_length_le (by rw [← hN.out]; omega)]
      have hk := Lib.hid (keysR_any (.slice x1 x2 x3) (l.map Prod.fst) wr (OwnG.SL eI_len ok) rfl (by rw [List.length_map, ← hN.out]; omega) (fun x hx => by
        obtain ⟨e, he, rfl⟩ := List.mem_map.1 hx
        exact hIh.out e he))
      rw [← mapB_good l hgood2, ← hR.out] at hk
      have i1 : ¬ (i : Int) < (N : Int) := by omega
      clear ok hgood hgood2
      go_wp2_with fail
      refine hk.out.mono ?_
      rintro e w1 ⟨rfl, b1⟩
      have B1 := B.trans (b1.mono B.size)
      go_wp2_with fail
      go_ret
      exact ⟨rfl, B1⟩
theorem mp_i64 (l : List Ent) (h : Mp l) : ∀ e ∈ l, I64 e.1 := fun e he => by have := h.1 e he; unfold I64; omega

set_option maxRecDepth 100000 in
theorem RootR_any (v : Value) (l : List Ent) (w : World) (hv : SE w v l) (hn : l.length ≤ 100000) (hI : ∀ e ∈ l, I64 e.1) : Calls Tryd.prog 14 #[v] w (if mapB l = true then RootPost (rootL l) 0 w else RootPost [] 40 w) := by
  have h1 := Lib.hid (ValidR_any v l w hv rfl hn hI)
  by_cases hm : mapB l = true
  · have hmp := (mapB_iff l).1 hm
    rw [if_pos hm]
    rw [hm] at h1
    have hE : E sha (fun _ => []) (mE l) 1 = rootL l := by unfold rootL partV; rw [mE_map l hmp]
    have h2 := Lib.hid (show ∀ W, Below w.heap.size w W → Calls Tryd.prog 40 #[v, .int .i64 0, .int .i64 64, .slice none 0 0] W (PartPost w (E sha (fun _ => []) (mE l) 1) ([] ++ hsd sha (fun _ => []) (mE l) 6 1)) from fun W B =>
      part_any v l w hv (by omega) (fun k => by
        by_cases g : lookE l k = []
        · rw [g]; simp
        · have := mapV_small l hmp k
          rwa [vF_map l _ hmp] at this) 6 (by omega) 1 0 (.slice none 0 0) [] W (by omega) (by omega) (by omega) B (OwnG.nil _ _) (by simp))
    rw [hE] at h2
    generalize rootL l = D at *
    generalize [] ++ hsd sha (fun _ => []) (mE l) 6 1 = S at *
    obtain ⟨a, N, c, rfl, hN⟩ := hv.shape'
    clear hv hE hm hmp hN hI
    go_enter Tryd.func14, Tryd.ntmps14
    go_wp2_with fail
    refine h1.out.mono ?_
    rintro e w1 ⟨rfl, b1⟩
    go_wp2_with fail
    refine (h2.out _ b1).mono ?_
    rintro e w2 ⟨sv, rfl, o1, B1⟩
    obtain ⟨a1, c1, hsh1⟩ := (OwnG.SL eS_len o1).shape
    generalize S.length = n1 at hsh1
    subst hsh1
    clear o1
    go_wp2_with fail
    go_ret2
    exact ⟨rfl, B1⟩
  · rw [if_neg hm]
    have hm2 : mapB l = false := by cases h : mapB l <;> simp_all
    rw [hm2] at h1
    clear hm hm2
    go_enter Tryd.func14, Tryd.ntmps14
    go_wp2_with fail
    refine h1.out.mono ?_
    rintro e w1 ⟨rfl, b1⟩
    go_wp2_with fail
    go_ret2
    exact ⟨rfl, b1⟩
end Go.Proofs.YtegahpfmkepfmaaDoor
namespace Go.Proofs.YtegahpfmkepfmaaDoor
open Go.RowKit
def winQ (low wd : Nat) (k : Int) : Bool := decide ((low : Int) ≤ k) && decide (k < (low : Int) + (wd : Int))
def winB (ks : List Int) (low wd : Nat) : Bool := ks.any (winQ low wd)
theorem win_op (ks : List Int) (h i low : Nat) (hk : ∀ k ∈ ks, 0 ≤ k ∧ k < 64) (h6 : h < 7) (hlow : low + 64 = i * 2 ^ h) (hhi : (i + 1) * 2 ^ h ≤ 128) : winB ks low (2 ^ h) = op (tN ks) i := by
  have e : (i + 1) * 2 ^ h = i * 2 ^ h + 2 ^ h := by rw [Nat.add_mul, Nat.one_mul]
  have p2 := Nat.pow_pos (n := h) (show 0 < 2 by omega)
  rw [Bool.eq_iff_iff, op_iff]
  unfold winB winQ
  rw [List.any_eq_true]
  constructor
  · rintro ⟨k, hm, hw⟩
    simp only [Bool.and_eq_true, decide_eq_true_eq] at hw
    have hb := hk k hm
    refine ⟨k.toNat, List.mem_map.2 ⟨k, hm, rfl⟩, h, h6, ?_⟩
    refine Nat.div_eq_of_lt_le ?_ ?_
    · rw [← hlow]; omega
    · have : ((2 ^ h : Nat) : Int) = (((2 : Nat) ^ h : Nat) : Int) := rfl
      omega
  · rintro ⟨k', hm, up, hup, he⟩
    obtain ⟨k, hm2, rfl⟩ := List.mem_map.1 hm
    have hb := hk k hm2
    obtain rfl := up_eq k.toNat up h i (by omega) (by omega) hhi he
    have a1 : i * 2 ^ up ≤ 64 + k.toNat := by rw [← he]; exact Nat.div_mul_le_self _ _
    have a2 : 64 + k.toNat < (i + 1) * 2 ^ up := by rw [← he, Nat.add_mul, Nat.one_mul]; exact Nat.lt_div_mul_add p2
    refine ⟨k, hm2, ?_⟩
    simp only [Bool.and_eq_true, decide_eq_true_eq]
    omega

set_option maxRecDepth 100000 in
set_option maxHeartbeats 2000000 in
theorem withinR_any (v : Value) (l : List Int) (low wd : Nat) (w : World) (hv : SI w v l) (hn : l.length ≤ 140737488351232) (h1 : low ≤ 1000) (h2 : wd ≤ 1000) :
    Calls Tryd.prog 73 #[v, .int .i64 (low : Int), .int .i64 (wd : Int)] w fun e w' => e = .returned (.bool (winB l low wd)) ∧ w = w' := by
  have hc := Lib.hid (show ∀ (k : Nat) (hk : k < l.length), _ from fun k hk => SI.at hv k hk)
  obtain ⟨a, N, c, rfl, hN⟩ := hv.shape'
  rw [← hN.out] at hn
  obtain ⟨R, hR⟩ : ∃ R, Hid (R = winB l low wd) := ⟨_, rfl⟩
  rw [← hR.out]
  clear hv
  go_enter Tryd.func73, Tryd.ntmps73
  go_wp2_with fail
  go_loop [7] (fun iv => ∃ i : Nat, i ≤ N ∧ iv = .int .i64 i ∧ Hid ((l.take i).any (winQ low wd) = false)) (fun iv => N - (intOf iv).toNat)
  case atStart => exact ⟨0, by omega, rfl, rfl⟩
  case round =>
    obtain ⟨i, hi, rfl, hno⟩ := hrel
    by_cases hlt : i < N
    · have hil : i < l.length := by rw [← hN.out]; exact hlt
      obtain ⟨b, o, c', he, hcell⟩ := hc.out i hil
      injection he with he1 he2 he3
      subst he1
      have hcc := hcell w (Below.refl _ _)
      have hsn := any_snoc (winQ low wd) l i hil hno.out
      have hat := any_of_take (winQ low wd) l (i + 1)
      rw [hsn, show l.any (winQ low wd) = R from hR.out.symm] at hat
      have hsn := Lib.hid hsn
      have hat := Lib.hid hat
      have hq : Hid (winQ low wd l[i] = (decide ((low : Int) ≤ l[i]) && decide (l[i] < (low : Int) + (wd : Int)))) := rfl
      clear hcell he2 he3
      have i0 : (0 : Int) ≤ (i : Int) := by omega
      have i1 : (i : Int) < (N : Int) := by omega
      generalize l[i] = y at *
      by_cases ha : (low : Int) ≤ y
      · by_cases hb : y < (low : Int) + (wd : Int)
        · have hr : Hid (R = true) := hat.out (by rw [hq.out, decide_eq_true ha, decide_eq_true hb]; rfl)
          clear hat hsn hq hno
          go_wp2_with fail
          go_ret
          exact ⟨ret_bool hr.out.symm, rfl⟩
        · have hnew : Hid ((l.take (i + 1)).any (winQ low wd) = false) := by show _ = _; rw [hsn.out, hq.out, decide_eq_false hb, Bool.and_false]
          clear hat hsn hq hno
          go_wp2_with fail
          go_round
          case rel => exact ⟨i + 1, by omega, by go_num, hnew⟩
          case measure => simp [intOf]; omega
      · have hnew : Hid ((l.take (i + 1)).any (winQ low wd) = false) := by show _ = _; rw [hsn.out, hq.out, decide_eq_false ha, Bool.false_and]
        clear hat hsn hq hno
        go_wp2_with fail
        go_round
        case rel => exact ⟨i + 1, by omega, by go_num, hnew⟩
        case measure => simp [intOf]; omega
    · have hr : Hid (R = false) := by
        show _ = _
        rw [hR.out, ← hno.out, List.take_of_length_le (by rw [← hN.out]; omega)]; rfl
      have i1 : ¬ (i : Int) < (N : Int) := by omega
      clear hno
      go_wp2_with fail
      go_ret
      exact ⟨ret_bool hr.out.symm, rfl⟩

theorem clF_ok (ks : List Nat) (h i : Nat) (ho : op ks i = false) : clF ks h i = [i] := by
  cases h <;> rw [clF, ho] <;> rfl
theorem clF_zero (ks : List Nat) (i : Nat) (ho : op ks i = true) : clF ks 0 i = [] := by rw [clF, ho]; rfl
theorem clF_succ (ks : List Nat) (h i : Nat) (ho : op ks i = true) : clF ks (h + 1) i = clF ks h (2 * i) ++ clF ks h (2 * i + 1) := by rw [clF, ho]; rfl
theorem geo (h i low : Nat) (hi : 1 ≤ i) (hlow : low + 64 = i * 2 ^ (h + 1)) (hhi : (i + 1) * 2 ^ (h + 1) ≤ 128) :
    low + 64 = 2 * i * 2 ^ h ∧ (low + 2 ^ h) + 64 = (2 * i + 1) * 2 ^ h ∧ (2 * i + 1) * 2 ^ h ≤ 128 ∧ (2 * i + 1 + 1) * 2 ^ h ≤ 128 ∧ 2 ^ (h + 1) = 2 ^ h + 2 ^ h ∧ 2 ^ (h + 1) ≤ 64 ∧ low < 64 ∧ 0 < 2 ^ h := by
  have p2 := Nat.pow_pos (n := h) (show 0 < 2 by omega)
  have e1 : i * 2 ^ (h + 1) = 2 * i * 2 ^ h := by rw [Nat.pow_succ, Nat.mul_comm 2 i, Nat.mul_assoc, Nat.mul_comm 2]
  have e : (i + 1) * 2 ^ (h + 1) = (2 * i + 1 + 1) * 2 ^ h := by rw [Nat.pow_succ, show 2 * i + 1 + 1 = 2 * (i + 1) by omega, Nat.mul_comm 2 (i + 1), Nat.mul_assoc, Nat.mul_comm 2]
  have m1 : (2 * i + 1) * 2 ^ h = 2 * i * 2 ^ h + 2 ^ h := by rw [Nat.add_mul, Nat.one_mul]
  have m2 : (2 * i + 1 + 1) * 2 ^ h = (2 * i + 1) * 2 ^ h + 2 ^ h := by rw [Nat.add_mul _ 1, Nat.one_mul]
  have eq2 : 2 ^ (h + 1) = 2 ^ h + 2 ^ h := by rw [Nat.pow_succ]; omega
  have m3 : 1 * 2 ^ (h + 1) ≤ i * 2 ^ (h + 1) := Nat.mul_le_mul_right _ hi
  have m4 : (i + 1) * 2 ^ (h + 1) = i * 2 ^ (h + 1) + 2 ^ (h + 1) := by rw [Nat.add_mul, Nat.one_mul]
  omega

set_option maxRecDepth 100000 in
set_option maxHeartbeats 2000000 in
theorem manyR_any (vk : Value) (ks : List Int) (hk : ∀ k ∈ ks, 0 ≤ k ∧ k < 64) (hn : ks.length ≤ 140737488351232) :
    ∀ h : Nat, h ≤ 6 → ∀ (i low : Nat) (w : World), SI w vk ks → 1 ≤ i → low + 64 = i * 2 ^ h → (i + 1) * 2 ^ h ≤ 128 →
    Calls Tryd.prog 77 #[vk, .int .i64 (low : Int), .int .i64 ((2 ^ h : Nat) : Int)] w fun e w' => e = .returned (.int .i64 ((clF (tN ks) h i).length : Int)) ∧ w = w' := by
  intro h
  induction h with
  | zero =>
    intro _ i low w hv hi hlow hhi
    have hw := withinR_any vk ks low (2 ^ 0) w hv hn (by omega) (by omega)
    rw [win_op ks 0 i low hk (by omega) hlow hhi] at hw
    have hw := Lib.hid hw
    obtain ⟨a, c, rfl⟩ := hv.shape
    generalize ks.length = N at *
    cases ho : op (tN ks) i with
    | false =>
      rw [clF_ok _ _ _ ho]
      rw [ho] at hw
      clear ho hv
      go_enter Tryd.func77, Tryd.ntmps77
      go_wp2_with fail
      refine hw.out.mono ?_
      rintro e w1 ⟨rfl, rfl⟩
      go_wp2_with fail
      go_ret
      exact ⟨rfl, rfl⟩
    | true =>
      rw [clF_zero _ _ ho]
      rw [ho] at hw
      clear ho hv
      go_enter Tryd.func77, Tryd.ntmps77
      go_wp2_with fail
      refine hw.out.mono ?_
      rintro e w1 ⟨rfl, rfl⟩
      go_wp2_with fail
      go_ret
      exact ⟨rfl, rfl⟩
  | succ h ih =>
    intro h6 i low w hv hi hlow hhi
    obtain ⟨g1, g2, g3, g4, g5, g6, g7, g8⟩ := geo h i low hi hlow hhi
    have hw := withinR_any vk ks low (2 ^ (h + 1)) w hv hn (by omega) (by omega)
    rw [win_op ks (h + 1) i low hk (by omega) hlow hhi] at hw
    have hw := Lib.hid hw
    have hA := Lib.hid (ih (by omega) (2 * i) low w hv (by omega) (by omega) (by omega))
    have hB := Lib.hid (ih (by omega) (2 * i + 1) (low + 2 ^ h) w hv (by omega) (by omega) (by omega))
    rw [Int.natCast_add] at hB
    obtain ⟨a, c, rfl⟩ := hv.shape
    have t1 : (((2 ^ (h + 1) : Nat) : Int) == 1) = false := by rw [beq_eq_false_iff_ne]; omega
    have hdiv1 : ((2 ^ (h + 1) : Nat) : Int).tdiv 2 = ((2 ^ h : Nat) : Int) := by
      rw [g5, Int.tdiv_eq_ediv_of_nonneg (by omega)]; omega
    have hdiv2 : ((2 ^ (h + 1) : Nat) : Int) / 2 = ((2 ^ h : Nat) : Int) := by rw [g5]; omega
    cases ho : op (tN ks) i with
    | false =>
      rw [clF_ok _ _ _ ho]
      rw [ho] at hw
      clear ho hv ih hA hB hlow hhi g1 g2 g3 g4 g5 g8
      generalize 2 ^ (h + 1) = wd at *
      generalize ks.length = N at *
      go_enter Tryd.func77, Tryd.ntmps77
      go_wp2_with fail
      refine hw.out.mono ?_
      rintro e w1 ⟨rfl, rfl⟩
      go_wp2_with fail
      go_ret
      exact ⟨rfl, rfl⟩
    | true =>
      rw [clF_succ _ _ _ ho, List.length_append, Int.natCast_add]
      rw [ho] at hw
      have s1 : (clF (tN ks) h (2 * i)).length ≤ 64 := by
        have h1 := clF_size (tN ks) h (2 * i)
        have : 2 ^ h ≤ 64 := by omega
        omega
      have s2 : (clF (tN ks) h (2 * i + 1)).length ≤ 64 := by
        have h1 := clF_size (tN ks) h (2 * i + 1)
        have : 2 ^ h ≤ 64 := by omega
        omega
      clear ho hv ih hlow hhi g1 g2 g3 g4 g5
      generalize 2 ^ (h + 1) = wd at *
      generalize 2 ^ h = q at *
      generalize (clF (tN ks) h (2 * i)).length = n1 at *
      generalize (clF (tN ks) h (2 * i + 1)).length = n2 at *
      generalize ks.length = N at *
      go_enter Tryd.func77, Tryd.ntmps77
      go_wp2_with fail
      refine hw.out.mono ?_
      rintro e w1 ⟨rfl, rfl⟩
      go_wp2_with fail
      refine hA.out.mono ?_
      rintro e w1 ⟨rfl, rfl⟩
      go_wp2_with fail
      refine hB.out.mono ?_
      rintro e w1 ⟨rfl, rfl⟩
      go_wp2_with fail
      go_ret
      exact ⟨rfl, rfl⟩
end Go.Proofs.YtegahpfmkepfmaaDoor
