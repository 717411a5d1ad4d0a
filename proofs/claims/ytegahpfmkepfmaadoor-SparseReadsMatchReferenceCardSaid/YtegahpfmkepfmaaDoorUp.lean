/- Update. -/
import Derived.Test.YtegahpfmkepfmaaDoorPr
namespace Go.Proofs.YtegahpfmkepfmaaDoor
open Go.RowKit
def isI (x : Int) (y : Int) : Bool := x == y
set_option maxRecDepth 100000 in
set_option maxHeartbeats 1000000 in
theorem Index_any (v : Value) (l : List Int) (x : Int) (w : World) {W0 : World} (hv : SI W0 v l) (hW : W0 = w) (hn : l.length ≤ 140737488351232) : Calls Tryd.prog 78 #[v, .int .i64 x] w (IdxPost (l.any (isI x)) w) := by
  subst hW
  obtain ⟨N, hN⟩ : ∃ N, Hid (N = l.length) := ⟨_, rfl⟩
  have hc := Lib.hid (show ∀ (k : Nat) (hk : k < l.length), _ from fun k hk => SI.at hv k hk)
  obtain ⟨a, c, rfl⟩ := hv.shape
  rw [← hN.out] at hn ⊢
  clear hv
  go_enter Tryd.func78, Tryd.ntmps78
  go_wp2_with fail
  go_loopw [8] (fun i wr => ∃ k : Nat, k ≤ N ∧ i = .int .i64 k ∧ Hid ((l.take k).any (isI x) = false) ∧ Below W0.heap.size W0 wr) (fun i _ => N - (intOf i).toNat)
  case atStart => exact ⟨0, by omega, rfl, rfl, Below.refl _ _⟩
  case round =>
    obtain ⟨k, hk, rfl, hno, B⟩ := hrel
    by_cases hlt : k < N
    · have hkl : k < l.length := by rw [← hN.out]; exact hlt
      obtain ⟨b, o, c', he, hcell⟩ := hc.out k hkl
      injection he with he1 he2 he3
      subst he1
      have hcc := hcell wr B
      have hs := Lib.hid (any_snoc (isI x) l k hkl hno.out)
      have ht := Lib.hid (fun h => any_of_take (isI x) l (k + 1) h)
      clear hcell hno he2 he3
      have i0 : (0 : Int) ≤ (k : Int) := by omega
      have i1 : (k : Int) < (N : Int) := by omega
      generalize l[k] = u at *
      cases hb : isI x u with
      | true =>
        rw [hb] at hs
        have hres2 := Lib.hid (ht.out hs.out)
        have t1 : (x == u) = true := hb
        clear hs ht hb
        go_wp2_with fail
        go_ret
        exact ⟨(k : Int), by omega, by omega, by rw [hres2.out]; simp, rfl, B⟩
      | false =>
        rw [hb] at hs
        have t1 : (x == u) = false := hb
        clear ht hb
        go_wp2_with fail
        go_roundw
        case rel => exact ⟨k + 1, by omega, by go_num, hs, B⟩
        case measure => simp [intOf]; omega
    · have hres : l.any (isI x) = false := by have h := hno.out; rwa [List.take_of_length_le (by rw [← hN.out]; omega)] at h
      have hres2 := Lib.hid hres
      have i1 : ¬ (k : Int) < (N : Int) := by omega
      clear hres hno
      go_wp2_with fail
      go_ret
      exact ⟨-1, by omega, by omega, by rw [hres2.out]; rfl, rfl, B⟩
theorem Contains_any (v : Value) (l : List Int) (x : Int) (w : World) (hv : SI w v l) (hn : l.length ≤ 140737488351232) : Calls Tryd.prog 55 #[v, .int .i64 x] w fun e w' => e = .returned (.bool (l.any (isI x))) ∧ Below w.heap.size w w' := by
  have h := Lib.hid (Index_any v l x w hv rfl hn)
  clear hv
  generalize l.any (isI x) = r at *
  go_enter Tryd.func55, Tryd.ntmps55
  go_wp2_with fail
  refine h.out.mono ?_
  rintro e w2 ⟨x, x1, x2, hx, rfl, b2⟩
  go_wp2_with fail
  go_ret
  exact ⟨rfl, b2⟩
/-- are the keys of the changes among the keys? -/
def amongB (ch : List Ent) (ks : List Int) : Bool := ch.all fun c => ks.any (isI c.1)
def updB (root : Str) (ks : List Int) (vs ps : List Str) (ch : List Ent) : Bool := shownB root ks vs ps && chgB ch && amongB ch ks
def updS (root : Str) (ks : List Int) (vs ps : List Str) (ch : List Ent) : Str := if updB root ks vs ps ch = true then standS ks ps (putV (shownV ks vs) ch) else []
def UpdPost (root : Str) (ks : List Int) (vs ps : List Str) (ch : List Ent) (w : World) (e : Ending) (w' : World) : Prop := e = .returned (.tuple #[.string ⟨(updS root ks vs ps ch).toArray⟩, .bool (updB root ks vs ps ch)]) ∧ Below w.heap.size w w'
theorem chgB_facts (l : List Ent) (h : chgB l = true) : l.length ≤ 64 ∧ (∀ e ∈ l, 0 ≤ e.1 ∧ e.1 < 64) ∧ (∀ e ∈ l, e.2.length ≤ 65536) := by
  unfold chgB at h
  simp only [Bool.and_eq_true, Bool.not_eq_true', List.any_eq_false] at h
  obtain ⟨h1, h2⟩ := h
  have hl := ascB_len _ (-1) (by omega) (by omega) h1
  rw [List.length_map] at hl
  refine ⟨by omega, fun e he => ?_, fun e he => ?_⟩
  · have := ascB_bd _ (-1) (by omega) h1 e.1 (List.mem_map.2 ⟨e, he, rfl⟩); omega
  · have := h2 e he; simp [tlE, tl] at this; omega
theorem all_take {α : Type} (p : α → Bool) (l : List α) (k : Nat) (hk : k < l.length) (h : (l.take k).all p = true) : (l.take (k + 1)).all p = p l[k] := by
  rw [List.take_succ_eq_append_getElem hk, List.all_append, h]; simp
theorem all_not {α : Type} (p : α → Bool) (l : List α) (k : Nat) (hk : k < l.length) (h : p l[k] = false) : l.all p = false := by
  rw [← Bool.not_eq_true, List.all_eq_true]
  exact fun h2 => by have := h2 l[k] (List.getElem_mem hk); rw [h] at this; cases this
theorem SLG.shape' {α : Type} {enc : α → List Value} {sz : Nat} {W : World} {v : Value} {l : List α} (h : SLG enc sz W v l) : ∃ a n c, v = .slice a n c ∧ Hid (n = l.length) := by
  obtain ⟨a, c, h⟩ := h.shape
  exact ⟨a, _, c, h, rfl⟩
theorem ret_two (a b : Value) : Ending.returned (.tuple #[a, b]) = Ending.returned (.tuple #[a, b]) := rfl

set_option linter.unusedSimpArgs false in
set_option maxRecDepth 100000 in
set_option maxHeartbeats 2000000 in
theorem Update_any (root : Str) (vo vc : Value) (ks : List Int) (vs ps : List Str) (ch : List Ent) (w : World) {W0 : World} (hW : W0 = w) (hv : OpV W0 vo ks vs ps) (hch : SE W0 vc ch) (hkl : ks.length ≤ 140737488351232) (hvl : vs.length ≤ 140737488351232) (hpl : ps.length ≤ 140737488351232) (hcl : ch.length ≤ 140737488351232) (hT : Tab W0) :
    Calls Tryd.prog 27 #[.string ⟨root.toArray⟩, vo, vc] w (UpdPost root ks vs ps ch w) := by
  subst hW
  obtain ⟨a, b, c, rfl, ha, hb, hc⟩ := hv
  obtain ⟨w1, hw1⟩ : ∃ w1, w1 = W0.alloc (.cells #[a, b, c] 37) := ⟨_, rfl⟩
  obtain ⟨B1, z1, hcell⟩ := box_world W0 w1 a b c 37 hw1
  have hsh := Lib.hid (shown_any (.agg #[a, b, c]) root ks vs ps w1 rfl ⟨a, b, c, rfl, ha.below B1, hb.below B1, hc.below B1⟩ hkl hvl hpl (hT.below B1))
  have hchg := Lib.hid (show ∀ W, Below W0.heap.size W0 W → _ from fun W B => changeList_any vc ch W (hch.below B) hcl)
  have hcon := Lib.hid (show ∀ x W, Below W0.heap.size W0 W → _ from fun x W B => Contains_any a ks x W (ha.below B) hkl)
  have hce := Lib.hid (show ∀ (k : Nat) (hk : k < ch.length), _ from fun k hk => SE.at hch k hk)
  have hu : Hid (updB root ks vs ps ch = (shownB root ks vs ps && chgB ch && amongB ch ks)) := rfl
  have hu2 : Hid (updS root ks vs ps ch = if updB root ks vs ps ch = true then standS ks ps (putV (shownV ks vs) ch) else []) := rfl
  have hcE := Lib.hid hcell
  have hw1h := Lib.hid hw1
  have B1h := Lib.hid B1
  have z1h := Lib.hid z1
  have hst0 := Lib.hid (show formB ks vs ps = true → ∀ V' : List Str, V'.length = 64 → (∀ s ∈ V', List.length s ≤ 1000000) → ∀ W, Below W0.heap.size W0 W → Calls Tryd.prog 56 #[.agg #[a, b, c], .agg (cT V').toArray] W fun e w' => e = .returned (.string ⟨(standS ks ps V').toArray⟩) ∧ Below W.heap.size W w' from fun hf V' hl hs W B => by
    obtain ⟨k1, k2, k3, k4, k5⟩ := formB_facts ks vs ps hf
    exact standsFor_any (.agg #[a, b, c]) ks vs ps V' W ⟨a, b, c, rfl, ha.below B, hb.below B, hc.below B⟩ k1 k4 (fun s hs => by have := k5 s hs; omega) hl hs (hT.below B))
  have hfold0 := Lib.hid (show ∀ V : List Str, V.length = 64 → chgB ch = true → ∀ W, Below W0.heap.size W0 W → _ from fun V hl hg W B => fold_any vc ch V W (hch.below B) rfl (by have := (chgB_facts ch hg).1; omega) hl (chgB_facts ch hg).2.1)
  obtain ⟨a1, n1, a2, rfl, hn1⟩ := ha.shape'
  obtain ⟨b1, n2, b2, rfl, hn2⟩ := hb.shape'
  obtain ⟨c1, n3, c2, rfl, hn3⟩ := hc.shape'
  obtain ⟨v1, n4, v2, rfl, hn4⟩ := hch.shape'
  have hn4l : n4 ≤ 140737488351232 := by rw [hn4.out]; exact hcl
  have hbad : ∀ p : Bool, p = false → updB root ks vs ps ch = p → ∀ w', Below W0.heap.size W0 w' → UpdPost root ks vs ps ch W0 (.returned (.tuple #[.string ⟨#[]⟩, .bool false])) w' := fun p hp h w' B => by
    subst hp
    have e : updS root ks vs ps ch = [] := by rw [hu2.out, h]; rfl
    exact ⟨by rw [h, e], B⟩
  have hbadh := Lib.hid hbad
  clear hbad ha hb hc hch hT hkl hvl hpl hcl hcell hw1 B1 z1
  go_enter Tryd.func27, Tryd.ntmps27
  go_upto_region 1 with (fail)
  rw [← hw1h.out]
  obtain ⟨d0, d1, d2⟩ := hcE.out w1 (Below.refl _ _)
  go_wp2_with fail
  refine hsh.out.mono ?_
  rintro e w2 ⟨V, rfl, hV, hVl, b2⟩
  have hVh := Lib.hid hV
  have zz1 := Lib.hid (size73l V hVl)
  have zz2 := Lib.hid (sz64 V hVl)
  have hVlh := Lib.hid hVl
  clear hV hVl d0 d1 d2 hsh
  go_upto_region 2 with (refine wpList_store_row rfl 73 (.tmp 8) (.tmp 17) rfl w2.heap.size (cT V).toArray rfl rfl 73 _ (heap_alloc_new w2 _) zz1.out zz2.out (cT_all _) ?_)
  rw [z64s]
  obtain ⟨W3, hW3⟩ : ∃ W3, W3 = (w2.alloc (.cells (cT emp).toArray 73)).setRow w2.heap.size (cT V).toArray := ⟨_, rfl⟩
  rw [← hW3]
  have hr8 : RowT 73 W3 w2.heap.size V := by rw [hW3]; exact setRow_heap _ _ _ _ _ _ (heap_alloc_new w2 _)
  have b3 : Below w1.heap.size w1 W3 := by rw [hW3]; exact below_setRow (b2.alloc b2.size _) b2.size _
  have s8 : w2.heap.size < W3.heap.size := hr8.lt
  clear hW3 b2
  obtain ⟨b8, hb8⟩ : ∃ b8, w2.heap.size = b8 := ⟨_, rfl⟩
  rw [hb8] at hr8 s8 ⊢
  clear hb8
  have toW := Lib.hid (show ∀ W, Below W3.heap.size W3 W → Below W0.heap.size W0 W from fun W B => (B1h.out.trans (b3.mono B1h.out.size)).trans (B.mono (by have := b3.size; have := B1h.out.size; omega)))
  have cE := Lib.hid (show ∀ W, Below W3.heap.size W3 W → _ from fun W B => hcE.out W (b3.trans (B.mono b3.size)))
  have fR := Lib.hid (show ∀ W, Below W3.heap.size W3 W → RowT 73 W b8 V from fun W B => hr8.below B s8)
  clear hr8 b3 hcE s8
  cases hsb : shownB root ks vs ps with
  | false =>
    have hb1 := Lib.hid (hbadh.out _ rfl (by rw [hu.out, hsb]; rfl) W3 (toW.out _ (Below.refl _ _)))
    clear hbadh hu hu2 cE fR hsb
    go_wp2_with fail
    go_ret2
    exact hb1.out
  | true =>
    cases hcb : chgB ch with
    | false =>
      rw [hcb] at hchg
      have hb1 := Lib.hid (show ∀ W, Below W3.heap.size W3 W → _ from fun W B => hbadh.out _ rfl (by rw [hu.out, hcb]; simp) W (toW.out W B))
      clear hbadh hu hu2 cE fR hsb hcb
      go_wp2_with fail
      refine (hchg.out _ (toW.out _ (Below.refl _ _))).mono ?_
      rintro e w4 ⟨rfl, b4⟩
      go_wp2_with fail
      go_ret2
      exact hb1.out _ b4
    | true =>
      have hform : formB ks vs ps = true := by
        unfold shownB at hsb
        simp only [Bool.and_eq_true] at hsb
        exact hsb.1
      have hVe := hVh.out hform
      rw [hcb] at hchg
      have hsm := Lib.hid (show ∀ s ∈ putV V ch, List.length s ≤ 1000000 from putV_small ch 1000000 V (by rw [hVe]; exact shownV_small ks vs 1000000 (fun s hs => by have := (formB_facts ks vs ps hform).2.2.1 s hs; omega)) (fun e he => by have := (chgB_facts ch hcb).2.2 e he; omega))
      have hst1 := Lib.hid (hst0.out hform (putV V ch) (by rw [putV_len]; exact hVlh.out) hsm.out)
      have hfold1 := Lib.hid (hfold0.out V hVlh.out hcb)
      have hb1 := Lib.hid (show amongB ch ks = false → ∀ W, Below W3.heap.size W3 W → _ from fun h W B => hbadh.out _ rfl (by rw [hu.out, h]; simp) W (toW.out W B))
      have hgood := Lib.hid (show amongB ch ks = true → ∀ W, Below W3.heap.size W3 W → UpdPost root ks vs ps ch W0 (.returned (.tuple #[.string ⟨(standS ks ps (putV V ch)).toArray⟩, .bool true])) W from fun h W B => by
        have e : updB root ks vs ps ch = true := by rw [hu.out, hsb, hcb, h]; rfl
        have e2 : updS root ks vs ps ch = standS ks ps (putV V ch) := by rw [hu2.out, e, hVe]; rfl
        exact ⟨by rw [e, e2], toW.out W B⟩)
      have hcl := Lib.hid (fun W => Clone_any (standS ks ps (putV V ch)) W (by unfold standS; have := E_small (cF (closedL (tN ks)) ps) (vF (putV V ch)) 1000 (by omega) (cF_small _ _ 1000 (fun s hs => by have := (formB_facts ks vs ps hform).2.2.2.2 s hs; omega)) 1 (by omega); omega))
      clear hbadh hu hu2 hst0 hfold0 hVh hVe hform hsb hcb
      generalize hTS : standS ks ps (putV V ch) = TS at *
      clear hTS
      generalize putV V ch = V' at *
      go_wp2_with fail
      refine (hchg.out _ (toW.out _ (Below.refl _ _))).mono ?_
      rintro e w4 ⟨rfl, b4⟩
      go_wp2_with fail
      go_loopw [28] (fun i wr => ∃ k : Nat, k ≤ n4 ∧ i = .int .i64 k ∧ Hid ((ch.take k).all (fun c => ks.any (isI c.1)) = true) ∧ Below W3.heap.size W3 wr) (fun i _ => n4 - (intOf i).toNat)
      case atStart => exact ⟨0, by omega, rfl, rfl, b4⟩
      case round =>
        clear b4 hchg
        obtain ⟨k, hk, rfl, hall, B⟩ := hrel
        by_cases hlt : k < n4
        · have hkl : k < ch.length := by rw [← hn4.out]; exact hlt
          obtain ⟨bk, ok, ck, he, hcell⟩ := hce.out k hkl
          injection he with he1 he2 he3
          subst he1
          obtain ⟨hc1, hc2⟩ := hcell wr (toW.out _ B)
          have hs := Lib.hid (all_take (fun c : Ent => ks.any (isI c.1)) ch k hkl hall.out)
          have hno := Lib.hid (all_not (fun c : Ent => ks.any (isI c.1)) ch k hkl)
          clear hcell he2 he3 hall
          have i0 : (0 : Int) ≤ (k : Int) := by omega
          have i1 : (k : Int) < (n4 : Int) := by omega
          generalize ch[k] = u at *
          go_upto_region 7 with (fail)
          have hnew := heap_alloc_new wr (.cells #[.int .i64 u.1, .string ⟨u.2.toArray⟩] 46)
          have B2 : Below W3.heap.size W3 (wr.alloc (.cells #[.int .i64 u.1, .string ⟨u.2.toArray⟩] 46)) := B.alloc B.size _
          generalize (wr.alloc (.cells #[.int .i64 u.1, .string ⟨u.2.toArray⟩] 46)) = W5 at *
          have e1 : W5.cell? ⟨wr.heap.size, 0, none⟩ = some (.int .i64 u.1) := by rw [cell_of_row _ _ _ _ _ _ hnew]; rfl
          obtain ⟨d0, d1, d2⟩ := cE.out W5 B2
          have hq := Lib.hid (hcon.out u.1 W5 (toW.out _ B2))
          have Bq := Lib.hid B2
          clear hnew B2 hc1 hc2 B
          cases hin : ks.any (isI u.1) with
          | true =>
            rw [hin] at hq hs
            clear hno hin
            go_wp2_with fail
            refine hq.out.mono ?_
            rintro e W6 ⟨rfl, b6⟩
            have Bn := Lib.hid (Bq.out.trans (b6.mono Bq.out.size))
            clear b6 d0 d1 d2 e1
            go_wp2_with fail
            go_roundw
            case rel => exact ⟨k + 1, by omega, by go_num, hs.out, Bn.out⟩
            case measure => simp [intOf]; omega
          | false =>
            have hbx := Lib.hid (hb1.out (hno.out hin))
            rw [hin] at hq
            clear hno hs hin hgood hb1
            go_wp2_with fail
            refine hq.out.mono ?_
            rintro e W6 ⟨rfl, b6⟩
            have Bn := Lib.hid (Bq.out.trans (b6.mono Bq.out.size))
            clear b6 d0 d1 d2 e1
            go_wp2_with fail
            go_ret2
            exact hbx.out _ Bn.out
        · have hfull : amongB ch ks = true := by have h := hall.out; rwa [List.take_of_length_le (by rw [← hn4.out]; omega)] at h
          have hgf := Lib.hid (hgood.out hfull)
          have i1 : ¬ (k : Int) < (n4 : Int) := by omega
          have hfold := Lib.hid (show ∀ W, Below wr.heap.size wr W → _ from fun W BW => hfold1.out W (toW.out _ (B.trans (BW.mono B.size))))
          have hst := Lib.hid (show ∀ W, Below wr.heap.size wr W → _ from fun W BW => hst1.out W (toW.out _ (B.trans (BW.mono B.size))))
          have sK := Lib.hid (show ∀ W, Below wr.heap.size wr W → (Instr.loadAt 73 (.pointer (some ⟨b8, 0, none⟩))).run Tryd.prog W = .ok (.agg (cT V).toArray) W ∧ _ from fun W BW => ⟨loadAt_row 73 V W _ _ _ Tryd.underlying73 zz1.out (fR.out _ (B.trans (BW.mono B.size))), cE.out _ (B.trans (BW.mono B.size))⟩)
          have hS0 := Lib.hid (sK.out wr.drew (Below.refl _ _).drew)
          have hBf := Lib.hid B
          clear hall hfull hgood hb1 hfold1 hst1 B hce hcon cE fR
          go_wp2_with fail
          refine wp_region_held_drew (S := (fun w' : World => (Instr.loadAt 73 (.pointer (some ⟨b8, 0, none⟩))).run Tryd.prog w' = .ok (.agg (cT V).toArray) w' ∧ w'.cell? ⟨W0.heap.size, 0, none⟩ = some (.slice a1 n1 a2) ∧ w'.cell? ⟨W0.heap.size, 1, none⟩ = some (.slice b1 n2 b2) ∧ w'.cell? ⟨W0.heap.size, 2, none⟩ = some (.slice c1 n3 c2))) (by kernel_rfl) hS0.out (fun hHeld => ?_)
          refine wpAnyH_take (i := 0) (oi := { dst := some 39, op := Op.load 37 (Operand.tmp 4), type := _, pos := _, after := _, guard := none }) (v := ?_) rfl (by kernel_rfl) (by kernel_rfl) (by kernel_rfl) (fun _ _ _ h => h) (Or.inl ⟨by rfl, ?_⟩) (by assumption) ?_
          rotate_left
          · ((intro w hSw; (try dsimp only at hSw); go_simp) <;> with_reducible rfl)
          try simp only [Act.put, List.setIfInBounds_toArray, List.set_cons_zero, List.set_cons_succ]
          refine wpAnyH_take (i := 1) (oi := { dst := some 40, op := Op.move (Operand.tmp 2), type := _, pos := _, after := _, guard := none }) (v := ?_) rfl (by kernel_rfl) (by kernel_rfl) (by kernel_rfl) (fun _ _ _ h => h) (Or.inl ⟨by rfl, ?_⟩) (by assumption) ?_
          rotate_left
          · ((intro w hSw; (try dsimp only at hSw); go_simp) <;> with_reducible rfl)
          try simp only [Act.put, List.setIfInBounds_toArray, List.set_cons_zero, List.set_cons_succ]
          refine wpAnyH_take (i := 2) (oi := { dst := some 41, op := Op.load 73 (Operand.tmp 8), type := _, pos := _, after := _, guard := none }) (v := ?_) rfl (by kernel_rfl) (by kernel_rfl) (by kernel_rfl) (fun _ _ _ h => h) (Or.inl ⟨by rfl, ?_⟩) (by assumption) ?_
          rotate_left
          · (intro W hSw; refine exec_load _ 73 (.tmp 8) rfl _ ?_; exact hSw.1)
          try simp only [Act.put, List.setIfInBounds_toArray, List.set_cons_zero, List.set_cons_succ]
          refine wpAnyH_ready (rs := [3]) (by kernel_rfl) (by simp) ?_
          refine AllReadyH.cons (o := { dst := some 42, op := Op.call { callee := Callee.value (Operand.func 38), args := #[(Operand.tmp 40), (Operand.tmp 41), Operand.func 39], argTypes := #[23, 73, 75] }, type := _, pos := _, after := _, guard := none }) rfl (fun K hK => ?_) ?_
          · skip
            go_simp
            with_reducible refine (hfold.out _ (Below.refl _ _).drew).mono ?_
            rintro e W2 ⟨rfl, d2⟩
            have B2 : Below wr.heap.size wr W2 := (Below.refl _ wr).drew.trans d2
            clear d2
            go_wp2_with fail
            refine hK.out _ _ ?_ (fun hHeld => ?_)
            · exact sK.out W2 B2
            clear hK K
            try simp only [Act.put, List.setIfInBounds_toArray, List.set_cons_zero, List.set_cons_succ]
            refine wpAnyH_ready (rs := [4]) (by kernel_rfl) (by simp) ?_
            refine AllReadyH.cons (o := { dst := some 43, op := Op.call { callee := Callee.value (Operand.func 56), args := #[(Operand.tmp 39), (Operand.tmp 42)], argTypes := #[37, 73] }, type := _, pos := _, after := _, guard := none }) rfl (fun K hK => ?_) ?_
            · skip
              go_simp
              with_reducible refine (hst.out _ B2).mono ?_
              rintro e W3 ⟨rfl, d3⟩
              have B3 : Below wr.heap.size wr W3 := B2.trans (d3.mono B2.size)
              clear d3
              go_wp2_with fail
              refine hK.out _ _ ?_ (fun hHeld => ?_)
              · exact sK.out W3 B3
              clear hK K
              try simp only [Act.put, List.setIfInBounds_toArray, List.set_cons_zero, List.set_cons_succ]
              refine wpAnyH_take (i := 5) (oi := { dst := some 12, op := Op.assign (Operand.tmp 43), type := _, pos := _, after := _, guard := none }) (v := ?_) rfl (by kernel_rfl) (by kernel_rfl) (by kernel_rfl) (fun _ _ _ h => h) (Or.inl ⟨by rfl, ?_⟩) (by assumption) ?_
              rotate_left
              · ((intro w hSw; (try dsimp only at hSw); go_simp) <;> with_reducible rfl)
              try simp only [Act.put, List.setIfInBounds_toArray, List.set_cons_zero, List.set_cons_succ]
              refine wpAnyH_done (by kernel_rfl) ?_ _
              go_wp2_with fail
              refine (hcl.out _).mono ?_
              rintro e W4 ⟨rfl, d4⟩
              have B4 := B3.trans (d4.mono B3.size)
              go_wp2_with fail
              go_ret2
              exact hgf.out _ (hBf.out.trans (B4.mono hBf.out.size))
            exact AllReadyH.nil
          exact AllReadyH.nil
end Go.Proofs.YtegahpfmkepfmaaDoor
