/- Read. -/
import Derived.Test.YtegahpfmkepfmaaDoorUp
namespace Go.Proofs.YtegahpfmkepfmaaDoor
open Go.RowKit
/-- no block is shared -/
def Dj (u v : Value) : Prop := ∀ g, u.ownBlock = some g → v.ownBlock ≠ some g
theorem Dj.symm {u v : Value} (h : Dj u v) : Dj v u := fun g e1 e2 => h g e2 e1
/-- append(v, x): the run, and what it does to another row of the call's own -/
theorem OwnG.snoc2 {α β : Type} {enc : α → List Value} {sz : Nat} {t : TypeId} {enc2 : β → List Value} {sz2 : Nat} {t2 : TypeId} (henc : ∀ x, (enc x).length = sz) (hone : ∀ x, ∀ u ∈ enc x, u.oneCell' = true) (hsz : 0 < sz) (T ty : TypeId) {i0 : TypeInfo} {z : Value} {bytes : Nat}
    (hT : Tryd.prog.underlying T = some (.slice t)) (hi : Tryd.prog.info? t = some i0) (hz0 : i0.zero = some z) (hz1 : i0.size = sz) (hz2 : i0.bytes = bytes) (hz3 : z.cells.size = sz)
    (W : World) (base : Nat) (v u : Value) (l : List α) (m : List β) (x : α) (h : OwnG enc sz t W base v l) (hu : OwnG enc2 sz2 t2 W base u m) (hd : Dj v u) (hl : l.length ≤ 1000000000) (hby : bytes ≤ 1000) (hb : base ≤ W.heap.size) :
    ∃ v' w', (∃ a k c, v' = .slice a k c) ∧ (Builtin.append_ #[T, T] ty #[v, .slice (some ⟨W.heap.size, 0, none⟩) 1 1]).run Tryd.prog (W.alloc (.cells (enc x).toArray t)) = .ok v' w' ∧ OwnG enc sz t w' base v' (l ++ [x]) ∧ OwnG enc2 sz2 t2 w' base u m ∧ Dj v' u ∧ Below base W w' := by
  have hbb : (l.length + 1) * bytes ≤ 140737488355328 := by
    have : (l.length + 1) * bytes ≤ (l.length + 1) * 1000 := Nat.mul_le_mul_left _ hby
    omega
  obtain ⟨g, cap, w', hr, ho, hg, hat, _⟩ := run_append_lies (P := Tryd.prog) (W.alloc (.cells (enc x).toArray t)) T ty base t i0 z sz bytes hT hi hz0 hz1 hz2 hz3 hsz v l.length (l.flatMap enc) ((show W.ownsRow base t sz v l.length (l.flatMap enc) from h).alloc _) ⟨W.heap.size, 0, none⟩ 1 1 (enc x) (by rw [henc]; omega)
    (World.news_of_block (cs := (enc x).toArray) (t := t) (fr := (0, 0)) (heap_alloc_new W _)) (hone x) (by omega) (by unfold maxLen; omega) hbb (by simp; omega) (W.heap.size + 1) (by simp)
  refine ⟨_, w', ⟨_, _, _, rfl⟩, hr, ?_, ?_, ?_, ?_⟩
  · unfold OwnG
    rw [List.length_append, List.flatMap_append]
    simpa using ho
  · have hu2 := hu.alloc (.cells (enc x).toArray t)
    unfold OwnG at hu2 ⊢
    refine hu2.kept hg ?_
    cases e : u.ownBlock with
    | none => exact .inl rfl
    | some k => exact .inr (fun e2 => hd k e2.symm e)
  · intro k hk e
    have hk2 : g = k := by simpa [Value.ownBlock] using hk
    subst hk2
    rcases hat with h1 | h1
    · exact hd _ h1 e
    · have := hu.lt _ e; omega
  · exact ((Below.refl base W).alloc (by omega) _).grown hg (by simp; omega) (fun k hk => by have := h.base k hk; omega)
/-- what an opening shows: the entries, and the keys at which there is nothing -/
def rdE (V : List Str) (ks : List Int) : List Ent := (ks.filter fun k => !(vF V k.toNat).isEmpty).map fun k => (k, vF V k.toNat)
def rdA (V : List Str) (ks : List Int) : List Int := ks.filter fun k => (vF V k.toNat).isEmpty
theorem rd_no (V : List Str) (ks : List Int) (n : Nat) (h : n < ks.length) (he : vF V ks[n].toNat = []) : rdE V (ks.take (n + 1)) = rdE V (ks.take n) ∧ rdA V (ks.take (n + 1)) = rdA V (ks.take n) ++ [ks[n]] := by
  unfold rdE rdA
  rw [List.take_succ_eq_append_getElem h, List.filter_append, List.filter_append]
  simp [he]
theorem rd_yes (V : List Str) (ks : List Int) (n : Nat) (h : n < ks.length) (he : vF V ks[n].toNat ≠ []) : rdE V (ks.take (n + 1)) = rdE V (ks.take n) ++ [(ks[n], vF V ks[n].toNat)] ∧ rdA V (ks.take (n + 1)) = rdA V (ks.take n) := by
  unfold rdE rdA
  rw [List.take_succ_eq_append_getElem h, List.filter_append, List.filter_append]
  simp [he]
theorem rdE_len (V : List Str) (ks : List Int) : (rdE V ks).length ≤ ks.length := by unfold rdE; rw [List.length_map]; exact List.length_filter_le _ _
theorem rdA_len (V : List Str) (ks : List Int) : (rdA V ks).length ≤ ks.length := List.length_filter_le _ _
def ReadPost (root : Str) (ks : List Int) (vs ps : List Str) (w : World) (e : Ending) (w' : World) : Prop :=
  (shownB root ks vs ps = false ∧ e = .returned (.tuple #[.slice none 0 0, .slice none 0 0, .bool false]) ∧ Below w.heap.size w w') ∨
  (shownB root ks vs ps = true ∧ ∃ t a, e = .returned (.tuple #[t, a, .bool true]) ∧ SE w' t (rdE (shownV ks vs) ks) ∧ SI w' a (rdA (shownV ks vs) ks) ∧ Below w.heap.size w w')

set_option maxRecDepth 100000 in
set_option maxHeartbeats 2000000 in
theorem Read_any (root : Str) (vo : Value) (ks : List Int) (vs ps : List Str) (w : World) {W0 : World} (hW : W0 = w) (hv : OpV W0 vo ks vs ps) (hkl : ks.length ≤ 140737488351232) (hvl : vs.length ≤ 140737488351232) (hpl : ps.length ≤ 140737488351232) (hT : Tab W0) :
    Calls Tryd.prog 23 #[.string ⟨root.toArray⟩, vo] w (ReadPost root ks vs ps w) := by
  subst hW
  obtain ⟨a, b, c, rfl, ha, hb, hc⟩ := hv
  obtain ⟨w1, hw1⟩ : ∃ w1, w1 = W0.alloc (.cells #[a, b, c] 37) := ⟨_, rfl⟩
  obtain ⟨B1, z1, hcell⟩ := box_world W0 w1 a b c 37 hw1
  have hsh := Lib.hid (shown_any (.agg #[a, b, c]) root ks vs ps w1 rfl ⟨a, b, c, rfl, ha.below B1, hb.below B1, hc.below B1⟩ hkl hvl hpl (hT.below B1))
  have hka := Lib.hid (show ∀ (k : Nat) (hk : k < ks.length), _ from fun k hk => SI.at ha k hk)
  have hcE := Lib.hid hcell
  have hw1h := Lib.hid hw1
  have B1h := Lib.hid B1
  obtain ⟨a1, n1, a2, rfl, hn1⟩ := ha.shape'
  obtain ⟨b1, n2, b2, rfl, hn2⟩ := hb.shape'
  obtain ⟨c1, n3, c2, rfl, hn3⟩ := hc.shape'
  clear ha hb hc hT hkl hvl hpl hcell hw1 B1 z1
  go_enter Tryd.func23, Tryd.ntmps23
  go_upto_region 1 with (fail)
  rw [← hw1h.out]
  obtain ⟨d0, d1, d2⟩ := hcE.out w1 (Below.refl _ _)
  go_wp2_with fail
  refine hsh.out.mono ?_
  rintro e w2 ⟨V, rfl, hV, hVl, b2⟩
  have hVh := Lib.hid hV
  have zz1 := Lib.hid (size73l V hVl)
  have zz2 := Lib.hid (sz64 V hVl)
  have hVlh := Lib.hid hVl
  clear hV hVl d0 d1 d2 hsh
  go_upto_region 2 with (refine wpList_store_row rfl 73 (.tmp 7) (.tmp 17) rfl w2.heap.size (cT V).toArray rfl rfl 73 _ (heap_alloc_new w2 _) zz1.out zz2.out (cT_all _) ?_)
  rw [z64s]
  obtain ⟨W3, hW3⟩ : ∃ W3, W3 = (w2.alloc (.cells (cT emp).toArray 73)).setRow w2.heap.size (cT V).toArray := ⟨_, rfl⟩
  rw [← hW3]
  have hr8 : RowT 73 W3 w2.heap.size V := by rw [hW3]; exact setRow_heap _ _ _ _ _ _ (heap_alloc_new w2 _)
  have b3 : Below w1.heap.size w1 W3 := by rw [hW3]; exact below_setRow (b2.alloc b2.size _) b2.size _
  have s8 : w2.heap.size < W3.heap.size := hr8.lt
  clear hW3 b2
  obtain ⟨b8, hb8⟩ : ∃ b8, w2.heap.size = b8 := ⟨_, rfl⟩
  rw [hb8] at hr8 s8 ⊢
  clear hb8
  have toW := Lib.hid (show ∀ W, Below W3.heap.size W3 W → Below W0.heap.size W0 W from fun W B => (B1h.out.trans (b3.mono B1h.out.size)).trans (B.mono (by have := b3.size; have := B1h.out.size; omega)))
  have cE := Lib.hid (show ∀ W, Below W3.heap.size W3 W → _ from fun W B => hcE.out W (b3.trans (B.mono b3.size)))
  have fR := Lib.hid (show ∀ W, Below W3.heap.size W3 W → RowT 73 W b8 V from fun W B => hr8.below B s8)
  clear hr8 b3 hcE s8
  cases hsb : shownB root ks vs ps with
  | false =>
    have hb1 := Lib.hid (show ReadPost root ks vs ps W0 (.returned (.tuple #[.slice none 0 0, .slice none 0 0, .bool false])) W3 from .inl ⟨hsb, rfl, toW.out _ (Below.refl _ _)⟩)
    clear cE fR hsb
    go_wp2_with fail
    go_ret3
    exact hb1.out
  | true =>
    have hform : formB ks vs ps = true := by
      have h := hsb
      unfold shownB at h
      simp only [Bool.and_eq_true] at h
      exact h.1
    have hVe := hVh.out hform
    have hkb := Lib.hid (ascB_bd ks (-1) (by omega) (formB_facts ks vs ps hform).1)
    have hkl := ascB_len ks (-1) (by omega) (by omega) (formB_facts ks vs ps hform).1
    rw [← hn1.out] at hkl
    have hn64 : n1 ≤ 64 := by omega
    have hVs := Lib.hid (show ∀ k, (vF V k).length ≤ 1000000 from fun k => by
      unfold vF; rw [List.getD_eq_getElem?_getD]
      cases e : V[k]? with
      | none => simp
      | some s => exact shownV_small ks vs 1000000 (fun s hs => by have := (formB_facts ks vs ps hform).2.2.1 s hs; omega) s (by rw [← hVe]; exact List.mem_of_getElem? e))
    have hgood := Lib.hid (show ∀ t a W, SE W t (rdE V ks) → SI W a (rdA V ks) → Below W3.heap.size W3 W → ReadPost root ks vs ps W0 (.returned (.tuple #[t, a, .bool true])) W from fun t a W h1 h2 B => .inr ⟨hsb, t, a, rfl, by rw [← hVe]; exact h1, by rw [← hVe]; exact h2, toW.out W B⟩)
    clear hVe hform hVh hsb hkl
    obtain ⟨d0, d1, d2⟩ := cE.out W3 (Below.refl _ _)
    go_wp2_with fail
    go_loopw [9, 10, 24] (fun tv av i wr => ∃ n : Nat, n ≤ n1 ∧ i = .int .i64 n ∧ (∃ x1 x2 x3, tv = .slice x1 x2 x3) ∧ (∃ x1 x2 x3, av = .slice x1 x2 x3) ∧ OE wr W3.heap.size tv (rdE V (ks.take n)) ∧ OI wr W3.heap.size av (rdA V (ks.take n)) ∧ Dj tv av ∧ Below W3.heap.size W3 wr) (fun _ _ i _ => n1 - (intOf i).toNat)
    case atStart => exact ⟨0, by omega, rfl, ⟨_, _, _, rfl⟩, ⟨_, _, _, rfl⟩, OwnG.nil _ _, OwnG.nil _ _, (fun g h => by cases h), Below.refl _ _⟩
    case round =>
      clear d0 d1 d2
      obtain ⟨n, hn, rfl, ⟨x1, x2, x3, rfl⟩, ⟨y1, y2, y3, rfl⟩, ot, oa, hd, B⟩ := hrel
      by_cases hlt : n < n1
      · have hnk : n < ks.length := by rw [← hn1.out]; exact hlt
        obtain ⟨bk, ok, ck, he, hcell⟩ := hka.out n hnk
        injection he with he1 he2 he3
        subst he1
        have hcc := hcell wr (toW.out _ B)
        have hb := hkb.out ks[n] (List.getElem_mem hnk)
        have hyes := Lib.hid (rd_yes V ks n hnk)
        have hno := Lib.hid (rd_no V ks n hnk)
        have lt1 : (rdE V (ks.take n)).length ≤ 1000 := by have := rdE_len V (ks.take n); have := List.length_take_le n ks; omega
        have la1 : (rdA V (ks.take n)).length ≤ 1000 := by have := rdA_len V (ks.take n); have := List.length_take_le n ks; omega
        clear hcell he2 he3
        obtain ⟨p, hp⟩ : ∃ p : Nat, ks[n] = (p : Int) := ⟨ks[n].toNat, by omega⟩
        rw [hp] at hcc hb hyes hno
        rw [Int.toNat_natCast] at hyes hno
        clear hp
        have c7 := (fR.out wr B).cell p (by rw [hVlh.out]; omega)
        have hvd : V.getD p [] = vF V p := rfl
        rw [hvd] at c7
        have hsl := hVs.out p
        clear hvd
        have i0 : (0 : Int) ≤ (n : Int) := by omega
        have i1 : (n : Int) < (n1 : Int) := by omega
        have i2 : (0 : Int) ≤ (p : Int) := by omega
        have i3 : (p : Int) < 64 := by omega
        have Bs := B.size
        by_cases hz : vF V p = []
        · obtain ⟨e1, e2⟩ := hno.out hz
          rw [hz] at c7
          obtain ⟨j0, hj, hj0, hj1, hj2⟩ := info_parts infoInt
          obtain ⟨v', w', ⟨z1, z2, z3, rfl⟩, hr, h1, h2, h3, h4⟩ := OwnG.snoc2 eI_len eI_one (by omega) 24 24 Tryd.underlying24 hj hj0 hj1 hj2 rfl wr W3.heap.size _ _ _ _ (p : Int) oa ot hd.symm (by omega) (by omega) Bs
          have hr : (Builtin.append_ #[24, 24] 24 #[.slice y1 y2 y3, .slice (some ⟨wr.heap.size, 0, none⟩) 1 1]).run Tryd.prog (wr.alloc (.cells #[.int .i64 (p : Int)] 3)) = .ok (.slice z1 z2 z3) w' := hr
          have hend := Lib.hid (show OE w' W3.heap.size (.slice x1 x2 x3) (rdE V (ks.take (n + 1))) ∧ OI w' W3.heap.size (.slice z1 z2 z3) (rdA V (ks.take (n + 1))) ∧ Dj (.slice x1 x2 x3) (.slice z1 z2 z3) ∧ Below W3.heap.size W3 w' from ⟨by rw [e1]; exact h2, by rw [e2]; exact h1, h3.symm, B.trans h4⟩)
          clear hyes hno hz e1 e2 h1 h2 h3 h4 ot oa hd hj hj0 hj1 hj2 B
          go_wp2_with (at_builtin; refine wpList_append_runB rfl (.tmp 32) (.tmp 34) 24 rfl (.slice y1 y2 y3) (.slice (some ⟨wr.heap.size, 0, none⟩) 1 1) rfl rfl _ _ hr ?_)
          go_roundw
          case rel => exact ⟨n + 1, by omega, by go_num, ⟨_, _, _, rfl⟩, ⟨_, _, _, rfl⟩, hend.out⟩
          case measure => simp [intOf]; omega
        · obtain ⟨e1, e2⟩ := hyes.out hz
          have hz2 := not_empty hz
          obtain ⟨j0, hj, hj0, hj1, hj2⟩ := info_parts infoEnt
          have hcl := Lib.hid (Clone_any (vF V p) wr (by omega))
          have happ := Lib.hid (show ∀ W, Below wr.heap.size wr W → _ from fun W BW => OwnG.snoc2 eE_len eE_one (by omega) 23 23 Tryd.underlying23 hj hj0 hj1 hj2 rfl W W3.heap.size _ _ _ _ ((p : Int), vF V p) (ot.below BW) (oa.below BW) hd (by omega) (by omega) (Nat.le_trans Bs BW.size))
          have e1h := Lib.hid e1
          have e2h := Lib.hid e2
          have Bh := Lib.hid B
          clear hyes hno hz e1 e2 ot oa hd hj hj0 hj1 hj2 B
          generalize vF V p = s at *
          go_wp2_with fail
          refine hcl.out.mono ?_
          rintro e W ⟨rfl, bW⟩
          obtain ⟨v', w', ⟨z1, z2, z3, rfl⟩, hr, h1, h2, h3, h4⟩ := happ.out W bW
          have hr : (Builtin.append_ #[23, 23] 23 #[.slice x1 x2 x3, .slice (some ⟨W.heap.size, 0, none⟩) 1 1]).run Tryd.prog (W.alloc (.cells #[.int .i64 (p : Int), .string ⟨s.toArray⟩] 46)) = .ok (.slice z1 z2 z3) w' := hr
          have hend := Lib.hid (show OE w' W3.heap.size (.slice z1 z2 z3) (rdE V (ks.take (n + 1))) ∧ OI w' W3.heap.size (.slice y1 y2 y3) (rdA V (ks.take (n + 1))) ∧ Dj (.slice z1 z2 z3) (.slice y1 y2 y3) ∧ Below W3.heap.size W3 w' from ⟨by rw [e1h.out]; exact h1, by rw [e2h.out]; exact h2, h3, (Bh.out.trans (bW.mono Bh.out.size)).trans h4⟩)
          clear h1 h2 h3 h4 bW hcl happ e1h e2h
          go_wp2_with (at_builtin; refine wpList_append_runB rfl (.tmp 36) (.tmp 43) 23 rfl (.slice x1 x2 x3) (.slice (some ⟨W.heap.size, 0, none⟩) 1 1) rfl rfl _ _ hr ?_)
          go_roundw
          case rel => exact ⟨n + 1, by omega, by go_num, ⟨_, _, _, rfl⟩, ⟨_, _, _, rfl⟩, hend.out⟩
          case measure => simp [intOf]; omega
      · have hfull : ks.take n = ks := List.take_of_length_le (by rw [← hn1.out]; omega)
        rw [hfull] at ot oa
        have hend := Lib.hid (hgood.out _ _ wr (OwnG.SL eE_len ot) (OwnG.SL eI_len oa) B)
        have i1 : ¬ (n : Int) < (n1 : Int) := by omega
        clear hfull ot oa hd B hgood hka cE fR
        go_wp2_with fail
        go_ret3
        exact hend.out
end Go.Proofs.YtegahpfmkepfmaaDoor
