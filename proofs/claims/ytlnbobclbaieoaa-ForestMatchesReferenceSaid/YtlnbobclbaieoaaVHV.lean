/- Contracts and facts. -/
import Derived.Deep.LoopGhost
import Derived.Handy
import Derived.WalkMore
import Derived.BigRegion
import Derived.Laws.EntriesVeiled
import Derived.Test.YtlnbobclbaieoaaVHT
set_option linter.unusedSimpArgs false
set_option maxRecDepth 100000
set_option maxHeartbeats 4000000
namespace Go.Proofs.Ytlnbobclbaieoaa
open Go.RowKit

/-- the labels without their edges -/
def lab0 (m : PM) (V : List Int) : List Nm := V.map fun v => (v, [(gp m v).root, (gp m v).depth, -1])
noncomputable def sfxL (n : Nat) : Code := dropC n (Try.f22.body.getD .skip)
def LabQ (w : World) (l : List Nm) (x : Int) (e : Ending) (w' : World) : Prop := ∃ r, e = .returned (.tuple #[r, .int .i64 x]) ∧ OwnN w' w.heap.size r l ∧ Below w.heap.size w w'
def firstF (S : Int → Bool) (V : List Int) (j : Nat) : Int := ((V.drop j).find? S).getD (-1)
theorem firstF_step (S : Int → Bool) (V : List Int) (j : Nat) (hj : j < V.length) : firstF S V j = if S V[j] = true then V[j] else firstF S V (j + 1) := by
  unfold firstF
  rw [List.drop_eq_getElem_cons hj, List.find?_cons]
  cases h : S V[j] <;> simp
theorem firstF_end (S : Int → Bool) (V : List Int) : firstF S V V.length = -1 := by unfold firstF; simp

def listL (m : PM) (V : List Int) (f : Nat → Int) : List Nm := (List.range V.length).map fun j => (V.getD j 0, [(gp m (V.getD j 0)).root, (gp m (V.getD j 0)).depth, f j])
theorem listL_len (m : PM) (V : List Int) (f : Nat → Int) : (listL m V f).length = V.length := by simp [listL]
theorem listL_at (m : PM) (V : List Int) (f : Nat → Int) (i : Nat) (hi : i < V.length) : (listL m V f)[i]? = some (V[i], [(gp m V[i]).root, (gp m V[i]).depth, f i]) := by
  unfold listL
  rw [List.getElem?_map, List.getElem?_range hi]
  simp [hi]
theorem listL_ext (m : PM) (V : List Int) {f h : Nat → Int} (e : ∀ j, j < V.length → f j = h j) : listL m V f = listL m V h := by
  unfold listL
  refine List.map_congr_left (fun j hj => ?_)
  rw [e j (List.mem_range.1 hj)]
theorem listL_set (m : PM) (V : List Int) (f : Nat → Int) (i : Nat) (hi : i < V.length) (a : Int) : (listL m V f).set i (V[i], [(gp m V[i]).root, (gp m V[i]).depth, f i].set 2 a) = listL m V (fun j => if j = i then a else f j) := by
  apply List.ext_getElem?
  intro j
  rw [List.getElem?_set, listL_len]
  by_cases hj : j < V.length
  · rw [listL_at _ _ _ _ hj]
    by_cases e : i = j
    · subst e
      rw [if_pos rfl, if_pos hi, listL_at _ _ _ _ hi, if_pos rfl]; rfl
    · rw [if_neg e, listL_at _ _ _ _ hj, if_neg (fun h => e h.symm)]
  · rw [List.getElem?_eq_none (by rw [listL_len]; omega)]
    by_cases e : i = j
    · omega
    · rw [if_neg e, List.getElem?_eq_none (by rw [listL_len]; omega)]
theorem lab0_list (m : PM) (V : List Int) : lab0 m V = listL m V (fun _ => -1) := by
  apply List.ext_getElem?
  intro j
  by_cases hj : j < V.length
  · rw [listL_at _ _ _ _ hj]; simp [lab0, hj]
  · rw [List.getElem?_eq_none (by simp [lab0]; omega), List.getElem?_eq_none (by rw [listL_len]; omega)]
theorem labF_list (m : PM) (V : List Int) (f : Nat → Int) (e : ∀ j (hj : j < V.length), f j = (gp m V[j]).edge) : labF m V = listL m V f := by
  apply List.ext_getElem?
  intro j
  by_cases hj : j < V.length
  · rw [listL_at _ _ _ _ hj, e j hj]; simp [labF, hj]
  · rw [List.getElem?_eq_none (by simp [labF]; omega), List.getElem?_eq_none (by rw [listL_len]; omega)]
/-- the first edge from the j-th on by which a vertex hangs -/
def curE (m : PM) (es : List Ed) (k : Int) (j : Nat) : Int := match (es.drop j).find? (fun e => decide (e.src = k ∨ e.dst = k) && ((gp m (otherI e k)).depth == (gp m k).depth - 1)) with
  | some e => e.id
  | none => -1
theorem curE_step (m : PM) (es : List Ed) (k : Int) (j : Nat) (hj : j < es.length) : curE m es k j = if (decide (es[j].src = k ∨ es[j].dst = k) && ((gp m (otherI es[j] k)).depth == (gp m k).depth - 1)) = true then es[j].id else curE m es k (j + 1) := by
  unfold curE
  rw [List.drop_eq_getElem_cons hj, List.find?_cons]
  cases h : (decide (es[j].src = k ∨ es[j].dst = k) && ((gp m (otherI es[j] k)).depth == (gp m k).depth - 1)) <;> simp
theorem curE_end (m : PM) (es : List Ed) (k : Int) : curE m es k es.length = -1 := by unfold curE; simp
theorem edge_up {g : Gr} (ho : g.ok = true) {k : Int} (hk : k ∈ keysV g.vs) : curE (mF g) g.es k 0 = (gp (mF g) k).edge := by
  obtain ⟨G, _, hV, _, _⟩ := good_of ho
  obtain ⟨S1, S2⟩ := spread_inv G hV
  obtain ⟨e1, e2⟩ := grow_fold g.es (spreadF g.es (keysV g.vs)).m (keysV g.vs) (spreadF g.es (keysV g.vs)).m G.nodup (fun k => ⟨rfl, rfl⟩) (fun k _ => rfl)
  have h1 : mF g k = some { gp (spreadF g.es (keysV g.vs)).m k with edge := upF (spreadF g.es (keysV g.vs)).m k (atF g.es k) } := by
    have := e2 k
    rw [if_pos hk] at this; exact this
  have h2 : (gp (mF g) k).edge = upF (spreadF g.es (keysV g.vs)).m k (atF g.es k) := by rw [gp_some h1]
  have h3 : upF (mF g) k (atF g.es k) = upF (spreadF g.es (keysV g.vs)).m k (atF g.es k) := upF_depth (fun x => (e1 x).2) k _
  rw [h2, ← h3, up_find]
  unfold curE
  rw [List.drop_zero]
  generalize List.find? _ g.es = r
  cases r <;> rfl
theorem OwnN'.cellId {W : World} {base R N cap : Nat} {L : List Nm} {vs : List Value} (h : OwnN' W base (.slice (some ⟨R, 0, none⟩) N cap) L vs) {k : Nat} {x : Nm} (hx : L[k]? = some x) : W.cell? ⟨R, k * 2, none⟩ = some (.int .i64 x.1) := by
  obtain ⟨cur, h1, h2, h3, h4, h5, h6, h7⟩ := h.block
  have hk := (List.getElem?_eq_some_iff.1 hx).1
  have hv : vs[k]? = some (vs[k]'(by rw [h.len]; exact hk)) := List.getElem?_eq_getElem _
  obtain ⟨k1, _⟩ := cN_at L vs k x _ hx hv
  rw [← h3, List.getElem?_take_of_lt (by omega)] at k1
  rw [cell_of_row _ _ _ _ _ _ h1]
  simpa using k1
/-- a label of three numbers: its cells -/
theorem OwnN'.cells3 {W : World} {base R N cap : Nat} {m : PM} {V : List Int} {f : Nat → Int} {vs : List Value} (h : OwnN' W base (.slice (some ⟨R, 0, none⟩) N cap) (listL m V f) vs) (i : Nat) (hi : i < V.length) : ∃ lb c, vs[i]? = some (.slice (some ⟨lb, 0, none⟩) 3 c) ∧ base ≤ lb ∧ ∀ W', Below W.heap.size W W' → W'.cell? ⟨R, i * 2, none⟩ = some (.int .i64 V[i]) ∧ W'.cell? ⟨R, i * 2 + 1, none⟩ = some (.slice (some ⟨lb, 0, none⟩) 3 c) ∧ W'.cell? ⟨lb, 1, none⟩ = some (.int .i64 (gp m V[i]).depth) ∧ W'.cell? ⟨lb, 2, none⟩ = some (.int .i64 (f i)) ∧ W'.frozen? ⟨lb, 2, none⟩ = false := by
  have hx := listL_at m V f i hi
  have hv : vs[i]? = some (vs[i]'(by rw [h.len, listL_len]; exact hi)) := List.getElem?_eq_getElem _
  obtain ⟨f1, c, he, _, hf⟩ := OwnI.form (h.lab i _ _ hx hv)
  obtain ⟨lb, rfl⟩ := hf (by simp)
  rw [he] at hv
  refine ⟨lb, c, hv, (OwnI.base (h.lab i _ _ hx hv) lb rfl).1, fun W' B => ?_⟩
  have h' := h.below B
  have ho := h'.lab i _ _ hx hv
  exact ⟨h'.cellId hx, (h'.cellAt hv).1, (OwnI.at_ ho 1 _ rfl).1, (OwnI.at_ ho 2 _ rfl).1, (OwnI.at_ ho 2 _ rfl).2⟩

end Go.Proofs.Ytlnbobclbaieoaa
/- Contracts and facts. -/
set_option linter.unusedSimpArgs false
set_option maxRecDepth 100000
set_option maxHeartbeats 4000000
namespace Go.Proofs.Ytlnbobclbaieoaa
open Go.RowKit

theorem other_no {e : Ed} {k : Int} (h : ¬ (e.src = k ∨ e.dst = k)) : otherI e k = -1 := by
  unfold otherI
  rw [if_neg (fun h2 => h (.inl h2)), if_neg (fun h2 => h (.inr h2))]
set_option maxRecDepth 1000000 in
set_option maxHeartbeats 16000000 in
theorem labelsR_2 (q0 q2 q3 q5 q6 q7 q8 q9 q10 q11 q12 q13 q14 q15 q16 q17 q18 q19 q20 q21 q22 q23 q24 q25 q26 q27 q28 q29 q30 q31 q32 q33 q34 q35 q36 q37 q38 q39 q40 q41 q42 q43 q44 q45 q46 q47 q48 q49 q50 q51 q52 q53 q54 q55 q56 q57 q58 q59 q60 q61 q62 q63 q64 q65 q66 q67 q68 q69 q70 q71 q72 q73 q74 q75 q76 q77 q78 q79 q80 q81 q82 q83 q84 q85 q86 q87 q88 q89 q90 q91 q92 q93 q94 q95 q96 q97 q98 q99 q100 q101 q102 q103 q104 q105 q106 q107 q108 q109 q110 q111 q112 q113 q114 q115 q116 q117 q118 q119 q120 q121 q122 q123 q124 q125 q126 q127 : Value) (w w3 wA : World) (G : Gr) (R cap : Nat) (vs0 : List Value) (bg vb vo N1 a2 N2 b2 N3 c2 : Nat) (b1 c1 : Option Addr)
    (hL : Hid (LB w3 G bg vb vo N1 a2 N2 b2 N3 c2 b1 c1)) (hB : Hid (Below w3.heap.size w3 wA)) (hBB : Hid (Below w.heap.size w w3)) (H : Hid (OwnN' wA w3.heap.size (.slice (some ⟨R, 0, none⟩) N1 cap) (lab0 (mF G) (keysV G.vs)) vs0)) :
    Code.wp Try.prog (sfxL 4) (bodyPost Try.prog Try.f22 (LabQ w (labF (mF G) (keysV G.vs)) 0)) ⟨(q0 :: .pointer (some ⟨bg, 0, none⟩) :: q2 :: q3 :: .slice (some ⟨R, 0, none⟩) N1 cap :: q5 :: q6 :: q7 :: q8 :: q9 :: q10 :: q11 :: q12 :: q13 :: q14 :: q15 :: q16 :: q17 :: q18 :: q19 :: q20 :: q21 :: q22 :: q23 :: q24 :: q25 :: q26 :: q27 :: q28 :: q29 :: q30 :: q31 :: q32 :: q33 :: q34 :: q35 :: q36 :: q37 :: q38 :: q39 :: q40 :: q41 :: q42 :: q43 :: q44 :: q45 :: q46 :: q47 :: q48 :: q49 :: q50 :: q51 :: q52 :: q53 :: q54 :: q55 :: q56 :: q57 :: q58 :: q59 :: q60 :: q61 :: q62 :: q63 :: q64 :: q65 :: q66 :: q67 :: q68 :: q69 :: q70 :: q71 :: q72 :: q73 :: q74 :: q75 :: q76 :: q77 :: q78 :: q79 :: q80 :: q81 :: q82 :: q83 :: q84 :: q85 :: q86 :: q87 :: q88 :: q89 :: q90 :: q91 :: q92 :: q93 :: q94 :: q95 :: q96 :: q97 :: q98 :: q99 :: q100 :: q101 :: q102 :: q103 :: q104 :: q105 :: q106 :: q107 :: q108 :: q109 :: q110 :: q111 :: q112 :: q113 :: q114 :: q115 :: q116 :: q117 :: q118 :: q119 :: q120 :: q121 :: q122 :: q123 :: q124 :: q125 :: q126 :: q127 :: []).toArray, []⟩ wA := by
  conv => arg 2; whnf
  have n1 : N1 ≤ 24 := hL.out.n1'
  have n2 : N2 ≤ 1000 := hL.out.n2'
  have hVl : Hid ((keysV G.vs).length = N1) := by show _ = _; rw [hL.out.n1]; simp [keysV]
  have hEl : Hid (N2 = G.es.length) := hL.out.n2
  have cE := Lib.hid hL.out.fe.cells
  have H0 : Hid (OwnN' wA w3.heap.size (.slice (some ⟨R, 0, none⟩) N1 cap) (listL (mF G) (keysV G.vs) (fun t => if t < 0 then (gp (mF G) ((keysV G.vs).getD t 0)).edge else -1)) vs0) := by
    show OwnN' _ _ _ _ _
    rw [listL_ext (mF G) (keysV G.vs) (h := fun _ => -1) (fun t _ => by simp), ← lab0_list]; exact H.out
  go_wp2_with fail
  go_loopg [11] N1 (fun gq iv wr => ∃ (i : Nat) (vs : List Value), i + gq = N1 ∧ iv = .int .i64 i ∧ OwnN' wr w3.heap.size (.slice (some ⟨R, 0, none⟩) N1 cap) (listL (mF G) (keysV G.vs) (fun t => if t < i then (gp (mF G) ((keysV G.vs).getD t 0)).edge else -1)) vs ∧ Below w3.heap.size w3 wr)
  case atStart => exact ⟨0, vs0, by omega, rfl, H0.out, hB.out⟩
  case round =>
  obtain ⟨i, vs1, hi, rfl, hS, hBk⟩ := hrel
  obtain ⟨wo, rfl⟩ : ∃ x, x = wr := ⟨_, rfl⟩
  clear H H0 hB
  obtain ⟨g0, g1, g2⟩ := hL.out.fb wo hBk
  cases gk with
  | zero =>
    have hi2 : i = N1 := by omega
    have i1 : ¬ (i : Int) < (N1 : Int) := by omega
    rw [← labF_list (mF G) (keysV G.vs) _ (fun j hj => by
      have : j < i := by rw [hi2, ← hVl.out]; exact hj
      simp [this, hj])] at hS
    have hF := Lib.hid (hBB.out.trans (hBk.mono hBB.out.size))
    have hS2 := Lib.hid (show OwnN' wo w.heap.size (.slice (some ⟨R, 0, none⟩) N1 cap) (labF (mF G) (keysV G.vs)) vs1 from ⟨hS.len, own_low hS.row hBB.out.size, fun j x u a b => own_low (hS.lab j x u a b) hBB.out.size, hS.ap⟩)
    clear hi hi2 hS hBk
    go_wp2_with fail
    go_ret2
    exact ⟨_, rfl, ⟨vs1, hS2.out⟩, hF.out⟩
  | succ ga =>
    have hiN : i < N1 := by omega
    have hiV : i < (keysV G.vs).length := by rw [hVl.out]; exact hiN
    have i0 : (0 : Int) ≤ (i : Int) := by omega
    have i1 : (i : Int) < (N1 : Int) := by omega
    have hle : Hid (i + 1 + ga = N1) := by show _ = _; omega
    obtain ⟨v, hv⟩ : ∃ v, v = (keysV G.vs)[i] := ⟨_, rfl⟩
    have hvm : v ∈ keysV G.vs := by rw [hv]; exact List.getElem_mem hiV
    have hup := Lib.hid (edge_up hL.out.ok hvm)
    have hS0 : Hid (OwnN' wo w3.heap.size (.slice (some ⟨R, 0, none⟩) N1 cap) (listL (mF G) (keysV G.vs) (fun t => if t < i then (gp (mF G) ((keysV G.vs).getD t 0)).edge else if t = i then curE (mF G) G.es v N2 else -1)) vs1) := by
      show OwnN' _ _ _ _ _
      rw [listL_ext (mF G) (keysV G.vs) (h := fun t => if t < i then (gp (mF G) ((keysV G.vs).getD t 0)).edge else -1) (fun t _ => by rw [hEl.out, curE_end]; simp)]
      exact hS
    have hBo := Lib.hid hBk
    have hvh := Lib.hid hv
    clear hv hi hiN hS hBk
    go_upto_region 23 with (fail)
    clear g0 g1 g2
    go_wp2_with fail
    go_loopg [12] N2 (fun gq kv wr => ∃ (vs : List Value), gq ≤ N2 ∧ kv = .int .i64 ((gq : Int) - 1) ∧ OwnN' wr w3.heap.size (.slice (some ⟨R, 0, none⟩) N1 cap) (listL (mF G) (keysV G.vs) (fun t => if t < i then (gp (mF G) ((keysV G.vs).getD t 0)).edge else if t = i then curE (mF G) G.es v gq else -1)) vs ∧ Below w3.heap.size w3 wr)
    case atStart => exact ⟨vs1, Nat.le_refl _, rfl, hS0.out, hBo.out⟩
    case round =>
    obtain ⟨vs, hgk, rfl, hS, hBk⟩ := hrel
    obtain ⟨wi, rfl⟩ : ∃ x, x = wr := ⟨_, rfl⟩
    clear hS0 hBo
    cases gk with
    | zero =>
      rw [hup.out] at hS
      have hS2 : Hid (OwnN' wi w3.heap.size (.slice (some ⟨R, 0, none⟩) N1 cap) (listL (mF G) (keysV G.vs) (fun t => if t < i + 1 then (gp (mF G) ((keysV G.vs).getD t 0)).edge else -1)) vs) := by
        show OwnN' _ _ _ _ _
        rw [listL_ext (mF G) (keysV G.vs) (h := fun t => if t < i then (gp (mF G) ((keysV G.vs).getD t 0)).edge else if t = i then (gp (mF G) v).edge else -1) (fun t ht => by
          by_cases h1 : t < i
          · simp [h1]; omega
          · by_cases h2 : t = i
            · subst h2; rw [hvh.out]; simp [ht]
            · simp [h1, h2]; omega)]
        exact hS
      have hB2 := Lib.hid hBk
      clear hS hBk
      go_wp2_with fail
      go_roundg ga
      case measure => omega
      case rel => exact ⟨i + 1, vs, hle.out, by go_num, hS2.out, hB2.out⟩
    | succ gb =>
      have hkv : (((gb + 1 : Nat) : Int) - 1) = (gb : Int) := by omega
      rw [hkv]
      have hgb : gb < N2 := by omega
      have hgl : Hid (gb ≤ N2) := by show _ ≤ _; omega
      have hge : gb < G.es.length := by rw [← hEl.out]; exact hgb
      have m0 : (0 : Int) ≤ (gb : Int) := by omega
      have m1 : (gb : Int) < (N2 : Int) := by omega
      obtain ⟨eb, eo, rfl, ce⟩ := cE.out gb hge
      have hcs := curE_step (mF G) G.es v gb hge
      have hum := List.getElem_mem hge
      generalize G.es[gb] = u at *
      obtain ⟨lb, lc, hvi0, hlb0, f27a⟩ := hS.cells3 i hiV
      rw [← hvh.out] at f27a
      have hvi := Lib.hid hvi0
      have hlbb : Hid (w3.heap.size ≤ lb) := hlb0
      have hOu := Lib.hid (OtherR_any u v)
      unfold Ed.val at hOu
      have fU := Lib.hid (fun W (qq : Below wi.heap.size wi W) => (show (W.cell? ⟨bg, 0, none⟩ = _ ∧ W.cell? ⟨bg, 1, none⟩ = _ ∧ W.cell? ⟨bg, 2, none⟩ = _) ∧ EdAt W eb (eo + gb * 6) u ∧ (W.cell? ⟨R, i * 2, none⟩ = some (.int .i64 v) ∧ W.cell? ⟨R, i * 2 + 1, none⟩ = some (.slice (some ⟨lb, 0, none⟩) 3 lc) ∧ W.cell? ⟨lb, 1, none⟩ = some (.int .i64 (gp (mF G) v).depth)) from
        ⟨hL.out.fb W (hBk.trans (qq.mono hBk.size)), ce W (hBk.trans (qq.mono hBk.size)), (f27a W qq).1, (f27a W qq).2.1, (f27a W qq).2.2.1⟩))
      unfold EdAt at fU
      have f27 := Lib.hid (fun W (qq : Below wi.heap.size wi W) => (show W.cell? ⟨R, i * 2 + 1, none⟩ = some (.slice (some ⟨lb, 0, none⟩) 3 lc) ∧ W.cell? ⟨bg, 1, none⟩ = some (.slice (some ⟨eb, eo, none⟩) N2 b2) ∧ W.cell? ⟨eb, eo + gb * 6, none⟩ = some (.int .i64 u.id) ∧ (∃ y, W.cell? ⟨lb, 2, none⟩ = some y) ∧ W.frozen? ⟨lb, 2, none⟩ = false from
        ⟨(f27a W qq).2.1, (hL.out.fb W (hBk.trans (qq.mono hBk.size))).2.1, (ce W (hBk.trans (qq.mono hBk.size))).1, ⟨_, (f27a W qq).2.2.2.1⟩, (f27a W qq).2.2.2.2⟩))
      have hSi := Lib.hid hS
      have hBi := Lib.hid hBk
      obtain ⟨g0, g1, g2⟩ := hL.out.fb wi hBk
      clear hkv hS hBk ce f27a hvi0 hlb0
      go_upto_region 25 with (fail)
      clear g0 g1 g2
      refine q_region (fun W => Below wi.heap.size wi W) (by kernel_rfl) (by kernel_rfl) ((Below.refl _ wi).drew) ?_
      repeat (first | (refine q_skip (by rfl) ?_; try simp only [Act.put, zT, z0, zS]) | (refine q_take (v := ?_) (by rfl) ?_ ?_; rotate_left; (first | ((intro w h; clear h; go_simp) <;> with_reducible rfl) | ((intro w h; obtain ⟨⟨y0, y1, y2⟩, ⟨z0, z1, z2, z3, z4, z5⟩, x0, x1, x2⟩ := fU.out w h; clear h; go_simp) <;> with_reducible rfl)); try simp only [Act.put, zT, z0, zS]))
      refine q_call (v := _) Try.f51 (by rfl) rfl Try.func51 (by kernel_rfl) (by kernel_rfl) #[.agg #[.int .i64 u.id, .int .i64 u.src, .int .i64 u.dst, .bool u.dir, .int .i64 u.wt, .int .i64 u.cap], .int .i64 v] (by simp [Act.eval]) (fun w h => (hOu.out w).mono fun e w' ⟨he, hb⟩ => ⟨he, h.trans (hb.mono h.size)⟩) ?_; try simp only [Act.put, zT, z0, zS]
      repeat (first | (refine q_skip (by rfl) ?_; try simp only [Act.put, zT, z0, zS]) | (refine q_take (v := ?_) (by rfl) ?_ ?_; rotate_left; (first | ((intro w h; clear h; go_simp) <;> with_reducible rfl)); try simp only [Act.put, zT, z0, zS]))
      refine q_nil ?_
      intro w6 k6
      have kW6 := Lib.hid k6
      clear k6
      by_cases hat : u.src = v ∨ u.dst = v
      · have hua : u ∈ atF G.es v := mem_atF.2 ⟨hum, hat⟩
        have hom := other_mem (good_of hL.out.ok).1 hua
        have hpos := (good_of hL.out.ok).1.vnn _ hom
        obtain ⟨jn, hjV, hpl, hVj⟩ := plI_idx hom (good_of hL.out.ok).1.nodup
        have hdlo := (good_of hL.out.ok).2.1.lo v
        have hdhi := (good_of hL.out.ok).2.1.hi v hvm
        have hdV := (good_of hL.out.ok).2.2.1
        have hPl := Lib.hid (fun W (qq : Below wi.heap.size wi W) => PlaceR_any _ G (otherI u v) W (hL.out.fG W (hBi.out.trans (qq.mono hBi.out.size))) (by have := hL.out.n1'; have := hL.out.n1; omega))
        rw [hpl] at hPl
        obtain ⟨plb, plc, _, _, fpa⟩ := hSi.out.cells3 jn hjV
        rw [hVj] at fpa
        have fP := Lib.hid (fun W (qq : Below wi.heap.size wi W) => (show W.cell? ⟨R, jn * 2 + 1, none⟩ = some (.slice (some ⟨plb, 0, none⟩) 3 plc) ∧ W.cell? ⟨plb, 1, none⟩ = some (.int .i64 (gp (mF G) (otherI u v)).depth) from ⟨(fpa W qq).2.1, (fpa W qq).2.2.1⟩))
        rw [show decide (u.src = v ∨ u.dst = v) = true from decide_eq_true hat, Bool.true_and] at hcs
        have r0 : (0 : Int) ≤ (jn : Int) := by omega
        have r1 : (jn : Int) < (N1 : Int) := by have := hVl.out; omega
        have m2 : IntKind.i64.wrap ((gp (mF G) v).depth - 1) = (gp (mF G) v).depth - 1 := IntWalk.i64_in _ (by omega)
        generalize (gp (mF G) (otherI u v)).depth = pd at *
        generalize otherI u v = ov at *
        generalize (gp (mF G) v).depth = dv at *
        clear hua hom hjV hpl hVj hat fpa hum
        cases hcd : (pd == dv - 1) with
        | true =>
          have hcur : Hid (curE (mF G) G.es v gb = u.id) := by show _ = _; rw [hcs, if_pos hcd]
          clear hcs hdlo hdhi
          go_upto_region 26 with (fail)
          refine q_region (fun W => Below wi.heap.size wi W) (by kernel_rfl) (by kernel_rfl) (kW6.out.drew) ?_
          repeat (first | (refine q_skip (by rfl) ?_; try simp only [Act.put, zT, z0, zS]) | (refine q_take (v := ?_) (by rfl) ?_ ?_; rotate_left; (first | ((intro w h; clear h; go_simp) <;> with_reducible rfl) | ((intro w h; obtain ⟨⟨y0, y1, y2⟩, ⟨z0, z1, z2, z3, z4, z5⟩, x0, x1, x2⟩ := fU.out w h; obtain ⟨p0, p1⟩ := fP.out w h; clear h; go_simp) <;> with_reducible rfl)); try simp only [Act.put, zT, z0, zS]))
          refine q_call (v := _) Try.f20 (by rfl) rfl Try.func20 (by kernel_rfl) (by kernel_rfl) #[.agg #[.slice (some ⟨vb, vo, none⟩) N1 a2, .slice (some ⟨eb, eo, none⟩) N2 b2, .slice c1 N3 c2], .int .i64 ov] (by simp [Act.eval]) (fun w h => (hPl.out w h).mono fun e w' ⟨he, hb⟩ => ⟨he, h.trans (hb.mono h.size)⟩) ?_; try simp only [Act.put, zT, z0, zS]
          repeat (first | (refine q_skip (by rfl) ?_; try simp only [Act.put, zT, z0, zS]) | (refine q_take (v := ?_) (by rfl) ?_ ?_; rotate_left; (first | ((intro w h; clear h; go_simp) <;> with_reducible rfl) | ((intro w h; obtain ⟨⟨y0, y1, y2⟩, ⟨z0, z1, z2, z3, z4, z5⟩, x0, x1, x2⟩ := fU.out w h; obtain ⟨p0, p1⟩ := fP.out w h; clear h; go_simp) <;> with_reducible rfl)); try simp only [Act.put, zT, z0, zS]))
          refine q_nil ?_
          intro w7 k7
          have kW7 := Lib.hid k7
          have f27 := Lib.hid (fun W (qq : Below w7.heap.size w7 W) => f27.out W (kW7.out.trans (qq.mono kW7.out.size)))
          clear k7 m2
          go_upto_region 27 with (fail)
          refine Rel.c_region (fun _ => false) w7 [some (.slice (some ⟨R, 0, none⟩) N1 cap), some (.int .i64 i), some (.pointer (some ⟨R, i * 2, none⟩)), some (.pointer (some ⟨R, i * 2 + 1, none⟩)), some (.slice (some ⟨lb, 0, none⟩) 3 lc), some (.pointer (some ⟨bg, 1, none⟩)), some (.slice (some ⟨eb, eo, none⟩) N2 b2), some (.int .i64 gb), some (.pointer (some ⟨eb, eo + gb * 6, none⟩)), some (.pointer (some ⟨eb, eo + gb * 6, none⟩)), some (.int .i64 u.id), some (.pointer (some ⟨lb, 2, none⟩)), none] (fun _ _ _ => True)
            (fun _ _ W => ∃ W0, Below w7.heap.size w7 W0 ∧ W = W0.setCell ⟨lb, 2, none⟩ (.int .i64 u.id)) 12 (by kernel_rfl) (by kernel_rfl) (fun i hi => by cases hi)
            (fun j hj => by simp only [List.getD_eq_getElem?_getD]; rcases Nat.eq_or_lt_of_le hj with rfl | hj2; rfl; rw [List.getElem?_eq_none (by simp; omega)]; rfl) (by decide) (fun i v W W' h Bl => trivial) ((Below.refl _ w7).drew) (fun vals hO => ?_)
          refine Rel.c_pure rfl (.slice (some ⟨R, 0, none⟩) N1 cap) rfl (by decide) (hO 0 _ rfl) (by rfl) (fun w hC hd => ?_) ?_
          · clear hd hO; go_simp
          try simp only [Act.put, zT, z0, zS]
          refine Rel.c_pure rfl (.int .i64 i) rfl (by decide) (hO 1 _ rfl) (by rfl) (fun w hC hd => ?_) ?_
          · clear hd hO; go_simp
          try simp only [Act.put, zT, z0, zS]
          refine Rel.c_pure rfl (.pointer (some ⟨R, i * 2, none⟩)) rfl (by decide) (hO 2 _ rfl) (by rfl) (fun w hC hd => ?_) ?_
          · clear hd hO; go_simp
          try simp only [Act.put, zT, z0, zS]
          refine Rel.c_pure rfl (.pointer (some ⟨R, i * 2 + 1, none⟩)) rfl (by decide) (hO 3 _ rfl) (by rfl) (fun w hC hd => ?_) ?_
          · clear hd hO; go_simp
          try simp only [Act.put, zT, z0, zS]
          refine Rel.c_pure rfl (.slice (some ⟨lb, 0, none⟩) 3 lc) rfl (by decide) (hO 4 _ rfl) (by rfl) (fun w hC hd => ?_) ?_
          · obtain ⟨x0, x1, x2, x3, x4⟩ := f27.out w hC; clear hd hO; go_simp
          try simp only [Act.put, zT, z0, zS]
          refine Rel.c_pure rfl (.pointer (some ⟨bg, 1, none⟩)) rfl (by decide) (hO 5 _ rfl) (by rfl) (fun w hC hd => ?_) ?_
          · clear hd hO; go_simp
          try simp only [Act.put, zT, z0, zS]
          refine Rel.c_pure rfl (.slice (some ⟨eb, eo, none⟩) N2 b2) rfl (by decide) (hO 6 _ rfl) (by rfl) (fun w hC hd => ?_) ?_
          · obtain ⟨x0, x1, x2, x3, x4⟩ := f27.out w hC; clear hd hO; go_simp
          try simp only [Act.put, zT, z0, zS]
          refine Rel.c_pure rfl (.int .i64 gb) rfl (by decide) (hO 7 _ rfl) (by rfl) (fun w hC hd => ?_) ?_
          · clear hd hO; go_simp
          try simp only [Act.put, zT, z0, zS]
          refine Rel.c_pure rfl (.pointer (some ⟨eb, eo + gb * 6, none⟩)) rfl (by decide) (hO 8 _ rfl) (by rfl) (fun w hC hd => ?_) ?_
          · clear hd hO; go_simp
          try simp only [Act.put, zT, z0, zS]
          refine Rel.c_pure rfl (.pointer (some ⟨eb, eo + gb * 6, none⟩)) rfl (by decide) (hO 9 _ rfl) (by rfl) (fun w hC hd => ?_) ?_
          · clear hd hO; go_simp
          try simp only [Act.put, zT, z0, zS]
          refine Rel.c_pure rfl (.int .i64 u.id) rfl (by decide) (hO 10 _ rfl) (by rfl) (fun w hC hd => ?_) ?_
          · obtain ⟨x0, x1, x2, x3, x4⟩ := f27.out w hC; clear hd hO; go_simp
          try simp only [Act.put, zT, z0, zS]
          refine Rel.c_pure rfl (.pointer (some ⟨lb, 2, none⟩)) rfl (by decide) (hO 11 _ rfl) (by rfl) (fun w hC hd => ?_) ?_
          · clear hd hO; go_simp
          try simp only [Act.put, zT, z0, zS]
          refine Rel.c_tail0 rfl rfl (by rfl) (fun w hC hd => ?_) ?_
          · refine post_skip' (w.setCell ⟨lb, 2, none⟩ (.int .i64 u.id)) ?_ ⟨w, hC, rfl⟩
            obtain ⟨x0, x1, x2, ⟨x5, x3⟩, x4⟩ := f27.out w hC
            clear hd hO hC; go_simp
          try simp only [Act.put, zT, z0, zS]
          refine Rel.c_end ?_
          intro w8 hF
          obtain ⟨W0, hW0, rfl⟩ := hF
          have k7 := kW7.out.trans (hW0.mono kW7.out.size)
          have hS8 := Lib.hid ((hSi.out.below k7).setLab (listL_at _ _ _ i hiV) hvi.out 2 u.id)
          have hB8 := Lib.hid ((hBi.out.trans (k7.mono hBi.out.size)).setCell (p := ⟨lb, 2, none⟩) hlbb.out (.int .i64 u.id))
          rw [listL_set _ _ _ i hiV] at hS8
          have hS9 : Hid (OwnN' (W0.setCell ⟨lb, 2, none⟩ (.int .i64 u.id)) w3.heap.size (.slice (some ⟨R, 0, none⟩) N1 cap) (listL (mF G) (keysV G.vs) (fun t => if t < i then (gp (mF G) ((keysV G.vs).getD t 0)).edge else if t = i then curE (mF G) G.es v gb else -1)) vs) := by
            show OwnN' _ _ _ _ _
            rw [listL_ext (mF G) (keysV G.vs) (h := fun j => if j = i then u.id else (if j < i then (gp (mF G) ((keysV G.vs).getD j 0)).edge else if j = i then curE (mF G) G.es v (gb + 1) else -1)) (fun t _ => by
              by_cases h1 : t = i
              · subst h1; simp [hcur.out]
              · simp [h1])]
            exact hS8.out
          clear hO hW0 k7 hS8
          go_wp2_with fail
          go_roundg gb
          case measure => omega
          case rel => exact ⟨vs, hgl.out, rfl, hS9.out, hB8.out⟩
        | false =>
          have hcur : Hid (curE (mF G) G.es v gb = curE (mF G) G.es v (gb + 1)) := by show _ = _; rw [hcs, if_neg (by rw [hcd]; simp)]
          clear hcs hdlo hdhi
          go_upto_region 26 with (fail)
          refine q_region (fun W => Below wi.heap.size wi W) (by kernel_rfl) (by kernel_rfl) (kW6.out.drew) ?_
          repeat (first | (refine q_skip (by rfl) ?_; try simp only [Act.put, zT, z0, zS]) | (refine q_take (v := ?_) (by rfl) ?_ ?_; rotate_left; (first | ((intro w h; clear h; go_simp) <;> with_reducible rfl) | ((intro w h; obtain ⟨⟨y0, y1, y2⟩, ⟨z0, z1, z2, z3, z4, z5⟩, x0, x1, x2⟩ := fU.out w h; obtain ⟨p0, p1⟩ := fP.out w h; clear h; go_simp) <;> with_reducible rfl)); try simp only [Act.put, zT, z0, zS]))
          refine q_call (v := _) Try.f20 (by rfl) rfl Try.func20 (by kernel_rfl) (by kernel_rfl) #[.agg #[.slice (some ⟨vb, vo, none⟩) N1 a2, .slice (some ⟨eb, eo, none⟩) N2 b2, .slice c1 N3 c2], .int .i64 ov] (by simp [Act.eval]) (fun w h => (hPl.out w h).mono fun e w' ⟨he, hb⟩ => ⟨he, h.trans (hb.mono h.size)⟩) ?_; try simp only [Act.put, zT, z0, zS]
          repeat (first | (refine q_skip (by rfl) ?_; try simp only [Act.put, zT, z0, zS]) | (refine q_take (v := ?_) (by rfl) ?_ ?_; rotate_left; (first | ((intro w h; clear h; go_simp) <;> with_reducible rfl) | ((intro w h; obtain ⟨⟨y0, y1, y2⟩, ⟨z0, z1, z2, z3, z4, z5⟩, x0, x1, x2⟩ := fU.out w h; obtain ⟨p0, p1⟩ := fP.out w h; clear h; go_simp) <;> with_reducible rfl)); try simp only [Act.put, zT, z0, zS]))
          refine q_nil ?_
          intro w7 k7
          have hS7 := Lib.hid (hSi.out.below k7)
          have hB7 := Lib.hid (hBi.out.trans (k7.mono hBi.out.size))
          rw [← hcur.out] at hS7
          clear k7 m2
          go_wp2_with fail
          go_roundg gb
          case measure => omega
          case rel => exact ⟨vs, hgl.out, rfl, hS7.out, hB7.out⟩
      · have hcur : Hid (curE (mF G) G.es v gb = curE (mF G) G.es v (gb + 1)) := by show _ = _; rw [hcs, if_neg (by rw [show decide (u.src = v ∨ u.dst = v) = false from decide_eq_false hat]; simp)]
        rw [other_no hat]
        clear hcs hat hum
        go_upto_region 26 with (fail)
        refine q_region (fun W => Below wi.heap.size wi W) (by kernel_rfl) (by kernel_rfl) (kW6.out.drew) ?_
        repeat (first | (refine q_skip (by rfl) ?_; try simp only [Act.put, zT, z0, zS]) | (refine q_take (v := ?_) (by rfl) ?_ ?_; rotate_left; (first | ((intro w h; clear h; go_simp) <;> with_reducible rfl)); try simp only [Act.put, zT, z0, zS]))
        refine q_nil ?_
        intro w7 k7
        have hS7 := Lib.hid (hSi.out.below k7)
        have hB7 := Lib.hid (hBi.out.trans (k7.mono hBi.out.size))
        rw [← hcur.out] at hS7
        clear k7
        go_wp2_with fail
        go_roundg gb
        case measure => omega
        case rel => exact ⟨vs, hgl.out, rfl, hS7.out, hB7.out⟩

end Go.Proofs.Ytlnbobclbaieoaa
/- Contracts and facts. -/
set_option linter.unusedSimpArgs false
set_option maxRecDepth 100000
set_option maxHeartbeats 4000000
namespace Go.Proofs.Ytlnbobclbaieoaa
open Go.RowKit

theorem lab0_take (m : PM) (V : List Int) (i : Nat) (hi : i < V.length) : lab0 m (V.take (i + 1)) = lab0 m (V.take i) ++ [(V[i], [(gp m V[i]).root, (gp m V[i]).depth, -1])] := by
  unfold lab0
  rw [List.take_succ_eq_append_getElem hi, List.map_append]; rfl
set_option maxRecDepth 1000000 in
set_option maxHeartbeats 16000000 in
theorem labelsR_1 (q0 q2 q3 q5 q6 q7 q8 q9 q10 q11 q12 q13 q14 q15 q16 q17 q18 q19 q20 q21 q22 q23 q24 q25 q26 q27 q28 q29 q30 q31 q32 q33 q34 q35 q36 q37 q38 q39 q40 q41 q42 q43 q44 q45 q46 q47 q48 q49 q50 q51 q52 q53 q54 q55 q56 q57 q58 q59 q60 q61 q62 q63 q64 q65 q66 q67 q68 q69 q70 q71 q72 q73 q74 q75 q76 q77 q78 q79 q80 q81 q82 q83 q84 q85 q86 q87 q88 q89 q90 q91 q92 q93 q94 q95 q96 q97 q98 q99 q100 q101 q102 q103 q104 q105 q106 q107 q108 q109 q110 q111 q112 q113 q114 q115 q116 q117 q118 q119 q120 q121 q122 q123 q124 q125 q126 q127 : Value) (w w3 wA : World) (G : Gr) (bg vb vo N1 a2 N2 b2 N3 c2 : Nat) (b1 c1 : Option Addr)
    (hL : Hid (LB w3 G bg vb vo N1 a2 N2 b2 N3 c2 b1 c1)) (hB : Hid (Below w3.heap.size w3 wA)) (hBB : Hid (Below w.heap.size w w3)) :
    Code.wp Try.prog (sfxL 3) (bodyPost Try.prog Try.f22 (LabQ w (labF (mF G) (keysV G.vs)) 0)) ⟨(q0 :: .pointer (some ⟨bg, 0, none⟩) :: q2 :: q3 :: .slice none 0 0 :: q5 :: q6 :: q7 :: q8 :: q9 :: q10 :: q11 :: q12 :: q13 :: q14 :: q15 :: q16 :: q17 :: q18 :: q19 :: q20 :: q21 :: q22 :: q23 :: q24 :: q25 :: q26 :: q27 :: q28 :: q29 :: q30 :: q31 :: q32 :: q33 :: q34 :: q35 :: q36 :: q37 :: q38 :: q39 :: q40 :: q41 :: q42 :: q43 :: q44 :: q45 :: q46 :: q47 :: q48 :: q49 :: q50 :: q51 :: q52 :: q53 :: q54 :: q55 :: q56 :: q57 :: q58 :: q59 :: q60 :: q61 :: q62 :: q63 :: q64 :: q65 :: q66 :: q67 :: q68 :: q69 :: q70 :: q71 :: q72 :: q73 :: q74 :: q75 :: q76 :: q77 :: q78 :: q79 :: q80 :: q81 :: q82 :: q83 :: q84 :: q85 :: q86 :: q87 :: q88 :: q89 :: q90 :: q91 :: q92 :: q93 :: q94 :: q95 :: q96 :: q97 :: q98 :: q99 :: q100 :: q101 :: q102 :: q103 :: q104 :: q105 :: q106 :: q107 :: q108 :: q109 :: q110 :: q111 :: q112 :: q113 :: q114 :: q115 :: q116 :: q117 :: q118 :: q119 :: q120 :: q121 :: q122 :: q123 :: q124 :: q125 :: q126 :: q127 :: []).toArray, []⟩ wA := by
  conv => arg 2; whnf
  have n1 : N1 ≤ 24 := hL.out.n1'
  have hVl : Hid ((keysV G.vs).length = N1) := by show _ = _; rw [hL.out.n1]; simp [keysV]
  go_wp2_with fail
  go_loopg [4, 5] N1 (fun gq lv iv wr => ∃ i : Nat, i + gq = N1 ∧ iv = .int .i64 i ∧ OwnN wr w3.heap.size lv (lab0 (mF G) ((keysV G.vs).take i)) ∧ Below w3.heap.size w3 wr)
  case atStart => exact ⟨0, by omega, rfl, OwnN.nil _ _, hB.out⟩
  case round =>
  obtain ⟨i, hi, rfl, hS, hBk⟩ := hrel
  obtain ⟨wo, rfl⟩ : ∃ x, x = wr := ⟨_, rfl⟩
  clear hB
  obtain ⟨g0, g1, g2⟩ := hL.out.fb wo hBk
  cases gk with
  | zero =>
    rename_i Ka hKa J1 Kb hJ1 hJ2
    have hK1 := Lib.hid hKa
    clear hKa
    have hi2 : i = N1 := by omega
    have i1 : ¬ (i : Int) < (N1 : Int) := by omega
    rw [List.take_of_length_le (by rw [hVl.out, hi2]; exact Nat.le_refl _)] at hS
    obtain ⟨vs, hv⟩ := hS
    have hlen : (lab0 (mF G) (keysV G.vs)).length = N1 := by unfold lab0; rw [List.length_map]; exact hVl.out
    rcases hv.row.2 with ⟨_, h1⟩ | ⟨R, cap, cur, h0, _⟩
    · rw [hlen] at h1; have := hL.out.n0; omega
    · rw [hlen] at h0
      subst h0
      have hv2 := Lib.hid hv
      have hBo := Lib.hid hBk
      clear hv hi hi2 hBk hlen
      go_wp2_with fail
      refine hK1.out _ _ ?_
      refine wp_eq (D := sfxL 4) (by kernel_rfl) ?_
      exact labelsR_2 _ _ _ _ _ _ _ _ _ _ _ _ _ _ _ _ _ _ _ _ _ _ _ _ _ _ _ _ _ _ _ _ _ _ _ _ _ _ _ _ _ _ _ _ _ _ _ _ _ _ _ _ _ _ _ _ _ _ _ _ _ _ _ _ _ _ _ _ _ _ _ _ _ _ _ _ _ _ _ _ _ _ _ _ _ _ _ _ _ _ _ _ _ _ _ _ _ _ _ _ _ _ _ _ _ _ _ _ _ _ _ _ _ _ _ _ _ _ _ _ _ _ _ _ _ _ w w3 _ G R cap vs bg vb vo N1 a2 N2 b2 N3 c2 b1 c1 hL hBo hBB hv2
  | succ ga =>
    have hiN : i < N1 := by omega
    have hiV : i < (keysV G.vs).length := by rw [hVl.out]; exact hiN
    have hiG : i < G.vs.length := by rw [← hL.out.n1]; exact hiN
    have i0 : (0 : Int) ≤ (i : Int) := by omega
    have i1 : (i : Int) < (N1 : Int) := by omega
    have hle : Hid (i + 1 + ga = N1) := by show _ = _; omega
    have gv := hL.out.fv i hiG wo hBk
    have hvm : (keysV G.vs)[i] ∈ keysV G.vs := List.getElem_mem hiV
    have hst := lab0_take (mF G) (keysV G.vs) i hiV
    have hvv : (keysV G.vs)[i] = G.vs[i].id := by simp [keysV]
    have hiv2 : Hid ((keysV G.vs)[i]? = some G.vs[i].id) := by show _ = _; rw [List.getElem?_eq_getElem hiV, hvv]
    rw [hvv] at hvm hst
    generalize G.vs[i].id = v at *
    have hpart := Part_any _ G v wo (hL.out.fG wo hBk) hL.out.ok hvm
    have hrf := root_first hL.out.ok hvm
    rw [hVl.out] at hpart hrf
    generalize hSS : ballF G.es v N1 = S at *
    obtain ⟨hrm, hrd, hrr⟩ := root_ok hL.out.ok hvm
    have hlo := (good_of hL.out.ok).2.1.lo v
    have hhi := (good_of hL.out.ok).2.1.hi v hvm
    have hV24 := (good_of hL.out.ok).2.2.1
    obtain ⟨D, hD⟩ : ∃ D : Nat, (gp (mF G) v).depth = (D : Int) := ⟨_, (Int.toNat_of_nonneg hlo).symm⟩
    have hball := Lib.hid (fun d => (show ballF G.es (gp (mF G) v).root d v = decide (D ≤ d) from by
      rw [Bool.eq_iff_iff, ball_iff hL.out.ok hrm hvm hrd, decide_eq_true_iff, hD]
      constructor
      · intro h; omega
      · intro h; exact ⟨rfl, by omega⟩))
    rw [hD] at hst
    have hD24 : D ≤ 24 := by omega
    have hsp := Lib.hid (fun W (qq : Below w3.heap.size w3 W) d (hd : d ≤ 24) => Spread_any _ G (gp (mF G) v).root d W (hL.out.fG W qq) hL.out.ok hrm (by omega))
    have hr0 : Hid (firstF S (keysV G.vs) 0 = (gp (mF G) v).root) := by
      show _ = _
      unfold firstF
      rw [List.drop_zero, hrf]; rfl
    generalize hro : (gp (mF G) v).root = ro at *
    replace hst := Lib.hid hst
    have hpart := Lib.hid hpart
    have hBo := Lib.hid hBk
    have hSo := Lib.hid hS
    clear hi hiN hiV hiG hS hBk hvv hvm hrf hSS hrd hrr hlo hhi hV24 hD hro hrm
    go_upto_region 8 with (fail)
    go_wp2_with fail
    refine hpart.out.mono ?_
    rintro e w5 ⟨pv, rfl, hZ, q5⟩
    have hZl : ((keysV G.vs).map S).length = N1 := by rw [List.length_map]; exact hVl.out
    obtain ⟨pg, pc, rfl, _, _, _⟩ := hZ.form (by rw [hZl]; exact hL.out.n0)
    rw [hZl] at *
    have hB5 := Lib.hid (hBo.out.trans (q5.mono hBo.out.size))
    have hS5 := Lib.hid (hSo.out.below q5)
    have hZ5 := Lib.hid hZ
    replace hZl := Lib.hid hZl
    clear hZ q5 g0 g1 g2 gv hSo hpart
    go_wp2_with fail
    go_loopg [8, 9] N1 (fun gq rv kv wr => gq ≤ N1 ∧ rv = .int .i64 (firstF S (keysV G.vs) gq) ∧ kv = .int .i64 ((gq : Int) - 1) ∧ wr = w5)
    case atStart => exact ⟨Nat.le_refl _, by rw [← hVl.out, firstF_end], rfl, rfl⟩
    case round =>
    obtain ⟨hgk, rfl, rfl, rfl⟩ := hrel
    cases gk with
    | zero =>
      rw [hr0.out]
      clear hgk
      obtain ⟨wp, rfl⟩ : ∃ x, x = wr := ⟨_, rfl⟩
      go_wp2_with fail
      go_loopg [10] D (fun gq dv wr => ∃ d : Nat, d + gq = D ∧ dv = .int .i64 d ∧ Below wp.heap.size wp wr)
      case atStart => exact ⟨0, by omega, rfl, Below.refl _ _⟩
      case round =>
      obtain ⟨d, hd, rfl, hB6⟩ := hrel
      obtain ⟨w6, rfl⟩ : ∃ x, x = wr := ⟨_, rfl⟩
      have kB6 := Lib.hid hB6
      have hB3 := Lib.hid (hB5.out.trans (hB6.mono hB5.out.size))
      have hspd := hsp.out w6 hB3.out d (by omega)
      have hbd := hball.out d
      obtain ⟨g0, g1, g2⟩ := hL.out.fb w6 hB3.out
      have hSl : Hid (((keysV G.vs).map (ballF G.es ro d)).length = N1) := by show _ = _; rw [List.length_map]; exact hVl.out
      replace hspd := Lib.hid hspd
      cases gk with
      | zero =>
        have hdD : d = D := by omega
        have hbt : Hid (ballF G.es ro d v = true) := by show _ = _; rw [hbd, decide_eq_true_iff]; omega
        subst hdD
        clear hd hbd hB6
        go_wp2_with fail
        refine hspd.out.mono ?_
        rintro e w7 ⟨sv, rfl, hZ7, q7⟩
        obtain ⟨sg, sc, rfl, _, _, _⟩ := hZ7.form (by rw [hSl.out]; exact hL.out.n0)
        rw [hSl.out] at *
        obtain ⟨y0, _⟩ := OwnZ.at_ hZ7 i true (by rw [List.getElem?_map, hiv2.out, Option.map_some, hbt.out])
        have hB7 := Lib.hid (hB3.out.trans (q7.mono hB3.out.size))
        have hS7 := hS5.out.below (kB6.out.trans (q7.mono kB6.out.size))
        obtain ⟨vs, hvs⟩ := hS7
        obtain ⟨W1, hW1⟩ : ∃ x, x = w7.alloc (.cells #[.int .i64 ro, .int .i64 d, .int .i64 (-1)] 3) := ⟨_, rfl⟩
        have C1 : Below w7.heap.size w7 W1 := by rw [hW1]; exact (Below.refl _ w7).alloc (Nat.le_refl _) _
        have z1 : W1.heap.size = w7.heap.size + 1 := by rw [hW1]; simp
        obtain ⟨W2, hW2⟩ : ∃ x, x = W1.alloc (.cells #[.int .i64 v, .slice (some ⟨w7.heap.size, 0, none⟩) 3 3] 54) := ⟨_, rfl⟩
        have C2 : Below W1.heap.size W1 W2 := by rw [hW2]; exact (Below.refl _ W1).alloc (Nat.le_refl _) _
        have hq : W2.heap[W1.heap.size]? = some (.cells #[.int .i64 v, .slice (some ⟨w7.heap.size, 0, none⟩) 3 3] 54 (0, 0)) := by rw [hW2]; exact heap_alloc_new W1 _
        have C3 := C1.trans (C2.mono (by omega))
        have h3o : OwnI W2 w3.heap.size (.slice (some ⟨w7.heap.size, 0, none⟩) 3 3) [ro, (d : Int), -1] := by
          have h := three_own w7 ro d (-1)
          rw [← hW1] at h
          exact own_low (own_below h C2) hB7.out.size
        obtain ⟨v', w', hr, ho2, gg⟩ := snocNG W2 w3.heap.size W1.heap.size _ (lab0 (mF G) ((keysV G.vs).take i)) (v, [ro, (d : Int), -1]) (some ⟨w7.heap.size, 0, none⟩) 3 vs hq (hvs.below C3) h3o (fun b hb j u hu e => by
          have e1 : w7.heap.size = b := by simpa [Value.ownBlock] using hb
          have := hvs.lt j u hu b e
          omega) (by unfold lab0; rw [List.length_map, List.length_take]; omega) (by have := hB7.out.size; have := C3.size; omega)
        have hb3 := Lib.hid ((hB7.out.trans (C3.mono hB7.out.size)).grown gg (by have := hB7.out.size; have := C3.size; omega) (fun b hb => (own_row (hvs.below C3).row b hb).1))
        replace ho2 := Lib.hid ho2
        rw [show W1.heap.size = w7.heap.size + 1 from z1, hW2, hW1] at hr
        rw [← hst.out] at ho2
        clear hvs C1 C2 C3 hq h3o gg hZ7 q7 g0 g1 g2 z1 hW1 hW2
        go_wp2_with (at_builtin; refine wpList_append_runB rfl (.tmp 60) (.tmp 66) 46 rfl u4 (.slice (some ⟨w7.heap.size + 1, 0, none⟩) 1 1) rfl rfl _ _ hr ?_)
        go_roundg ga
        case measure => omega
        case rel => exact ⟨i + 1, hle.out, by go_num, ho2.out, hb3.out⟩
      | succ gc =>
        have hbt : Hid (ballF G.es ro d v = false) := by show _ = _; rw [hbd, decide_eq_false_iff_not]; omega
        have hle3 : Hid (d + 1 + gc = D) := by show _ = _; omega
        have hd24 : d ≤ 24 := by omega
        clear hd hbd hB6
        go_wp2_with fail
        refine hspd.out.mono ?_
        rintro e w7 ⟨sv, rfl, hZ7, q7⟩
        obtain ⟨sg, sc, rfl, _, _, _⟩ := hZ7.form (by rw [hSl.out]; exact hL.out.n0)
        rw [hSl.out] at *
        obtain ⟨y0, _⟩ := OwnZ.at_ hZ7 i false (by rw [List.getElem?_map, hiv2.out, Option.map_some, hbt.out])
        have hB7 := Lib.hid (kB6.out.trans (q7.mono kB6.out.size))
        clear hZ7 q7 g0 g1 g2
        go_wp2_with fail
        go_roundg gc
        case measure => omega
        case rel => exact ⟨d + 1, hle3.out, by go_num, hB7.out⟩
    | succ gb =>
      have hkv : (((gb + 1 : Nat) : Int) - 1) = (gb : Int) := by omega
      rw [hkv]
      have hgN : gb < N1 := by omega
      have hgV : gb < (keysV G.vs).length := by rw [hVl.out]; exact hgN
      have hgG : gb < G.vs.length := by rw [← hL.out.n1]; exact hgN
      have m0 : (0 : Int) ≤ (gb : Int) := by omega
      have m1 : (gb : Int) < (N1 : Int) := by omega
      have hgl : Hid (gb ≤ N1) := by show _ ≤ _; omega
      have hfs := firstF_step S (keysV G.vs) gb hgV
      obtain ⟨y0, _⟩ := OwnZ.at_ hZ5.out gb (S (keysV G.vs)[gb]) (by simp [hgV])
      have gv2 := hL.out.fv gb hgG wr hB5.out
      have hvv : (keysV G.vs)[gb] = G.vs[gb].id := by simp [keysV]
      obtain ⟨g0, g1, g2⟩ := hL.out.fb wr hB5.out
      rw [hvv] at hfs y0
      generalize G.vs[gb].id = x at *
      clear hkv hgN hgV hgG hgk hvv
      cases hx : S x with
      | true =>
        have hf2 : Hid (firstF S (keysV G.vs) gb = x) := by show _ = _; rw [hfs, if_pos hx]
        rw [hx] at y0
        clear hfs hx
        go_wp2_with fail
        go_roundg gb
        case measure => omega
        case rel => exact ⟨hgl.out, by rw [hf2.out], rfl, rfl⟩
      | false =>
        have hf2 : Hid (firstF S (keysV G.vs) gb = firstF S (keysV G.vs) (gb + 1)) := by show _ = _; rw [hfs, if_neg (by rw [hx]; simp)]
        rw [hx] at y0
        clear hfs hx
        go_wp2_with fail
        go_roundg gb
        case measure => omega
        case rel => exact ⟨hgl.out, by rw [hf2.out], rfl, rfl⟩

end Go.Proofs.Ytlnbobclbaieoaa
