/- Contracts and facts. -/
import Derived.Deep.LoopGhost
import Derived.Handy
import Derived.WalkMore
import Derived.BigRegion
import Derived.Laws.EntriesVeiled
import Derived.Test.YthmkmjkbfjhffaaVHE
set_option linter.unusedSimpArgs false
set_option maxRecDepth 100000
set_option maxHeartbeats 4000000
namespace Go.Proofs.Ythmkmjkbfjhffaa
open Go.RowKit
abbrev mF (g : Gr) : PM := growF g.es (keysV g.vs)
theorem holds_of {g : Gr} {a b : Int} (ho : g.ok = true) (ha : a ∈ keysV g.vs) (hb : b ∈ keysV g.vs) : holdsF g [a, b] = true := by
  unfold holdsF missP
  simp [ho]
  unfold keysV at ha hb
  simp at ha hb
  exact ⟨ha, hb⟩
theorem holds_of1 {g : Gr} {a : Int} (ho : g.ok = true) (ha : a ∈ keysV g.vs) : holdsF g [a] = true := by
  unfold holdsF missP
  simp [ho]
  unfold keysV at ha
  simp at ha
  exact ha
theorem conn_of {g : Gr} {a b : Int} (ho : g.ok = true) (ha : a ∈ keysV g.vs) (hb : b ∈ keysV g.vs) : connF g a b = (decide ((gp (mF g) a).root = (gp (mF g) b).root), 0) := by
  unfold connF; rw [if_pos (holds_of ho ha hb)]
theorem path_yes {g : Gr} {a b : Int} (ho : g.ok = true) (ha : a ∈ keysV g.vs) (hb : b ∈ keysV g.vs) (h : (gp (mF g) a).root = (gp (mF g) b).root) : pathC g a b = (pathF g.es (mF g) a b, 0) := by
  unfold pathC; rw [conn_of ho ha hb, if_pos (by simpa using h)]
theorem path_no {g : Gr} {a b : Int} (ho : g.ok = true) (ha : a ∈ keysV g.vs) (hb : b ∈ keysV g.vs) (h : ¬ (gp (mF g) a).root = (gp (mF g) b).root) : pathC g a b = ([], 70) := by
  unfold pathC; rw [conn_of ho ha hb, if_neg (by simpa using h)]
theorem side_of {g : Gr} {a : Int} (ho : g.ok = true) (ha : a ∈ keysV g.vs) : sideC g a = (sideF (mF g) (keysV g.vs) a, 0) := by
  unfold sideC; rw [if_pos (holds_of1 ho ha)]
theorem good_of {g : Gr} (ho : g.ok = true) : GrOk g.es (keysV g.vs) ∧ Gd g.es (keysV g.vs) (mF g) ∧ (keysV g.vs).length ≤ 24 ∧ (∀ (v : Int), v ∈ keysV g.vs → ∀ (e : Ed), e ∈ atF g.es v → (gp (mF g) (otherI e v)).root = (gp (mF g) v).root) ∧ List.Pairwise (fun x1 x2 => x1 < x2) (keysV g.vs) := by
  obtain ⟨h1, h2⟩ := ok_facts ho
  have h3 : (keysV g.vs).length ≤ 24 := by rw [keysV, List.length_map]; exact h1.1
  obtain ⟨h4, h5⟩ := grow_good h2 h3
  exact ⟨h2, h4, h3, h5, ((ok_iff g).1 ho).vasc⟩
theorem ckp_yes {g : Gr} {a b : Int} (ho : g.ok = true) (ha : a ∈ keysV g.vs) (hb : b ∈ keysV g.vs) (h : (gp (mF g) a).root = (gp (mF g) b).root) : ckPathC g a b (pathF g.es (mF g) a b) = true := by
  obtain ⟨h1, h2, h3, h4, h5⟩ := good_of ho
  have := path_ok h1 h2 h3 ha hb h
  unfold ckPath at this
  simp only [Bool.and_eq_true] at this
  unfold ckPathC
  rw [holds_of ho ha hb]
  simp only [Bool.true_and, Bool.and_eq_true]
  exact ⟨this.1.1.1, this.2⟩
theorem ckp_no {g : Gr} {a b : Int} (ho : g.ok = true) (ha : a ∈ keysV g.vs) (hb : b ∈ keysV g.vs) (h : ¬ (gp (mF g) a).root = (gp (mF g) b).root) (l : List Int) : ckPathC g a b l = false := by
  obtain ⟨h1, h2, h3, h4, h5⟩ := good_of ho
  rw [Bool.eq_false_iff]
  intro hc
  unfold ckPathC at hc
  simp only [Bool.and_eq_true] at hc
  refine h (path_not h1 h4 (l := l) ?_)
  unfold ckPath
  simp only [Bool.and_eq_true]
  exact ⟨⟨⟨hc.1, by simpa using ha⟩, by simpa using hb⟩, hc.2.2⟩
theorem cks_to {g : Gr} {a b : Int} {s : List Int} (h : ckSideC g a b s = true) : ckSide g.es (keysV g.vs) a b s = true := by
  unfold ckSideC at h
  simp only [Bool.and_eq_true] at h
  obtain ⟨h1, h2, h3, h4, h5, h6⟩ := h
  unfold ckSide
  simp only [Bool.and_eq_true]
  obtain ⟨_, k2, k3⟩ := holds_two h1
  refine ⟨⟨⟨⟨⟨⟨by simpa using k2, by simpa using k3⟩, ?_⟩, h3⟩, h4⟩, h5⟩, h6⟩
  rw [List.all_eq_true]
  intro x hx
  unfold holdsF at h2
  simp only [Bool.and_eq_true, Bool.not_eq_true', List.any_eq_false] at h2
  have := h2.2 x hx
  unfold missP at this
  simp at this
  simp [keysV]
  exact this
theorem cks_from {g : Gr} {a b : Int} {s : List Int} (ho : g.ok = true) (h : ckSide g.es (keysV g.vs) a b s = true) : ckSideC g a b s = true := by
  unfold ckSide at h
  simp only [Bool.and_eq_true] at h
  obtain ⟨⟨⟨⟨⟨⟨k2, k3⟩, h2⟩, h3⟩, h4⟩, h5⟩, h6⟩ := h
  unfold ckSideC
  simp only [Bool.and_eq_true]
  refine ⟨holds_of ho (by simpa using k2) (by simpa using k3), ?_, h3, h4, h5, h6⟩
  unfold holdsF
  simp only [Bool.and_eq_true, Bool.not_eq_true', List.any_eq_false]
  refine ⟨ho, fun x hx => ?_⟩
  rw [List.all_eq_true] at h2
  have := h2 x hx
  simp [keysV] at this
  unfold missP
  simp
  exact this
theorem cks_side {g : Gr} {a b : Int} (ho : g.ok = true) (ha : a ∈ keysV g.vs) (hb : b ∈ keysV g.vs) : ckSideC g a b (sideF (mF g) (keysV g.vs) a) = !decide ((gp (mF g) a).root = (gp (mF g) b).root) := by
  obtain ⟨h1, h2, h3, h4, h5⟩ := good_of ho
  have := side_iff h1 h4 h5 ha hb
  rw [← this, Bool.eq_iff_iff]
  exact ⟨cks_to, cks_from ho⟩
theorem cks_no {g : Gr} {a b : Int} (ho : g.ok = true) (ha : a ∈ keysV g.vs) (hb : b ∈ keysV g.vs) (h : (gp (mF g) a).root = (gp (mF g) b).root) (s : List Int) : ckSideC g a b s = false := by
  obtain ⟨h1, h2, h3, h4, h5⟩ := good_of ho
  rw [Bool.eq_false_iff]
  intro hc
  have h6 := side_not h1 h2 (side := s) ha hb h
  rw [cks_to hc] at h6; cases h6
theorem pick_at (l : List Vx) (c : Int) (h0 : l ≠ []) : ∃ (k : Nat) (hk : k < l.length), pk c l.length = (k : Int) ∧ l[k].id ∈ keysV l := by
  have hl : 0 < l.length := List.length_pos_iff.2 h0
  obtain ⟨k, h1, h2⟩ := pk_nat c l.length hl
  exact ⟨k, h2, h1, List.mem_map.2 ⟨_, List.getElem_mem h2, rfl⟩⟩
theorem made_ne (n : Int) (l : List F5) (wide : Bool) : (madeG n l wide).vs ≠ [] := by
  intro h
  have h1 : (madeV n wide).length = 0 := by
    have : madeV n wide = [] := h
    rw [this]; rfl
  unfold madeV at h1
  rw [List.length_map, List.length_range] at h1
  unfold mkN at h1
  have := pk_lo n 8 (by omega)
  split at h1 <;> omega

end Go.Proofs.Ythmkmjkbfjhffaa
/- Contracts and facts. -/
set_option linter.unusedSimpArgs false
set_option maxRecDepth 100000
set_option maxHeartbeats 4000000
namespace Go.Proofs.Ythmkmjkbfjhffaa
open Go.RowKit

theorem L5.below {W W' : World} {v : Value} {l : List F5} (h : L5 W v l) (B : Below W.heap.size W W') : L5 W' v l := by
  rcases h with h | ⟨h1, b, o, c, h2, h3, h4, h5⟩
  · exact .inl h
  · exact .inr ⟨h1, b, o, c, h2, h3, Nat.lt_of_lt_of_le h4 B.size, fun j r hj i u hu => by rw [B.cell (p := ⟨b, o + j * 5 + i, none⟩) h4]; exact h5 j r hj i u hu⟩
/-- the graph's box of a law, and what is read through it -/
structure LB (w3 : World) (G : Gr) (bg vb vo N1 a2 N2 b2 N3 c2 : Nat) (b1 c1 : Option Addr) : Prop where
  fG : ∀ W, Below w3.heap.size w3 W → GV W (.agg #[.slice (some ⟨vb, vo, none⟩) N1 a2, .slice b1 N2 b2, .slice c1 N3 c2]) G
  fb : ∀ W, Below w3.heap.size w3 W → W.cell? ⟨bg, 0, none⟩ = some (.slice (some ⟨vb, vo, none⟩) N1 a2) ∧ W.cell? ⟨bg, 1, none⟩ = some (.slice b1 N2 b2) ∧ W.cell? ⟨bg, 2, none⟩ = some (.slice c1 N3 c2)
  fv : ∀ (k : Nat) (hk : k < G.vs.length) W, Below w3.heap.size w3 W → W.cell? ⟨vb, vo + k * 2, none⟩ = some (.int .i64 G.vs[k].id)
  fe : EL w3 (.slice b1 N2 b2) G.es
  n1 : N1 = G.vs.length
  n2 : N2 = G.es.length
  n1' : N1 ≤ 24
  n2' : N2 ≤ 1000
  n0 : 0 < N1
  ok : G.ok = true
  sm : G.small
noncomputable def sfxP (n : Nat) : Code := dropC n (Try.f4.body.getD .skip)
set_option maxRecDepth 1000000 in
set_option maxHeartbeats 8000000 in
theorem proofs_end (q0 q1 q2 q3 q4 q5 q6 q7 q8 q9 q10 q11 q12 q13 q14 q19 q20 q21 q22 q23 q25 q27 q28 q29 q30 q31 q32 q33 q34 q35 q36 q37 q38 q39 q40 q41 q42 q43 q44 q45 q46 q47 q48 q49 q50 q51 q52 q53 q54 q55 q56 q57 q58 q59 q60 q61 q62 q63 q64 q65 q66 q67 q68 q69 q70 q71 q72 q73 q74 q75 q76 q77 q78 q79 q80 q81 q82 q83 q84 q85 q86 q87 q88 q89 q90 q91 q92 q93 q94 q95 q96 q97 q98 q99 q100 q101 q102 q103 q104 q105 q106 q107 q108 q109 q110 q111 q112 q113 q114 q115 q116 q117 q118 q119 q120 q121 q122 q123 q124 q125 q126 q127 q128 q129 q130 q131 q132 q133 q134 q135 q136 q137 q138 q139 q140 q141 q142 q143 q144 q145 q146 q147 q148 q149 q150 q151 q152 q153 q154 q155 q156 q157 q158 q159 q160 q161 q162 q163 q164 q165 q166 q167 q168 q169 q170 q171 q172 q173 q174 q175 q176 q177 q178 q179 q180 q181 ov tv : Value) (w w3 wA : World) (B : Bool) (G : Gr) (p q : Int) (lt lo : List Int) (bg vb vo N1 a2 N2 b2 N3 c2 : Nat) (b1 c1 : Option Addr)
    (hL : Hid (LB w3 G bg vb vo N1 a2 N2 b2 N3 c2 b1 c1)) (hB : Hid (Below w3.heap.size w3 wA)) (hBB : Hid (Below w.heap.size w w3))
    (hT : Hid (DL wA tv lt)) (hO : Hid (DL wA ov lo)) (hlt : Hid (lt.length ≤ 1000)) (hlo : Hid (lo.length ≤ 1000))
    (h1 : Hid (B = false → ∀ l, ckPathC G p q l = false)) (h2 : Hid (B = true → ∀ l, ckSideC G p q l = false)) :
    Code.wp Try.prog (sfxP 14) (bodyPost Try.prog Try.f4 fun e w' => e = .returned (.bool true) ∧ Below w.heap.size w w') ⟨(q0 :: q1 :: q2 :: q3 :: q4 :: q5 :: q6 :: q7 :: q8 :: q9 :: q10 :: q11 :: q12 :: q13 :: q14 :: .pointer (some ⟨bg, 0, none⟩) :: .int .i64 p :: .int .i64 q :: .bool B :: q19 :: q20 :: q21 :: q22 :: q23 :: ov :: q25 :: tv :: q27 :: q28 :: q29 :: q30 :: q31 :: q32 :: q33 :: q34 :: q35 :: q36 :: q37 :: q38 :: q39 :: q40 :: q41 :: q42 :: q43 :: q44 :: q45 :: q46 :: q47 :: q48 :: q49 :: q50 :: q51 :: q52 :: q53 :: q54 :: q55 :: q56 :: q57 :: q58 :: q59 :: q60 :: q61 :: q62 :: q63 :: q64 :: q65 :: q66 :: q67 :: q68 :: q69 :: q70 :: q71 :: q72 :: q73 :: q74 :: q75 :: q76 :: q77 :: q78 :: q79 :: q80 :: q81 :: q82 :: q83 :: q84 :: q85 :: q86 :: q87 :: q88 :: q89 :: q90 :: q91 :: q92 :: q93 :: q94 :: q95 :: q96 :: q97 :: q98 :: q99 :: q100 :: q101 :: q102 :: q103 :: q104 :: q105 :: q106 :: q107 :: q108 :: q109 :: q110 :: q111 :: q112 :: q113 :: q114 :: q115 :: q116 :: q117 :: q118 :: q119 :: q120 :: q121 :: q122 :: q123 :: q124 :: q125 :: q126 :: q127 :: q128 :: q129 :: q130 :: q131 :: q132 :: q133 :: q134 :: q135 :: q136 :: q137 :: q138 :: q139 :: q140 :: q141 :: q142 :: q143 :: q144 :: q145 :: q146 :: q147 :: q148 :: q149 :: q150 :: q151 :: q152 :: q153 :: q154 :: q155 :: q156 :: q157 :: q158 :: q159 :: q160 :: q161 :: q162 :: q163 :: q164 :: q165 :: q166 :: q167 :: q168 :: q169 :: q170 :: q171 :: q172 :: q173 :: q174 :: q175 :: q176 :: q177 :: q178 :: q179 :: q180 :: q181 :: []).toArray, []⟩ wA := by
  conv => arg 2; whnf
  obtain ⟨g0, g1, g2⟩ := hL.out.fb wA hB.out
  cases B with
  | true =>
    have k := CheckSide_any _ G p q ov lo wA (hL.out.fG wA hB.out) hL.out.sm hO.out (by have := hlo.out; omega) (by have := hL.out.n2'; have := hL.out.n2; omega)
    rw [h2.out rfl lo] at k
    replace k := Lib.hid k
    go_wp2_with fail
    refine k.out.mono ?_
    rintro e w4 ⟨rfl, qq⟩
    have qq := Lib.hid qq
    clear g0 g1 g2
    go_wp2_with fail
    go_ret
    exact ⟨rfl, hBB.out.trans ((hB.out.trans (qq.out.mono hB.out.size)).mono hBB.out.size)⟩
  | false =>
    have k := CheckPath_any _ G p q tv lt wA (hL.out.fG wA hB.out) hL.out.sm hT.out (by have := hlt.out; omega) (by have := hL.out.n2'; have := hL.out.n2; omega)
    rw [h1.out rfl lt] at k
    replace k := Lib.hid k
    go_wp2_with fail
    refine k.out.mono ?_
    rintro e w4 ⟨rfl, qq⟩
    have qq := Lib.hid qq
    clear g0 g1 g2
    go_wp2_with fail
    go_ret
    exact ⟨rfl, hBB.out.trans ((hB.out.trans (qq.out.mono hB.out.size)).mono hBB.out.size)⟩

set_option maxRecDepth 1000000 in
set_option maxHeartbeats 16000000 in
theorem proofs_loops (q0 q1 q2 q3 q4 q7 q8 q9 q10 q11 q12 q13 q14 q19 q20 q21 q22 q23 q24 q25 q26 q27 q28 q29 q30 q31 q32 q33 q34 q35 q36 q37 q38 q39 q40 q41 q42 q43 q44 q45 q46 q47 q48 q49 q50 q51 q52 q53 q54 q55 q56 q57 q58 q59 q60 q61 q62 q63 q64 q65 q66 q67 q68 q69 q70 q71 q72 q73 q74 q75 q76 q77 q78 q79 q80 q81 q82 q83 q84 q85 q86 q87 q88 q89 q90 q91 q92 q93 q94 q95 q96 q97 q98 q99 q100 q101 q102 q103 q104 q105 q106 q107 q108 q109 q110 q111 q112 q113 q114 q115 q116 q117 q118 q119 q120 q121 q122 q123 q124 q125 q126 q127 q128 q129 q130 q131 q132 q133 q134 q135 q136 q137 q138 q139 q140 q141 q142 q143 q144 q145 q146 q147 q148 q149 q150 q151 q152 q153 q154 q155 q156 q157 q158 q159 q160 q161 q162 q163 q164 q165 q166 q167 q168 q169 q170 q171 q172 q173 q174 q175 q176 q177 q178 q179 q180 q181 : Value) (w w3 wA : World) (B : Bool) (G : Gr) (p q st : Int) (ps : List Int) (p1 : Option Addr) (X p2 : Nat) (bg vb vo N1 a2 N2 b2 N3 c2 : Nat) (b1 c1 : Option Addr)
    (hL : Hid (LB w3 G bg vb vo N1 a2 N2 b2 N3 c2 b1 c1)) (hB : Hid (Below w3.heap.size w3 wA)) (hBB : Hid (Below w.heap.size w w3)) (hX : Hid (X = ps.length)) (hXl : X ≤ 9223372036854775807) (hps : Hid (DL w (.slice p1 X p2) ps)) (hpi : Hid (∀ x ∈ ps, i64B x)) (hst : i64B st)
    (h1 : Hid (B = false → ∀ l, ckPathC G p q l = false)) (h2 : Hid (B = true → ∀ l, ckSideC G p q l = false)) :
    Code.wp Try.prog (sfxP 10) (bodyPost Try.prog Try.f4 fun e w' => e = .returned (.bool true) ∧ Below w.heap.size w w') ⟨(q0 :: q1 :: q2 :: q3 :: q4 :: .slice p1 X p2 :: .int .i64 st :: q7 :: q8 :: q9 :: q10 :: q11 :: q12 :: q13 :: q14 :: .pointer (some ⟨bg, 0, none⟩) :: .int .i64 p :: .int .i64 q :: .bool B :: q19 :: q20 :: q21 :: q22 :: q23 :: q24 :: q25 :: q26 :: q27 :: q28 :: q29 :: q30 :: q31 :: q32 :: q33 :: q34 :: q35 :: q36 :: q37 :: q38 :: q39 :: q40 :: q41 :: q42 :: q43 :: q44 :: q45 :: q46 :: q47 :: q48 :: q49 :: q50 :: q51 :: q52 :: q53 :: q54 :: q55 :: q56 :: q57 :: q58 :: q59 :: q60 :: q61 :: q62 :: q63 :: q64 :: q65 :: q66 :: q67 :: q68 :: q69 :: q70 :: q71 :: q72 :: q73 :: q74 :: q75 :: q76 :: q77 :: q78 :: q79 :: q80 :: q81 :: q82 :: q83 :: q84 :: q85 :: q86 :: q87 :: q88 :: q89 :: q90 :: q91 :: q92 :: q93 :: q94 :: q95 :: q96 :: q97 :: q98 :: q99 :: q100 :: q101 :: q102 :: q103 :: q104 :: q105 :: q106 :: q107 :: q108 :: q109 :: q110 :: q111 :: q112 :: q113 :: q114 :: q115 :: q116 :: q117 :: q118 :: q119 :: q120 :: q121 :: q122 :: q123 :: q124 :: q125 :: q126 :: q127 :: q128 :: q129 :: q130 :: q131 :: q132 :: q133 :: q134 :: q135 :: q136 :: q137 :: q138 :: q139 :: q140 :: q141 :: q142 :: q143 :: q144 :: q145 :: q146 :: q147 :: q148 :: q149 :: q150 :: q151 :: q152 :: q153 :: q154 :: q155 :: q156 :: q157 :: q158 :: q159 :: q160 :: q161 :: q162 :: q163 :: q164 :: q165 :: q166 :: q167 :: q168 :: q169 :: q170 :: q171 :: q172 :: q173 :: q174 :: q175 :: q176 :: q177 :: q178 :: q179 :: q180 :: q181 :: []).toArray, []⟩ wA := by
  conv => arg 2; whnf
  obtain ⟨P24, hP24⟩ : ∃ z, Hid (z = pk st 16777216) := ⟨_, rfl⟩
  have hp24 := Lib.hid (fun W => pick9_any st 16777216 W hst.1 hst.2 (by omega) (by omega))
  rw [← hP24.out] at hp24
  have h240 : 0 ≤ P24 := by rw [hP24.out]; exact pk_lo _ _ (by omega)
  have h241 : P24 < 16777216 := by rw [hP24.out]; exact pk_lt _ _ (by omega)
  have fb := Lib.hid hL.out.fb
  have n1 : N1 ≤ 24 := hL.out.n1'
  have n2 : N2 ≤ 1000 := hL.out.n2'
  clear hP24 hst
  go_wp2_with fail
  go_loopg [24, 25] N1 (fun gq ov kv wr => ∃ (k : Nat) (l : List Int), k + gq = N1 ∧ kv = .int .i64 k ∧ OwnI wr w3.heap.size ov l ∧ l.length ≤ k ∧ Below w3.heap.size w3 wr)
  case atStart => exact ⟨0, [], by omega, rfl, ⟨rfl, .inl ⟨rfl, rfl⟩⟩, by simp, hB.out⟩
  case round =>
  obtain ⟨k, lo, hk, rfl, hown, hlo, hBk⟩ := hrel
  obtain ⟨wo, rfl⟩ : ∃ x, x = wr := ⟨_, rfl⟩
  obtain ⟨g0, g1, g2⟩ := fb.out wo hBk
  clear hB
  cases gk with
  | zero =>
    have hk2 : N1 = k := by omega
    have i1 : ¬ (k : Int) < (N1 : Int) := by omega
    have hO := Lib.hid (OwnI.DL hown)
    have hlo2 : Hid (lo.length ≤ 1000) := by show _ ≤ _; omega
    have hBo := Lib.hid hBk
    clear hown hlo hBk hk hk2
    go_wp2_with fail
    clear g0 g1 g2
    by_cases hN0 : N2 = 0
    · go_loopg [26, 27] 0 (fun gq tv kv wr => gq = 0 ∧ kv = .int .i64 0 ∧ tv = .slice none 0 0 ∧ Below wo.heap.size wo wr)
      case atStart => exact ⟨rfl, rfl, rfl, Below.refl _ _⟩
      case round =>
      obtain ⟨rfl, rfl, rfl, hBw⟩ := hrel
      obtain ⟨wi, rfl⟩ : ∃ x, x = wr := ⟨_, rfl⟩
      have hBi := Lib.hid (hBo.out.trans (hBw.mono hBo.out.size))
      have hO2 := Lib.hid (hO.out.below hBw)
      obtain ⟨g0, g1, g2⟩ := fb.out wi hBi.out
      rename_i Ka hKa J1 Kb hJ1 hJ2
      have hK1 := Lib.hid hKa
      clear hKa hBw hBo hO
      have m1 : ¬ (0 : Int) < (N2 : Int) := by omega
      clear hN0
      by_cases hX0 : X = 0
      · have m2 : ¬ (0 : Int) < (X : Int) := by omega
        clear hX0
        go_wp2_with fail
        refine hK1.out _ _ ?_
        refine wp_eq (D := sfxP 14) (by kernel_rfl) ?_
        exact proofs_end _ _ _ _ _ _ _ _ _ _ _ _ _ _ _ _ _ _ _ _ _ _ _ _ _ _ _ _ _ _ _ _ _ _ _ _ _ _ _ _ _ _ _ _ _ _ _ _ _ _ _ _ _ _ _ _ _ _ _ _ _ _ _ _ _ _ _ _ _ _ _ _ _ _ _ _ _ _ _ _ _ _ _ _ _ _ _ _ _ _ _ _ _ _ _ _ _ _ _ _ _ _ _ _ _ _ _ _ _ _ _ _ _ _ _ _ _ _ _ _ _ _ _ _ _ _ _ _ _ _ _ _ _ _ _ _ _ _ _ _ _ _ _ _ _ _ _ _ _ _ _ _ _ _ _ _ _ _ _ _ _ _ _ _ _ _ _ _ _ _ _ _ _ _ _ _ _ _ w w3 _ B G p q [] lo bg vb vo N1 a2 N2 b2 N3 c2 b1 c1 hL hBi hBB (Lib.hid (.inl ⟨rfl, _, _, rfl⟩)) hO2 (by show _ ≤ _; simp) hlo2 h1 h2
      · have m2 : (0 : Int) < (X : Int) := by omega
        clear hX0
        go_wp2_with fail
        refine hK1.out _ _ ?_
        refine wp_eq (D := sfxP 14) (by kernel_rfl) ?_
        exact proofs_end _ _ _ _ _ _ _ _ _ _ _ _ _ _ _ _ _ _ _ _ _ _ _ _ _ _ _ _ _ _ _ _ _ _ _ _ _ _ _ _ _ _ _ _ _ _ _ _ _ _ _ _ _ _ _ _ _ _ _ _ _ _ _ _ _ _ _ _ _ _ _ _ _ _ _ _ _ _ _ _ _ _ _ _ _ _ _ _ _ _ _ _ _ _ _ _ _ _ _ _ _ _ _ _ _ _ _ _ _ _ _ _ _ _ _ _ _ _ _ _ _ _ _ _ _ _ _ _ _ _ _ _ _ _ _ _ _ _ _ _ _ _ _ _ _ _ _ _ _ _ _ _ _ _ _ _ _ _ _ _ _ _ _ _ _ _ _ _ _ _ _ _ _ _ _ _ _ _ w w3 _ B G p q [] lo bg vb vo N1 a2 N2 b2 N3 c2 b1 c1 hL hBi hBB (Lib.hid (.inl ⟨rfl, _, _, rfl⟩)) hO2 (by show _ ≤ _; simp) hlo2 h1 h2
    · have n0 : (0 : Int) < (N2 : Int) := by omega
      have hN0' : 0 < N2 := by omega
      clear hN0
      obtain ⟨M, hM⟩ : ∃ M, M = min X 10 := ⟨_, rfl⟩
      have hM1 : M ≤ X := by omega
      have hM4 : M ≤ 10 := by omega
      have hMe : M = X ∨ M = 10 := by omega
      clear hM
      have cP := Lib.hid hps.out.cells
      have cE := Lib.hid hL.out.fe
      go_loopg [26, 27] M (fun gq tv kv wr => ∃ (i : Nat) (l : List Int), i + gq = M ∧ kv = .int .i64 i ∧ OwnI wr wo.heap.size tv l ∧ l.length ≤ i ∧ Below wo.heap.size wo wr)
      case atStart => exact ⟨0, [], by omega, rfl, ⟨rfl, .inl ⟨rfl, rfl⟩⟩, by simp, Below.refl _ _⟩
      case round =>
      obtain ⟨i, lt, hi, rfl, hown, hlt, hBw⟩ := hrel
      obtain ⟨wi, rfl⟩ : ∃ x, x = wr := ⟨_, rfl⟩
      have hBi := Lib.hid (hBo.out.trans (hBw.mono hBo.out.size))
      have hO2 := Lib.hid (hO.out.below hBw)
      obtain ⟨g0, g1, g2⟩ := fb.out wi hBi.out
      cases gk with
      | zero =>
        have hi2 : M = i := by omega
        have hT := Lib.hid (OwnI.DL hown)
        have hlt2 : Hid (lt.length ≤ 1000) := by show _ ≤ _; omega
        rename_i Ka hKa J1 Kb hJ1 hJ2
        have hK1 := Lib.hid hKa
        clear hKa hBw hBo hO hown cP cE
        by_cases hlt3 : i < X
        · have m2 : (i : Int) < (X : Int) := by omega
          have m3 : ¬ (i : Int) < 10 := by omega
          clear hlt hlt3 hi hi2 hM1 hM4 hMe
          go_wp2_with fail
          refine hK1.out _ _ ?_
          refine wp_eq (D := sfxP 14) (by kernel_rfl) ?_
          exact proofs_end _ _ _ _ _ _ _ _ _ _ _ _ _ _ _ _ _ _ _ _ _ _ _ _ _ _ _ _ _ _ _ _ _ _ _ _ _ _ _ _ _ _ _ _ _ _ _ _ _ _ _ _ _ _ _ _ _ _ _ _ _ _ _ _ _ _ _ _ _ _ _ _ _ _ _ _ _ _ _ _ _ _ _ _ _ _ _ _ _ _ _ _ _ _ _ _ _ _ _ _ _ _ _ _ _ _ _ _ _ _ _ _ _ _ _ _ _ _ _ _ _ _ _ _ _ _ _ _ _ _ _ _ _ _ _ _ _ _ _ _ _ _ _ _ _ _ _ _ _ _ _ _ _ _ _ _ _ _ _ _ _ _ _ _ _ _ _ _ _ _ _ _ _ _ _ _ _ _ w w3 _ B G p q lt lo bg vb vo N1 a2 N2 b2 N3 c2 b1 c1 hL hBi hBB hT hO2 hlt2 hlo2 h1 h2
        · have m2 : ¬ (i : Int) < (X : Int) := by omega
          clear hlt hlt3 hi hi2 hM1 hM4 hMe
          go_wp2_with fail
          refine hK1.out _ _ ?_
          refine wp_eq (D := sfxP 14) (by kernel_rfl) ?_
          exact proofs_end _ _ _ _ _ _ _ _ _ _ _ _ _ _ _ _ _ _ _ _ _ _ _ _ _ _ _ _ _ _ _ _ _ _ _ _ _ _ _ _ _ _ _ _ _ _ _ _ _ _ _ _ _ _ _ _ _ _ _ _ _ _ _ _ _ _ _ _ _ _ _ _ _ _ _ _ _ _ _ _ _ _ _ _ _ _ _ _ _ _ _ _ _ _ _ _ _ _ _ _ _ _ _ _ _ _ _ _ _ _ _ _ _ _ _ _ _ _ _ _ _ _ _ _ _ _ _ _ _ _ _ _ _ _ _ _ _ _ _ _ _ _ _ _ _ _ _ _ _ _ _ _ _ _ _ _ _ _ _ _ _ _ _ _ _ _ _ _ _ _ _ _ _ _ _ _ _ _ w w3 _ B G p q lt lo bg vb vo N1 a2 N2 b2 N3 c2 b1 c1 hL hBi hBB hT hO2 hlt2 hlo2 h1 h2
      | succ ga =>
        have hil : i < ps.length := by rw [← hX.out]; omega
        have hi9 : i ≤ 10 := by omega
        have j0 : (0 : Int) ≤ (i : Int) := by omega
        have j1 : (i : Int) < (X : Int) := by omega
        have j2 : (i : Int) < 10 := by omega
        have hle : Hid (i + 1 + ga = M) := by show _ = _; omega
        obtain ⟨pb, po, rfl, cp⟩ := cP.out i hil
        have hxi := hpi.out ps[i] (List.getElem_mem hil)
        generalize ps[i] = x at *
        obtain ⟨j, hj, hjN⟩ := pk_nat x N2 hN0'
        have hje : j < G.es.length := by rw [← hL.out.n2]; exact hjN
        obtain ⟨b1', b2'', hsh⟩ := cE.out.shape
        have hcE := (show EL w3 (.slice b1 N2 b2) G.es from cE.out).cells j hje
        obtain ⟨eb, eo, rfl, ce⟩ := hcE
        have hpj := Lib.hid (fun W => pick9_any x (N2 : Int) W hxi.1 hxi.2 (by omega) (by omega))
        rw [hj] at hpj
        have k0 : (0 : Int) ≤ (j : Int) := by omega
        have k1 : (j : Int) < (N2 : Int) := by omega
        have fW := Lib.hid (fun W (q : Below wi.heap.size wi W) => (show W.cell? ⟨bg, 1, none⟩ = some (.slice (some ⟨eb, eo, none⟩) N2 b2) ∧ W.cell? ⟨pb, po + i, none⟩ = some (.int .i64 x) ∧ W.cell? ⟨eb, eo + j * 6, none⟩ = some (.int .i64 G.es[j].id) from
          ⟨(fb.out W (hBi.out.trans (q.mono hBi.out.size))).2.1, cp W (hBB.out.trans ((hBi.out.trans (q.mono hBi.out.size)).mono hBB.out.size)), (ce W (hBi.out.trans (q.mono hBi.out.size))).1⟩))
        generalize G.es[j].id = y at *
        have hW := Lib.hid (fun W (q : Below wi.heap.size wi W) => (show OwnI W wo.heap.size u26 lt from own_below hown q))
        have hBw2 := Lib.hid hBw
        have hl9 : Hid (lt.length ≤ 10) := by show _ ≤ _; omega
        have hl10 : Hid (lt.length ≤ i) := hlt
        obtain ⟨t1, t2, ht⟩ := (OwnI.DL hown).shape
        subst ht
        clear hsh cp ce hown hlt hBw hj hjN hje hil hi hM1 hM4 hMe cP cE hxi hO2 g2
        go_upto_region 23 with (fail)
        refine Rel.c_region (fun _ => false) wi [some (.slice t1 lt.length t2), some (.pointer (some ⟨bg, 1, none⟩)), some (.slice (some ⟨eb, eo, none⟩) N2 b2), some (.slice (some ⟨pb, po, none⟩) X p2), some (.int .i64 i), some (.pointer (some ⟨pb, po + i, none⟩)), some (.int .i64 x), some (.pointer (some ⟨bg, 1, none⟩)), some (.slice (some ⟨eb, eo, none⟩) N2 b2), some (.int .i64 N2), none, some (.pointer (some ⟨eb, eo + j * 6, none⟩)), some (.pointer (some ⟨eb, eo + j * 6, none⟩)), some (.int .i64 y), none, none, none]
          (fun i v W => match i with
            | 10 => v = .int .i64 j
            | 14 => ∃ q, v = .slice (some ⟨q, 0, none⟩) 1 1 ∧ W.heap[q]? = some (.cells #[.int .i64 y] 3 (0, 0))
            | _ => True)
          (fun i vals W => Below w3.heap.size w3 W ∧ Below wo.heap.size wo W ∧ ∃ f m c, vals i = .slice f m c ∧ vals 15 = .slice f m c ∧ OwnI W wo.heap.size (.slice f m c) (lt ++ [y])) 15 (by kernel_rfl) (by kernel_rfl) (fun i hi => by cases hi)
          (fun j hj => by simp only [List.getD_eq_getElem?_getD]; rcases Nat.lt_or_ge j 17 with h | h; (obtain rfl | rfl : j = 15 ∨ j = 16 := by omega); rfl; rfl; rw [List.getElem?_eq_none (by simp; omega)]; rfl) (by decide) (fun i v W W' h Bl => by
            split at h
            · exact h
            · obtain ⟨q, h1, h2⟩ := h; exact ⟨q, h1, (Bl.block _ (Array.getElem?_eq_some_iff.1 h2).1).trans h2⟩
            · exact trivial) ((Below.refl _ wi).drew) (fun vals hO => ?_)
        refine Rel.c_pure rfl (.slice t1 lt.length t2) rfl (by decide) (hO 0 _ rfl) (by rfl) (fun w hC hd => ?_) ?_
        · clear hd hO; go_simp
        try simp only [Act.put, zT, z0, zS]
        refine Rel.c_pure rfl (.pointer (some ⟨bg, 1, none⟩)) rfl (by decide) (hO 1 _ rfl) (by rfl) (fun w hC hd => ?_) ?_
        · clear hd hO; go_simp
        try simp only [Act.put, zT, z0, zS]
        refine Rel.c_pure rfl (.slice (some ⟨eb, eo, none⟩) N2 b2) rfl (by decide) (hO 2 _ rfl) (by rfl) (fun w hC hd => ?_) ?_
        · obtain ⟨y0, y1, y2⟩ := fW.out w hC; clear hd hO; go_simp
        try simp only [Act.put, zT, z0, zS]
        refine Rel.c_pure rfl (.slice (some ⟨pb, po, none⟩) X p2) rfl (by decide) (hO 3 _ rfl) (by rfl) (fun w hC hd => ?_) ?_
        · clear hd hO; go_simp
        try simp only [Act.put, zT, z0, zS]
        refine Rel.c_pure rfl (.int .i64 i) rfl (by decide) (hO 4 _ rfl) (by rfl) (fun w hC hd => ?_) ?_
        · clear hd hO; go_simp
        try simp only [Act.put, zT, z0, zS]
        refine Rel.c_pure rfl (.pointer (some ⟨pb, po + i, none⟩)) rfl (by decide) (hO 5 _ rfl) (by rfl) (fun w hC hd => ?_) ?_
        · clear hd hO; go_simp
        try simp only [Act.put, zT, z0, zS]
        refine Rel.c_pure rfl (.int .i64 x) rfl (by decide) (hO 6 _ rfl) (by rfl) (fun w hC hd => ?_) ?_
        · obtain ⟨y0, y1, y2⟩ := fW.out w hC; clear hd hO; go_simp
        try simp only [Act.put, zT, z0, zS]
        refine Rel.c_pure rfl (.pointer (some ⟨bg, 1, none⟩)) rfl (by decide) (hO 7 _ rfl) (by rfl) (fun w hC hd => ?_) ?_
        · clear hd hO; go_simp
        try simp only [Act.put, zT, z0, zS]
        refine Rel.c_pure rfl (.slice (some ⟨eb, eo, none⟩) N2 b2) rfl (by decide) (hO 8 _ rfl) (by rfl) (fun w hC hd => ?_) ?_
        · obtain ⟨y0, y1, y2⟩ := fW.out w hC; clear hd hO; go_simp
        try simp only [Act.put, zT, z0, zS]
        refine Rel.c_pure rfl (.int .i64 N2) rfl (by decide) (hO 9 _ rfl) (by rfl) (fun w hC hd => ?_) ?_
        · clear hd hO; go_simp
        try simp only [Act.put, zT, z0, zS]
        refine Rel.c_rel rfl rfl (by decide) (by rfl) (fun w hC hd => ?_) ?_
        · refine post_call Try.f9 rfl Try.func9 (by kernel_rfl) (by kernel_rfl) #[.int .i64 x, .int .i64 N2] (by simp [Act.eval]) ((hpj.out w).mono ?_)
          rintro e w5 ⟨rfl, rfl⟩
          exact ⟨_, rfl, Below.refl _ _, rfl⟩
        try simp only [Act.put, zT, z0, zS]
        refine Rel.c_pure rfl (.pointer (some ⟨eb, eo + j * 6, none⟩)) rfl (by decide) (hO 11 _ rfl) (by rfl) (fun w hC hd => ?_) ?_
        · have h10 : vals 10 = .int .i64 j := hd 10 (by decide); rw [h10]; clear hd hO; go_simp
        try simp only [Act.put, zT, z0, zS]
        refine Rel.c_pure rfl (.pointer (some ⟨eb, eo + j * 6, none⟩)) rfl (by decide) (hO 12 _ rfl) (by rfl) (fun w hC hd => ?_) ?_
        · clear hd hO; go_simp
        try simp only [Act.put, zT, z0, zS]
        refine Rel.c_pure rfl (.int .i64 y) rfl (by decide) (hO 13 _ rfl) (by rfl) (fun w hC hd => ?_) ?_
        · obtain ⟨y0, y1, y2⟩ := fW.out w hC; clear hd hO; go_simp
        try simp only [Act.put, zT, z0, zS]
        refine Rel.c_rel rfl rfl (by decide) (by rfl) (fun w hC hd => ?_) ?_
        · refine post_value (.slice (some ⟨w.heap.size, 0, none⟩) 1 1) (w.alloc (.cells #[.int .i64 y] 3)) ?_ ⟨(Below.refl _ w).alloc (Nat.le_refl _) _, _, rfl, heap_alloc_new w _⟩
          clear hd hO; go_simp
        try simp only [Act.put, zT, z0, zS]
        refine Rel.c_tail0 rfl rfl (by rfl) (fun wz hC hd => ?_) ?_
        · obtain ⟨qq, h1, h2⟩ : ∃ q, vals 14 = .slice (some ⟨q, 0, none⟩) 1 1 ∧ wz.heap[q]? = some (.cells #[.int .i64 y] 3 (0, 0)) := hd 14 (by decide)
          have hs := hW.out wz hC
          obtain ⟨v', w', k1, k2, k3⟩ := appI wz wo.heap.size _ _ lt [y] hs (made1 h2) (by have := hl9.out; simp; omega) (Nat.le_trans hBw2.out.size hC.size)
          obtain ⟨f2, c2, rfl, _, _⟩ := OwnI.form k2
          have bb3 := hBi.out.trans (hC.mono hBi.out.size)
          have hbl : ∀ bb, (Value.slice t1 lt.length t2).ownBlock = some bb → wo.heap.size ≤ bb := fun bb hb => (OwnI.base hs bb hb).1
          have bb4 := hBw2.out.trans (hC.mono hBw2.out.size)
          exact post_append (.tmp 145) (.tmp 159) 26 rfl (.slice t1 lt.length t2) (.slice (some ⟨qq, 0, none⟩) 1 1) rfl h1 _ w' k1 ⟨bb3.grown k3 bb3.size (fun bb hb => Nat.le_trans hBo.out.size (hbl bb hb)), bb4.grown k3 bb4.size hbl, f2, _, c2, by simp [Rel.upd], by simp [Rel.upd], k2⟩
        try simp only [Act.put, zT, z0, zS]
        refine Rel.c_tail rfl 15 rfl (by decide) (by rfl) (fun w' hF => ?_) ?_
        · obtain ⟨h0, h0', f, m, c, h1, h2, h3⟩ := hF
          refine post_value (.slice f m c) w' ?_ ⟨h0, h0', f, m, c, by simp [Rel.upd], by simpa [Rel.upd] using h1, h3⟩
          rw [h1]
          clear hO h1 h2; go_simp
        try simp only [Act.put, zT, z0, zS]
        refine Rel.c_end ?_
        intro w4 hF
        obtain ⟨hb3, hb4, f, m, c, h1, h2, hF⟩ := hF
        have hV3 := Lib.hid hF
        have hB3 := Lib.hid hb3
        have hB4 := Lib.hid hb4
        have e16 : vals (0 + 1 + 1 + 1 + 1 + 1 + 1 + 1 + 1 + 1 + 1 + 1 + 1 + 1 + 1 + 1 + 1) = .slice f m c := h1
        rw [e16]
        clear hF hO hb3 hb4 h1 h2 e16
        go_wp2_with fail
        go_roundg ga
        case measure => omega
        case rel => exact ⟨i + 1, lt ++ [y], hle.out, by go_num, hV3.out, by have := hl10.out; simp; omega, hB4.out⟩
  | succ ga =>
    have hkl : k < G.vs.length := by rw [← hL.out.n1]; omega
    have i0 : (0 : Int) ≤ (k : Int) := by omega
    have i1 : (k : Int) < (N1 : Int) := by omega
    have hle : Hid (k + 1 + ga = N1) := by show _ = _; omega
    have gv := hL.out.fv k hkl wo hBk
    generalize G.vs[k].id = x at *
    obtain ⟨v', w', hr, ho2, hb2, _⟩ := snocI wo w3.heap.size _ lo x hown (by omega) hBk.size
    have hb3 := Lib.hid (hb2 w3 hBk (Nat.le_refl _) (Nat.le_refl _))
    have ho1 := Lib.hid hown
    replace ho2 := Lib.hid ho2
    have hBo := Lib.hid hBk
    have hl1 : Hid (lo.length ≤ k) := hlo
    clear hb2 hown hBk hk hkl hlo
    go_wp2_with fail
    refine (hp24.out wo).mono ?_
    rintro e w9 ⟨rfl, rfl⟩
    go_wp2_with (at_builtin; refine wpList_append_runB rfl (.tmp 120) (.tmp 127) 26 rfl u24 (.slice (some ⟨wo.heap.size, 0, none⟩) 1 1) rfl rfl _ _ hr ?_)
    · go_roundg ga
      case measure => omega
      case rel => exact ⟨k + 1, lo ++ [x], hle.out, by go_num, ho2.out, by have := hl1.out; simp; omega, hb3.out⟩
    · go_roundg ga
      case measure => omega
      case rel => exact ⟨k + 1, lo, hle.out, by go_num, ho1.out, by have := hl1.out; omega, hBo.out⟩

end Go.Proofs.Ythmkmjkbfjhffaa
