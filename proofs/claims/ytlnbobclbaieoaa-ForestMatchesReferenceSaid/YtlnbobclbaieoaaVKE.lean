/- Contracts and facts. -/
import Derived.Deep.LoopGhost
import Derived.Handy
import Derived.WalkMore
import Derived.BigRegion
import Derived.Laws.EntriesVeiled
import Derived.Test.YtlnbobclbaieoaaVKA
set_option linter.unusedSimpArgs false
set_option maxRecDepth 100000
set_option maxHeartbeats 4000000
namespace Go.Proofs.Ytlnbobclbaieoaa
open Go.RowKit
theorem lab_bd (g : Gr) : Bd 1000000 (labelsC g).1 ∧ (labelsC g).1.length ≤ 24 := by
  unfold labelsC
  split
  · next ho =>
    obtain ⟨G, M, hV, _⟩ := good_of ho
    have hk := ((ok_iff g).1 ho)
    have hv : ∀ x ∈ keysV g.vs, 0 ≤ x ∧ x < 24 := fun x hx => by
      obtain ⟨u, hu, rfl⟩ := mem_keysV.1 hx
      have := Vx.ok_iff u |>.1 (hk.vok u hu); omega
    refine ⟨fun x hx => ?_, by show (labF (mF g) (keysV g.vs)).length ≤ 24; unfold labF; rw [List.length_map]; exact hV⟩
    have hx2 : x ∈ labF (mF g) (keysV g.vs) := hx
    unfold labF at hx2
    obtain ⟨k, hk1, rfl⟩ := List.mem_map.1 hx2
    refine ⟨by simp, fun v hv2 => ?_⟩
    have h1 := M.lo k
    have h2 := M.hi k hk1
    obtain ⟨a1, a2, a3, _⟩ := anc_ok G M hk1 (j := (gp (mF g) k).depth.toNat) (Nat.le_refl _)
    have a4 := (M.rt _ a1 (by omega)).1
    rw [a2] at a4
    have a5 := hv _ a1
    rw [← a4] at a5
    have h3 : -1 ≤ (gp (mF g) k).edge ∧ (gp (mF g) k).edge < 40 := by
      by_cases h0 : (gp (mF g) k).depth = 0
      · have := (M.rt k hk1 h0).2; omega
      · obtain ⟨e, e1, e2, _⟩ := M.up k hk1 (by omega)
        have e3 := hk.eok e (mem_atF.1 e1).1
        have e4 := (Ed.okIn_iff e _).1 e3
        omega
    simp only [List.mem_cons, List.not_mem_nil, or_false] at hv2
    rcases hv2 with rfl | rfl | rfl <;> omega
  · exact ⟨fun x hx => (by cases hx), by simp⟩
theorem bent_all_bd : ∀ (l : List T3) (L : List Nm) (b : Int), Bd b L → 20 ≤ b → Bd (b + 10 * (l.length : Int)) (l.foldl bstep L) := by
  intro l
  induction l with
  | nil => intro L b h _; simpa using h
  | cons t l ih =>
    intro L b h hb
    rw [List.foldl_cons]
    refine Bd.mono (ih _ _ (bstep_bd h hb t) (by omega)) ?_
    rw [List.length_cons]; omega
theorem bentF_bd {b : Int} {L : List Nm} (h : Bd b L) (hb : 20 ≤ b) (x : List T3) : Bd (b + 40) (bentF L x) := by
  unfold bentF
  refine Bd.mono (bent_all_bd _ _ _ h hb) ?_
  have : (x.take 4).length ≤ 4 := by rw [List.length_take]; omega
  omega
theorem bentF_len (L : List Nm) (x : List T3) : (bentF L x).length = L.length := by
  unfold bentF
  generalize x.take 4 = l
  induction l generalizing L with
  | nil => rfl
  | cons t l ih => rw [List.foldl_cons, ih, bstep_len]
theorem read_dep {L : List Nm} {B : Int} (h : ∀ x ∈ L, ∀ v ∈ x.2, v ≤ B) (h0 : 0 ≤ B) (n : Int) : (gp (readF L) n).depth ≤ B := by
  unfold gp
  rw [readF_find]
  cases hf : L.find? (fun x => x.1 == n) with
  | none => exact h0
  | some x =>
    have hx := List.mem_of_find?_eq_some hf
    show ((if x.2.length = 3 then _ else none : Option Pl).getD ⟨0, 0, 0⟩).depth ≤ B
    by_cases h3 : x.2.length = 3
    · rw [if_pos h3]
      show (x.2[1]?.getD 0) ≤ B
      rw [List.getElem?_eq_getElem (by omega)]
      exact h x hx _ (List.getElem_mem _)
    · rw [if_neg h3]; exact h0
/-- a view in a row of views that is read -/
structure Vw (W : World) (g k : Nat) (n s : Int) (dv ev lv : Value) (es : List Ed) (L : List Nm) : Prop where
  c0 : W.cell? ⟨g, k * 5, none⟩ = some (.int .i64 n)
  c1 : W.cell? ⟨g, k * 5 + 1, none⟩ = some (.int .i64 s)
  c2 : W.cell? ⟨g, k * 5 + 2, none⟩ = some dv
  c3 : W.cell? ⟨g, k * 5 + 3, none⟩ = some ev
  c4 : W.cell? ⟨g, k * 5 + 4, none⟩ = some lv
  e : EL W ev es
  l : NL W lv L
def VwB (n : Int) (es : List Ed) (L : List Nm) : Prop := es.length ≤ 1000000 ∧ L.length ≤ 1000000 ∧ (∀ x ∈ L, x.2.length ≤ 9223372036854775807) ∧ (gp (readF L) n).depth ≤ 9223372036854775807
set_option maxRecDepth 1000000 in
set_option maxHeartbeats 8000000 in
theorem fm_vloop (q0 q1 q2 q3 q4 q5 q6 q7 q8 q9 q10 q11 q12 q13 q14 q15 q16 q17 q18 q19 q20 q21 q22 q23 q24 q25 q26 q27 q28 q29 q30 q31 q32 q33 q34 q35 q36 q37 q38 q39 q40 q41 q42 q43 q44 q45 q46 q47 q48 q49 q50 q51 q52 q53 q54 q55 q56 q57 q58 q59 q60 q61 q62 q63 q64 q65 q66 q67 q68 q69 q70 q71 q72 q73 q74 q75 q76 q77 q78 q79 q80 q81 q82 q83 q84 q85 q86 q87 q88 q89 q90 q91 q92 q93 q94 q95 q96 q97 q98 q99 q100 q101 q102 q103 q104 q105 q106 q107 q108 q109 q110 q111 q112 q113 q114 q115 q116 q117 q118 q119 q120 q121 q122 q123 q124 q125 q126 q127 q128 q129 q130 q131 q132 q133 q134 q135 q136 q137 q138 q139 q140 q141 q142 q143 q144 q145 q146 q147 q148 q149 q150 q151 q152 q153 q154 q155 q156 q157 q158 q159 q160 q161 q162 q163 q164 q165 q166 q167 q168 q169 q170 q171 q172 q173 q174 q175 q176 q177 q178 q179 q180 q181 q182 q183 q184 q185 q186 q187 q188 q189 q190 q191 q192 q193 q194 q195 q196 q197 q198 q199 q200 q201 q202 q203 q204 q205 q206 q207 q208 q209 q210 q211 q212 q213 q214 q215 q216 q217 q218 q219 q220 q221 q222 q223 q224 q225 q226 q227 q228 q229 q230 q231 q232 q233 q234 q235 q236 q237 q238 q239 q240 q241 q242 q243 q244 q248 q249 q250 q251 q252 q253 q254 q255 q256 q257 q258 q259 q260 q261 q262 q263 q264 : Value) (K1 : Act → World → Prop) (w0 : World) (gv : Nat) (hsel : Hid (∀ k, k < 3 → ∃ n s dv ev lv es L, (∀ W, Below w0.heap.size w0 W → Vw W gv k n s dv ev lv es L) ∧ VwB n es L ∧ ∃ d1 d2 d3, dv = .slice d1 d2 d3))
  (hK1 : ∀ (r20 r46 r247 r248 r249 r250 r251 r252 r253 r254 r255 r256 r257 r258 r259 r260 r261 r262 r263 : Value) (W : World), Below w0.heap.size w0 W → K1 ⟨(q0 :: q1 :: q2 :: q3 :: q4 :: q5 :: q6 :: q7 :: q8 :: q9 :: q10 :: q11 :: q12 :: q13 :: q14 :: q15 :: q16 :: q17 :: q18 :: q19 :: r20 :: q21 :: q22 :: q23 :: q24 :: q25 :: q26 :: q27 :: q28 :: q29 :: q30 :: q31 :: q32 :: q33 :: q34 :: q35 :: q36 :: q37 :: q38 :: q39 :: q40 :: q41 :: q42 :: q43 :: q44 :: q45 :: r46 :: q47 :: q48 :: q49 :: q50 :: q51 :: q52 :: q53 :: q54 :: q55 :: q56 :: q57 :: q58 :: q59 :: q60 :: q61 :: q62 :: q63 :: q64 :: q65 :: q66 :: q67 :: q68 :: q69 :: q70 :: q71 :: q72 :: q73 :: q74 :: q75 :: q76 :: q77 :: q78 :: q79 :: q80 :: q81 :: q82 :: q83 :: q84 :: q85 :: q86 :: q87 :: q88 :: q89 :: q90 :: q91 :: q92 :: q93 :: q94 :: q95 :: q96 :: q97 :: q98 :: q99 :: q100 :: q101 :: q102 :: q103 :: q104 :: q105 :: q106 :: q107 :: q108 :: q109 :: q110 :: q111 :: q112 :: q113 :: q114 :: q115 :: q116 :: q117 :: q118 :: q119 :: q120 :: q121 :: q122 :: q123 :: q124 :: q125 :: q126 :: q127 :: q128 :: q129 :: q130 :: q131 :: q132 :: q133 :: q134 :: q135 :: q136 :: q137 :: q138 :: q139 :: q140 :: q141 :: q142 :: q143 :: q144 :: q145 :: q146 :: q147 :: q148 :: q149 :: q150 :: q151 :: q152 :: q153 :: q154 :: q155 :: q156 :: q157 :: q158 :: q159 :: q160 :: q161 :: q162 :: q163 :: q164 :: q165 :: q166 :: q167 :: q168 :: q169 :: q170 :: q171 :: q172 :: q173 :: q174 :: q175 :: q176 :: q177 :: q178 :: q179 :: q180 :: q181 :: q182 :: q183 :: q184 :: q185 :: q186 :: q187 :: q188 :: q189 :: q190 :: q191 :: q192 :: q193 :: q194 :: q195 :: q196 :: q197 :: q198 :: q199 :: q200 :: q201 :: q202 :: q203 :: q204 :: q205 :: q206 :: q207 :: q208 :: q209 :: q210 :: q211 :: q212 :: q213 :: q214 :: q215 :: q216 :: q217 :: q218 :: q219 :: q220 :: q221 :: q222 :: q223 :: q224 :: q225 :: q226 :: q227 :: q228 :: q229 :: q230 :: q231 :: q232 :: q233 :: q234 :: q235 :: q236 :: q237 :: q238 :: q239 :: q240 :: q241 :: q242 :: q243 :: q244 :: .slice (some ⟨gv, 0, none⟩) 3 3 :: .int .i64 3 :: r247 :: r248 :: r249 :: r250 :: r251 :: r252 :: r253 :: r254 :: r255 :: r256 :: r257 :: r258 :: r259 :: r260 :: r261 :: r262 :: r263 :: q264 :: []).toArray, []⟩ W) :
  Code.wp Try.prog (sB (gB 5)) (Qn K1) ⟨(q0 :: q1 :: q2 :: q3 :: q4 :: q5 :: q6 :: q7 :: q8 :: q9 :: q10 :: q11 :: q12 :: q13 :: q14 :: q15 :: q16 :: q17 :: q18 :: q19 :: q20 :: q21 :: q22 :: q23 :: q24 :: q25 :: q26 :: q27 :: q28 :: q29 :: q30 :: q31 :: q32 :: q33 :: q34 :: q35 :: q36 :: q37 :: q38 :: q39 :: q40 :: q41 :: q42 :: q43 :: q44 :: q45 :: q46 :: q47 :: q48 :: q49 :: q50 :: q51 :: q52 :: q53 :: q54 :: q55 :: q56 :: q57 :: q58 :: q59 :: q60 :: q61 :: q62 :: q63 :: q64 :: q65 :: q66 :: q67 :: q68 :: q69 :: q70 :: q71 :: q72 :: q73 :: q74 :: q75 :: q76 :: q77 :: q78 :: q79 :: q80 :: q81 :: q82 :: q83 :: q84 :: q85 :: q86 :: q87 :: q88 :: q89 :: q90 :: q91 :: q92 :: q93 :: q94 :: q95 :: q96 :: q97 :: q98 :: q99 :: q100 :: q101 :: q102 :: q103 :: q104 :: q105 :: q106 :: q107 :: q108 :: q109 :: q110 :: q111 :: q112 :: q113 :: q114 :: q115 :: q116 :: q117 :: q118 :: q119 :: q120 :: q121 :: q122 :: q123 :: q124 :: q125 :: q126 :: q127 :: q128 :: q129 :: q130 :: q131 :: q132 :: q133 :: q134 :: q135 :: q136 :: q137 :: q138 :: q139 :: q140 :: q141 :: q142 :: q143 :: q144 :: q145 :: q146 :: q147 :: q148 :: q149 :: q150 :: q151 :: q152 :: q153 :: q154 :: q155 :: q156 :: q157 :: q158 :: q159 :: q160 :: q161 :: q162 :: q163 :: q164 :: q165 :: q166 :: q167 :: q168 :: q169 :: q170 :: q171 :: q172 :: q173 :: q174 :: q175 :: q176 :: q177 :: q178 :: q179 :: q180 :: q181 :: q182 :: q183 :: q184 :: q185 :: q186 :: q187 :: q188 :: q189 :: q190 :: q191 :: q192 :: q193 :: q194 :: q195 :: q196 :: q197 :: q198 :: q199 :: q200 :: q201 :: q202 :: q203 :: q204 :: q205 :: q206 :: q207 :: q208 :: q209 :: q210 :: q211 :: q212 :: q213 :: q214 :: q215 :: q216 :: q217 :: q218 :: q219 :: q220 :: q221 :: q222 :: q223 :: q224 :: q225 :: q226 :: q227 :: q228 :: q229 :: q230 :: q231 :: q232 :: q233 :: q234 :: q235 :: q236 :: q237 :: q238 :: q239 :: q240 :: q241 :: q242 :: q243 :: q244 :: .slice (some ⟨gv, 0, none⟩) 3 3 :: .int .i64 3 :: .int .i64 0 :: q248 :: q249 :: q250 :: q251 :: q252 :: q253 :: q254 :: q255 :: q256 :: q257 :: q258 :: q259 :: q260 :: q261 :: q262 :: q263 :: q264 :: []).toArray, []⟩ w0 := by
  conv => arg 2; whnf
  replace hK1 := Lib.hid hK1
  go_wp2_with fail
  go_loopg [247] 3 (fun n iv wr => ∃ k : Nat, k + n = 3 ∧ iv = .int .i64 k ∧ Below w0.heap.size w0 wr)
  case atStart => exact ⟨0, rfl, rfl, Below.refl _ _⟩
  case round =>
    obtain ⟨k, hk, rfl, hb⟩ := hrel
    obtain ⟨wo, rfl⟩ : ∃ x, x = wr := ⟨_, rfl⟩
    cases gk with
    | zero =>
      have i1 : ¬ (k : Int) < 3 := by omega
      have hbb := Lib.hid hb
      clear hk hb hsel
      go_wp2_with fail
      exact hK1.out _ _ _ _ _ _ _ _ _ _ _ _ _ _ _ _ _ _ _ _ hbb.out
    | succ ga =>
      have i0 : (0 : Int) ≤ (k : Int) := by omega
      have i1 : (k : Int) < 3 := by omega
      have hle : Hid (k + 1 + ga = 3) := by show _ = _; omega
      obtain ⟨n, s, dv, ev, lv, es, L, hx, ⟨hB1, hB2, hB3, hB4⟩, d1, d2, d3, rfl⟩ := hsel.out k (by omega)
      obtain ⟨ea, ec, rfl⟩ := (hx wo hb).e.shape
      obtain ⟨la, lc, rfl⟩ := (hx wo hb).l.shape
      obtain ⟨u0, u1, u2, u3, u4, _, _⟩ := hx wo hb
      obtain ⟨w1, hw1⟩ : ∃ W, W = wo.alloc (.cells #[.int .i64 n, .int .i64 s, .slice d1 d2 d3, .slice ea es.length ec, .slice la L.length lc] 51) := ⟨_, rfl⟩
      have hb1 : Below wo.heap.size wo w1 := by rw [hw1]; exact (Below.refl _ wo).alloc (Nat.le_refl _) _
      have hrow : w1.heap[wo.heap.size]? = some (.cells #[.int .i64 n, .int .i64 s, .slice d1 d2 d3, .slice ea es.length ec, .slice la L.length lc] 51 (0, 0)) := by rw [hw1]; exact heap_alloc_new wo _
      have hw01 : Below w0.heap.size w0 w1 := hb.trans (hb1.mono hb.size)
      obtain ⟨p46, hp46⟩ : ∃ p, Hid (p = wo.heap.size) := ⟨_, rfl⟩
      rw [← hp46.out] at hrow
      have hT := Lib.hid (fun W (BB : Below w1.heap.size w1 W) => five_cells ((BB.block p46 (Array.getElem?_eq_some_iff.1 hrow).1).trans hrow))
      have cG := Lib.hid (fun W (BB : Below w1.heap.size w1 W) => Good_any read_any n s (.slice d1 d2 d3) _ _ es L W (hx W (hw01.trans (BB.mono hw01.size))).e (hx W (hw01.trans (BB.mono hw01.size))).l (by omega) hB2 hB4)
      have cH := Lib.hid (fun W (BB : Below w1.heap.size w1 W) => GoodR_any n s (.slice d1 d2 d3) _ _ es L W (hx W (hw01.trans (BB.mono hw01.size))).e (hx W (hw01.trans (BB.mono hw01.size))).l (by omega) hB2 hB3 hB4)
      have cC := Lib.hid (fun W (BB : Below w1.heap.size w1 W) => Count_any n s (.slice d1 d2 d3) (.slice ea es.length ec) _ L W (hx W (hw01.trans (BB.mono hw01.size))).l hB2)
      have cD := Lib.hid (fun W (BB : Below w1.heap.size w1 W) => CountR_any n s (.slice d1 d2 d3) (.slice ea es.length ec) _ L W (hx W (hw01.trans (BB.mono hw01.size))).l hB2 hB3)
      generalize hE1 : es.length = E1 at *
      generalize hL1 : L.length = L1 at *
      generalize goodF n es (readF L) = cg at *
      generalize countF n (readF L) = cc at *
      replace hw01 := Lib.hid hw01
      replace hw1 := Lib.hid hw1
      clear hE1 hL1 hx hk hb hb1 hrow hB1 hB2 hB3 hB4
      go_upto_region 37 with (fail)
      rw [← hw1.out, ← hp46.out]
      clear u0 u1 u2 u3 u4 hw1
      refine q_region (fun W => Below w1.heap.size w1 W) (by kernel_rfl) (by kernel_rfl) ((Below.refl _ w1).drew) ?_
      repeat (first | (refine q_skip (by rfl) ?_; try simp only [Act.put, zT, z0, zS]) | (refine q_take (v := ?_) (by rfl) ?_ ?_; rotate_left; (first | ((intro w h; clear h; go_simp) <;> with_reducible rfl) | ((intro w h; obtain ⟨y0, y1, y2, y3, y4, _⟩ := hT.out w h; clear h; go_simp) <;> with_reducible rfl)); try simp only [Act.put, zT, z0, zS]))
      refine q_call (v := _) Try.f32 (by rfl) rfl Try.func32 (by kernel_rfl) (by kernel_rfl) #[.agg #[.int .i64 n, .int .i64 s, .slice d1 d2 d3, .slice ea E1 ec, .slice la L1 lc]] (by simp [Act.eval]) (fun w h => (cG.out w h).mono fun e w' ⟨he, hb⟩ => ⟨he, h.trans (hb.mono h.size)⟩) ?_; try simp only [Act.put, zT, z0, zS]
      repeat (first | (refine q_skip (by rfl) ?_; try simp only [Act.put, zT, z0, zS]) | (refine q_take (v := ?_) (by rfl) ?_ ?_; rotate_left; (first | ((intro w h; clear h; go_simp) <;> with_reducible rfl) | ((intro w h; obtain ⟨y0, y1, y2, y3, y4, _⟩ := hT.out w h; clear h; go_simp) <;> with_reducible rfl)); try simp only [Act.put, zT, z0, zS]))
      refine q_call (v := _) Try.f33 (by rfl) rfl Try.func33 (by kernel_rfl) (by kernel_rfl) #[.agg #[.int .i64 n, .int .i64 s, .slice d1 d2 d3, .slice ea E1 ec, .slice la L1 lc]] (by simp [Act.eval]) (fun w h => (cH.out w h).mono fun e w' ⟨he, hb⟩ => ⟨he, h.trans (hb.mono h.size)⟩) ?_; try simp only [Act.put, zT, z0, zS]
      refine q_take (v := .bool false) (by rfl) (fun w h => by clear h; go_simp) ?_
      try simp only [Act.put, zT, z0, zS]
      repeat (first | (refine q_skip (by rfl) ?_; try simp only [Act.put, zT, z0, zS]) | (refine q_take (v := ?_) (by rfl) ?_ ?_; rotate_left; (first | ((intro w h; clear h; go_simp) <;> with_reducible rfl) | ((intro w h; obtain ⟨y0, y1, y2, y3, y4, _⟩ := hT.out w h; clear h; go_simp) <;> with_reducible rfl)); try simp only [Act.put, zT, z0, zS]))
      refine q_call (v := _) Try.f18 (by rfl) rfl Try.func18 (by kernel_rfl) (by kernel_rfl) #[.agg #[.int .i64 n, .int .i64 s, .slice d1 d2 d3, .slice ea E1 ec, .slice la L1 lc]] (by simp [Act.eval]) (fun w h => (cC.out w h).mono fun e w' ⟨he, hb⟩ => ⟨he, h.trans (hb.mono h.size)⟩) ?_; try simp only [Act.put, zT, z0, zS]
      repeat (first | (refine q_skip (by rfl) ?_; try simp only [Act.put, zT, z0, zS]) | (refine q_take (v := ?_) (by rfl) ?_ ?_; rotate_left; (first | ((intro w h; clear h; go_simp) <;> with_reducible rfl) | ((intro w h; obtain ⟨y0, y1, y2, y3, y4, _⟩ := hT.out w h; clear h; go_simp) <;> with_reducible rfl)); try simp only [Act.put, zT, z0, zS]))
      refine q_call (v := _) Try.f34 (by rfl) rfl Try.func34 (by kernel_rfl) (by kernel_rfl) #[.agg #[.int .i64 n, .int .i64 s, .slice d1 d2 d3, .slice ea E1 ec, .slice la L1 lc]] (by simp [Act.eval]) (fun w h => (cD.out w h).mono fun e w' ⟨he, hb⟩ => ⟨he, h.trans (hb.mono h.size)⟩) ?_; try simp only [Act.put, zT, z0, zS]
      refine q_take (v := .bool false) (by rfl) (fun w h => by clear h; go_simp) ?_
      try simp only [Act.put, zT, z0, zS]
      repeat (first | (refine q_skip (by rfl) ?_; try simp only [Act.put, zT, z0, zS]) | (refine q_take (v := ?_) (by rfl) ?_ ?_; rotate_left; (first | ((intro w h; clear h; go_simp) <;> with_reducible rfl)); try simp only [Act.put, zT, z0, zS]))
      refine q_nil ?_
      intro w6 k6
      have hB6 := Lib.hid (hw01.out.trans (k6.mono hw01.out.size))
      clear k6
      go_wp2_with fail
      go_roundg ga
      case measure => omega
      case rel => exact ⟨k + 1, hle.out, by go_num, hB6.out⟩

end Go.Proofs.Ytlnbobclbaieoaa
/- Contracts and facts. -/
set_option linter.unusedSimpArgs false
set_option maxRecDepth 100000
set_option maxHeartbeats 4000000
namespace Go.Proofs.Ytlnbobclbaieoaa
open Go.RowKit
set_option maxRecDepth 1000000 in
set_option maxHeartbeats 8000000 in
theorem fm_views (q0 q1 q2 q3 q5 q6 q7 q9 q10 q11 q12 q13 q14 q15 q16 q17 q18 q20 q21 q23 q24 q26 q27 q28 q29 q30 q31 q32 q33 q34 q35 q36 q37 q38 q39 q40 q41 q42 q43 q44 q45 q46 q47 q48 q49 q50 q51 q52 q53 q54 q55 q56 q57 q58 q59 q60 q61 q62 q63 q64 q65 q66 q67 q68 q69 q70 q71 q72 q73 q74 q75 q76 q77 q78 q79 q80 q81 q82 q83 q84 q85 q86 q87 q88 q89 q90 q91 q92 q93 q94 q95 q96 q97 q98 q99 q100 q101 q102 q103 q104 q105 q106 q107 q108 q109 q110 q111 q112 q113 q114 q115 q116 q117 q118 q119 q120 q121 q122 q123 q124 q125 q126 q127 q128 q129 q130 q131 q132 q133 q134 q135 q136 q137 q138 q139 q140 q141 q142 q143 q144 q145 q146 q147 q148 q149 q150 q151 q152 q153 q154 q155 q156 q157 q158 q159 q160 q161 q162 q163 q164 q165 q166 q167 q168 q169 q170 q171 q172 q173 q174 q175 q176 q177 q178 q179 q180 q181 q182 q183 q184 q185 q186 q187 q188 q189 q190 q191 q192 q193 q194 q195 q196 q197 q198 q199 q200 q201 q202 q203 q204 q205 q206 q207 q208 q209 q210 q211 q212 q213 q214 q215 q216 q217 q218 q219 q220 q221 q222 q223 q224 q225 q226 q227 q228 q229 q230 q231 q232 q233 q234 q235 q236 q237 q238 q239 q240 q241 q242 q243 q244 q245 q246 q247 q248 q249 q250 q251 q252 q253 q254 q255 q256 q257 q258 q259 q260 q261 q262 q263 q264 : Value) (K1 : Act → World → Prop) (w0 : World) (a : Int) (p22 p19 : Nat) (C : Gr) (a1 a3 a5 : Option Addr) (e1 a2 e2 a4 e3 a6 : Nat) (la : Option Addr) (LN lc : Nat) (LL : List Nm) (xv : Value) (xs : List T3) (n0 sd0 : Int) (d1 v1 l1 : Option Addr) (d2 d3 V1 v2 LZ l2 : Nat) (es0 : List Ed) (L0 : List Nm) (hF : Hid (FewF C))
  (hg : Hid (∀ W, Below w0.heap.size w0 W → (W.cell? ⟨p22, 0, none⟩ = some (.slice a1 e1 a2) ∧ W.cell? ⟨p22, 1, none⟩ = some (.slice a3 e2 a4) ∧ W.cell? ⟨p22, 2, none⟩ = some (.slice a5 e3 a6)) ∧ GV W (.agg #[.slice a1 e1 a2, .slice a3 e2 a4, .slice a5 e3 a6]) C))
  (hL : Hid (∀ W, Below w0.heap.size w0 W → NL W (.slice la LN lc) LL)) (hLb : Hid (Bd 1000000 LL ∧ LL.length ≤ 24)) (hx : Hid (∀ W, Below w0.heap.size w0 W → L3 W xv xs)) (hxb : Hid (xs.length ≤ 9223372036854775807 ∧ ∀ t ∈ xs, i64T t)) (ha : Hid (-9223372036854775808 ≤ a ∧ a ≤ 9223372036854775807))
  (hv : Hid (∀ W, Below w0.heap.size w0 W → W.heap[p19]? = some (.cells #[.int .i64 n0, .int .i64 sd0, .slice d1 d2 d3, .slice v1 V1 v2, .slice l1 LZ l2] 51 (0, 0)) ∧ EL W (.slice v1 V1 v2) es0 ∧ NL W (.slice l1 LZ l2) L0))
  (hvb : Hid (V1 = es0.length ∧ V1 ≤ v2 ∧ V1 ≤ 9223372036854775807 ∧ LZ = L0.length ∧ LZ ≤ l2 ∧ LZ ≤ 9223372036854775807 ∧ ∀ x ∈ L0, x.2.length ≤ 9223372036854775807 ∧ ∀ v ∈ x.2, v ≤ 9223372036854775807))
  (hK1 : ∀ (r20 r46 r231 r232 r233 r234 r235 r236 r237 r238 r239 r240 r241 r242 r243 r244 r245 r246 r247 r248 r249 r250 r251 r252 r253 r254 r255 r256 r257 r258 r259 r260 r261 r262 r263 : Value) (W : World), Below w0.heap.size w0 W → K1 ⟨(q0 :: q1 :: q2 :: q3 :: .int .i64 a :: q5 :: q6 :: q7 :: xv :: q9 :: q10 :: q11 :: q12 :: q13 :: q14 :: q15 :: q16 :: q17 :: q18 :: .pointer (some ⟨p19, 0, none⟩) :: r20 :: q21 :: .pointer (some ⟨p22, 0, none⟩) :: q23 :: q24 :: .slice la LN lc :: q26 :: q27 :: q28 :: q29 :: q30 :: q31 :: q32 :: q33 :: q34 :: q35 :: q36 :: q37 :: q38 :: q39 :: q40 :: q41 :: q42 :: q43 :: q44 :: q45 :: r46 :: q47 :: q48 :: q49 :: q50 :: q51 :: q52 :: q53 :: q54 :: q55 :: q56 :: q57 :: q58 :: q59 :: q60 :: q61 :: q62 :: q63 :: q64 :: q65 :: q66 :: q67 :: q68 :: q69 :: q70 :: q71 :: q72 :: q73 :: q74 :: q75 :: q76 :: q77 :: q78 :: q79 :: q80 :: q81 :: q82 :: q83 :: q84 :: q85 :: q86 :: q87 :: q88 :: q89 :: q90 :: q91 :: q92 :: q93 :: q94 :: q95 :: q96 :: q97 :: q98 :: q99 :: q100 :: q101 :: q102 :: q103 :: q104 :: q105 :: q106 :: q107 :: q108 :: q109 :: q110 :: q111 :: q112 :: q113 :: q114 :: q115 :: q116 :: q117 :: q118 :: q119 :: q120 :: q121 :: q122 :: q123 :: q124 :: q125 :: q126 :: q127 :: q128 :: q129 :: q130 :: q131 :: q132 :: q133 :: q134 :: q135 :: q136 :: q137 :: q138 :: q139 :: q140 :: q141 :: q142 :: q143 :: q144 :: q145 :: q146 :: q147 :: q148 :: q149 :: q150 :: q151 :: q152 :: q153 :: q154 :: q155 :: q156 :: q157 :: q158 :: q159 :: q160 :: q161 :: q162 :: q163 :: q164 :: q165 :: q166 :: q167 :: q168 :: q169 :: q170 :: q171 :: q172 :: q173 :: q174 :: q175 :: q176 :: q177 :: q178 :: q179 :: q180 :: q181 :: q182 :: q183 :: q184 :: q185 :: q186 :: q187 :: q188 :: q189 :: q190 :: q191 :: q192 :: q193 :: q194 :: q195 :: q196 :: q197 :: q198 :: q199 :: q200 :: q201 :: q202 :: q203 :: q204 :: q205 :: q206 :: q207 :: q208 :: q209 :: q210 :: q211 :: q212 :: q213 :: q214 :: q215 :: q216 :: q217 :: q218 :: q219 :: q220 :: q221 :: q222 :: q223 :: q224 :: q225 :: q226 :: q227 :: q228 :: q229 :: q230 :: r231 :: r232 :: r233 :: r234 :: r235 :: r236 :: r237 :: r238 :: r239 :: r240 :: r241 :: r242 :: r243 :: r244 :: r245 :: r246 :: r247 :: r248 :: r249 :: r250 :: r251 :: r252 :: r253 :: r254 :: r255 :: r256 :: r257 :: r258 :: r259 :: r260 :: r261 :: r262 :: r263 :: q264 :: []).toArray, []⟩ W) :
  Code.wp Try.prog (gB 5) (Qn K1) ⟨(q0 :: q1 :: q2 :: q3 :: .int .i64 a :: q5 :: q6 :: q7 :: xv :: q9 :: q10 :: q11 :: q12 :: q13 :: q14 :: q15 :: q16 :: q17 :: q18 :: .pointer (some ⟨p19, 0, none⟩) :: q20 :: q21 :: .pointer (some ⟨p22, 0, none⟩) :: q23 :: q24 :: .slice la LN lc :: q26 :: q27 :: q28 :: q29 :: q30 :: q31 :: q32 :: q33 :: q34 :: q35 :: q36 :: q37 :: q38 :: q39 :: q40 :: q41 :: q42 :: q43 :: q44 :: q45 :: q46 :: q47 :: q48 :: q49 :: q50 :: q51 :: q52 :: q53 :: q54 :: q55 :: q56 :: q57 :: q58 :: q59 :: q60 :: q61 :: q62 :: q63 :: q64 :: q65 :: q66 :: q67 :: q68 :: q69 :: q70 :: q71 :: q72 :: q73 :: q74 :: q75 :: q76 :: q77 :: q78 :: q79 :: q80 :: q81 :: q82 :: q83 :: q84 :: q85 :: q86 :: q87 :: q88 :: q89 :: q90 :: q91 :: q92 :: q93 :: q94 :: q95 :: q96 :: q97 :: q98 :: q99 :: q100 :: q101 :: q102 :: q103 :: q104 :: q105 :: q106 :: q107 :: q108 :: q109 :: q110 :: q111 :: q112 :: q113 :: q114 :: q115 :: q116 :: q117 :: q118 :: q119 :: q120 :: q121 :: q122 :: q123 :: q124 :: q125 :: q126 :: q127 :: q128 :: q129 :: q130 :: q131 :: q132 :: q133 :: q134 :: q135 :: q136 :: q137 :: q138 :: q139 :: q140 :: q141 :: q142 :: q143 :: q144 :: q145 :: q146 :: q147 :: q148 :: q149 :: q150 :: q151 :: q152 :: q153 :: q154 :: q155 :: q156 :: q157 :: q158 :: q159 :: q160 :: q161 :: q162 :: q163 :: q164 :: q165 :: q166 :: q167 :: q168 :: q169 :: q170 :: q171 :: q172 :: q173 :: q174 :: q175 :: q176 :: q177 :: q178 :: q179 :: q180 :: q181 :: q182 :: q183 :: q184 :: q185 :: q186 :: q187 :: q188 :: q189 :: q190 :: q191 :: q192 :: q193 :: q194 :: q195 :: q196 :: q197 :: q198 :: q199 :: q200 :: q201 :: q202 :: q203 :: q204 :: q205 :: q206 :: q207 :: q208 :: q209 :: q210 :: q211 :: q212 :: q213 :: q214 :: q215 :: q216 :: q217 :: q218 :: q219 :: q220 :: q221 :: q222 :: q223 :: q224 :: q225 :: q226 :: q227 :: q228 :: q229 :: q230 :: q231 :: q232 :: q233 :: q234 :: q235 :: q236 :: q237 :: q238 :: q239 :: q240 :: q241 :: q242 :: q243 :: q244 :: q245 :: q246 :: q247 :: q248 :: q249 :: q250 :: q251 :: q252 :: q253 :: q254 :: q255 :: q256 :: q257 :: q258 :: q259 :: q260 :: q261 :: q262 :: q263 :: q264 :: []).toArray, []⟩ w0 := by
  refine wp_eq (D := .seq (sA (gB 5)) (sB (gB 5))) (by kernel_rfl) (wp_seq_k fun K9 hK9 => ?_)
  replace hK9 := Lib.hid hK9
  conv => arg 2; whnf
  replace hK1 := Lib.hid hK1
  obtain ⟨b1, b2, b3, b4, b5, b6, b7⟩ := hvb.out
  obtain ⟨pv, hpv⟩ : ∃ x, Hid (x = pk a 10) := ⟨_, rfl⟩
  have cS := Lib.hid (fun W (BB : Below w0.heap.size w0 W) => short_any n0 sd0 (.slice d1 d2 d3) ⟨_, _, _, rfl⟩ v1 V1 v2 l1 l2 L0 W b2 b3 (by have := (hv.out W BB).2.2; rw [b4] at this; exact this) (by omega) (by omega) (fun x hx => (b7 x hx).1))
  have cPk := Lib.hid (fun W => pick9_any a 10 W ha.out.1 ha.out.2 (by omega) (by omega))
  rw [← hpv.out] at cPk
  have hLx : ∀ x ∈ LL, x.2.length ≤ 1000000 := fun x h => by have := (hLb.out.1 x h).1; omega
  have cV := Lib.hid (fun W (BB : Below w0.heap.size w0 W) => View_any _ _ C LL pv W (hg.out W BB).2 (hL.out W BB) hF.out.small (by have := hF.out.2.1; omega) (by have := hF.out.2.2; omega) (by have := hLb.out.2; omega) hLx)
  have cB := Lib.hid (fun W (BB : Below w0.heap.size w0 W) => Bent_any _ _ LL xs W (hL.out W BB) (hx.out W BB) (by have := hLb.out.2; omega) hxb.out.1 hxb.out.2 hLb.out.1)
  have hbb := bentF_bd hLb.out.1 (by omega) xs
  have hbx : ∀ x ∈ bentF LL xs, x.2.length ≤ 1000000 := fun x h => by have := (hbb x h).1; omega
  have cW := Lib.hid (fun W (BB : Below w0.heap.size w0 W) v (h : NL W v (bentF LL xs)) => View_any _ v C (bentF LL xs) pv W (hg.out W BB).2 h hF.out.small (by have := hF.out.2.1; omega) (by have := hF.out.2.2; omega) (by have := hLb.out.2; have := bentF_len LL xs; omega) hbx)
  have hEv := Lib.hid (fun W (BB : Below w0.heap.size w0 W) => (show EL W (.slice v1 (min V1 6) v2) (es0.take 6) from by
    have h9 := (hv.out W BB).2.1
    have h8 := b1
    subst h8
    exact (h9.upto 6).1))
  have hQ1 : Hid (VwB n0 (es0.take 6) (shortL L0)) := by
    refine ⟨by rw [List.length_take]; omega, by unfold shortL; rw [List.length_map, List.length_take]; omega, fun x hx => ?_, read_dep (fun x hx v hv => ?_) (by omega) _⟩
    · unfold shortL at hx
      obtain ⟨y, hy, rfl⟩ := List.mem_map.1 hx
      show (y.2.take 4).length ≤ _
      rw [List.length_take]; omega
    · unfold shortL at hx
      obtain ⟨y, hy, rfl⟩ := List.mem_map.1 hx
      exact (b7 y (List.mem_of_mem_take hy)).2 v (List.mem_of_mem_take hv)
  have hel : (atF C.es pv).length ≤ 1000000 := by have h1 := atF_len C.es pv; have h2 := hF.out.2.1; omega
  have hQ : ∀ (LX : List Nm), Bd 1000040 LX → LX.length ≤ 24 → VwB (vxAt C pv).id (atF C.es pv) (LX.filter (keepV pv (atF C.es pv))) := fun LX hB hl => by
    have hsub : ∀ x ∈ LX.filter (keepV pv (atF C.es pv)), x ∈ LX := fun x hx => (List.mem_filter.1 hx).1
    exact ⟨hel, Nat.le_trans (List.length_filter_le _ _) (by omega), fun x hx => (by have := (hB x (hsub x hx)).1; omega), read_dep (fun x hx v hv => (by have := ((hB x (hsub x hx)).2 v hv).2; omega)) (by omega) _⟩
  have hQ2 := Lib.hid (hQ LL (Bd.mono hLb.out.1 (by omega)) hLb.out.2)
  have hQ3 := Lib.hid (hQ (bentF LL xs) (Bd.mono hbb (by omega)) (by rw [bentF_len]; exact hLb.out.2))
  unfold ViewR at cV cW
  generalize shortL L0 = SL at *
  generalize es0.take 6 = es6 at *
  generalize min V1 6 = M at *
  generalize LL.filter (keepV pv (atF C.es pv)) = L1 at *
  generalize (bentF LL xs).filter (keepV pv (atF C.es pv)) = L2 at *
  generalize bentF LL xs = LB' at *
  generalize atF C.es pv = es1 at *
  generalize (vxAt C pv).id = vi at *
  generalize (vxAt C pv).side = vs at *
  have hcell := Lib.hid (fun W (BB : Below w0.heap.size w0 W) => five_cells (hv.out W BB).1)
  have hgc := Lib.hid (fun W (BB : Below w0.heap.size w0 W) => (hg.out W BB).1)
  rw [← b4] at cS
  clear b1 b2 b3 b4 b5 b6 b7 hLx hbb hbx hel hQ hv hvb hL hLb hx hxb hF hg hpv ha
  refine Rel.b_region w0 [some (.agg #[.int .i64 n0, .int .i64 sd0, .slice d1 d2 d3, .slice v1 V1 v2, .slice l1 LZ l2]), none, some (.agg #[.slice a1 e1 a2, .slice a3 e2 a4, .slice a5 e3 a6]), some (.slice la LN lc), some (.int .i64 a), none, none, some (.agg #[.slice a1 e1 a2, .slice a3 e2 a4, .slice a5 e3 a6]), some (.slice la LN lc), some (xv), none, some (.int .i64 a), none, none, none, some (.int .i64 3), some (.int .i64 0)]
    (fun i v W => match i with
      | 1 => ∃ lv, v = .agg #[.int .i64 n0, .int .i64 sd0, .slice d1 d2 d3, .slice v1 M v2, lv] ∧ NL W lv SL
      | 5 => v = .int .i64 pv
      | 6 => ∃ da db dc ev lb, v = .agg #[.int .i64 vi, .int .i64 vs, .slice da db dc, ev, lb] ∧ EL W ev es1 ∧ NL W lb L1
      | 10 => NL W v LB'
      | 12 => v = .int .i64 pv
      | 13 => ∃ da db dc ev lb, v = .agg #[.int .i64 vi, .int .i64 vs, .slice da db dc, ev, lb] ∧ EL W ev es1 ∧ NL W lb L2
      | 14 => ∃ gv lv da1 db1 dc1 ev1 lb1 da2 db2 dc2 ev2 lb2, v = .slice (some ⟨gv, 0, none⟩) 3 3 ∧ W.heap[gv]? = some (.cells #[.int .i64 n0, .int .i64 sd0, .slice d1 d2 d3, .slice v1 M v2, lv, .int .i64 vi, .int .i64 vs, .slice da1 db1 dc1, ev1, lb1, .int .i64 vi, .int .i64 vs, .slice da2 db2 dc2, ev2, lb2] 51 (0, 0)) ∧ NL W lv SL ∧ EL W ev1 es1 ∧ NL W lb1 L1 ∧ EL W ev2 es1 ∧ NL W lb2 L2
      | _ => True)
    (fun _ _ => True) 999 (by kernel_rfl) (by kernel_rfl) rfl (fun i v W W' h Bl => by
      split at h
      · obtain ⟨lv, h1, h2⟩ := h; exact ⟨lv, h1, h2.below Bl⟩
      · exact h
      · obtain ⟨da, db, dc, ev, lb, h1, h2, h3⟩ := h; exact ⟨da, db, dc, ev, lb, h1, h2.below Bl, h3.below Bl⟩
      · exact NL.below h Bl
      · exact h
      · obtain ⟨da, db, dc, ev, lb, h1, h2, h3⟩ := h; exact ⟨da, db, dc, ev, lb, h1, h2.below Bl, h3.below Bl⟩
      · obtain ⟨gv, lv, da1, db1, dc1, ev1, lb1, da2, db2, dc2, ev2, lb2, h1, h2, h3, h4, h5, h6, h7⟩ := h
        exact ⟨gv, lv, da1, db1, dc1, ev1, lb1, da2, db2, dc2, ev2, lb2, h1, (Bl.block gv (Array.getElem?_eq_some_iff.1 h2).1).trans h2, h3.below Bl, h4.below Bl, h5.below Bl, h6.below Bl, h7.below Bl⟩
      · exact trivial) (fun _ _ _ _ h => h) ((Below.refl _ w0).drew) (fun vals hO => ?_)
  refine Rel.b_pure (.agg #[.int .i64 n0, .int .i64 sd0, .slice d1 d2 d3, .slice v1 V1 v2, .slice l1 LZ l2]) rfl (by decide) (hO 0 _ rfl) (by rfl) (fun w hC hd => ?_) ?_
  · obtain ⟨y0, y1, y2, y3, y4, _⟩ := hcell.out w hC; clear hd hO; go_simp
  try simp only [Act.put, zT, z0, zS]
  refine Rel.b_rel rfl (by decide) (by rfl) (fun w hC hd => ?_) ?_
  · refine post_call Try.f30 rfl Try.func30 (by kernel_rfl) (by kernel_rfl) #[.agg #[.int .i64 n0, .int .i64 sd0, .slice d1 d2 d3, .slice v1 V1 v2, .slice l1 LZ l2]] (by simp [Act.eval]) ((cS.out w hC).mono ?_)
    rintro e w2 ⟨lv, rfl, h1, bx⟩
    exact ⟨_, rfl, bx, lv, rfl, h1⟩
  try simp only [Act.put, zT, z0, zS]
  refine Rel.b_pure (.agg #[.slice a1 e1 a2, .slice a3 e2 a4, .slice a5 e3 a6]) rfl (by decide) (hO 2 _ rfl) (by rfl) (fun w hC hd => ?_) ?_
  · obtain ⟨y0, y1, y2⟩ := hgc.out w hC; clear hd hO; go_simp
  try simp only [Act.put, zT, z0, zS]
  refine Rel.b_pure (.slice la LN lc) rfl (by decide) (hO 3 _ rfl) (by rfl) (fun w hC hd => ?_) ?_
  · clear hd hO; go_simp
  try simp only [Act.put, zT, z0, zS]
  refine Rel.b_pure (.int .i64 a) rfl (by decide) (hO 4 _ rfl) (by rfl) (fun w hC hd => ?_) ?_
  · clear hd hO; go_simp
  try simp only [Act.put, zT, z0, zS]
  refine Rel.b_rel rfl (by decide) (by rfl) (fun w hC hd => ?_) ?_
  · refine post_call Try.f9 rfl Try.func9 (by kernel_rfl) (by kernel_rfl) #[.int .i64 a, .int .i64 10] (by simp [Act.eval]) ((cPk.out w).mono ?_)
    rintro e w2 ⟨rfl, rfl⟩
    exact ⟨_, rfl, Below.refl _ _, rfl⟩
  try simp only [Act.put, zT, z0, zS]
  refine Rel.b_rel rfl (by decide) (by rfl) (fun w hC hd => ?_) ?_
  · have h5 : vals 5 = .int .i64 pv := hd 5 (by decide)
    refine post_call Try.f19 rfl Try.func19 (by kernel_rfl) (by kernel_rfl) #[.agg #[.slice a1 e1 a2, .slice a3 e2 a4, .slice a5 e3 a6], .slice la LN lc, vals 5] (by simp [Act.eval]) ((h5 ▸ cV.out w hC).mono ?_)
    rintro e w2 ⟨dv, ev, lb, rfl, hd1, he1, hl1, bx⟩
    exact (by obtain ⟨d7, d8, hde⟩ := hd1.DL.shape; exact ⟨_, rfl, bx, d7, _, d8, ev, lb, by rw [hde], he1.EL, hl1.NL⟩)
  try simp only [Act.put, zT, z0, zS]
  refine Rel.b_pure (.agg #[.slice a1 e1 a2, .slice a3 e2 a4, .slice a5 e3 a6]) rfl (by decide) (hO 7 _ rfl) (by rfl) (fun w hC hd => ?_) ?_
  · obtain ⟨y0, y1, y2⟩ := hgc.out w hC; clear hd hO; go_simp
  try simp only [Act.put, zT, z0, zS]
  refine Rel.b_pure (.slice la LN lc) rfl (by decide) (hO 8 _ rfl) (by rfl) (fun w hC hd => ?_) ?_
  · clear hd hO; go_simp
  try simp only [Act.put, zT, z0, zS]
  refine Rel.b_pure (xv) rfl (by decide) (hO 9 _ rfl) (by rfl) (fun w hC hd => ?_) ?_
  · clear hd hO; go_simp
  try simp only [Act.put, zT, z0, zS]
  refine Rel.b_rel rfl (by decide) (by rfl) (fun w hC hd => ?_) ?_
  · refine post_call Try.f31 rfl Try.func31 (by kernel_rfl) (by kernel_rfl) #[.slice la LN lc, xv] (by simp [Act.eval]) ((cB.out w hC).mono ?_)
    rintro e w2 ⟨lb, rfl, hl1, bx⟩
    exact ⟨_, rfl, bx, hl1.NL⟩
  try simp only [Act.put, zT, z0, zS]
  refine Rel.b_pure (.int .i64 a) rfl (by decide) (hO 11 _ rfl) (by rfl) (fun w hC hd => ?_) ?_
  · clear hd hO; go_simp
  try simp only [Act.put, zT, z0, zS]
  refine Rel.b_rel rfl (by decide) (by rfl) (fun w hC hd => ?_) ?_
  · refine post_call Try.f9 rfl Try.func9 (by kernel_rfl) (by kernel_rfl) #[.int .i64 a, .int .i64 10] (by simp [Act.eval]) ((cPk.out w).mono ?_)
    rintro e w2 ⟨rfl, rfl⟩
    exact ⟨_, rfl, Below.refl _ _, rfl⟩
  try simp only [Act.put, zT, z0, zS]
  refine Rel.b_rel rfl (by decide) (by rfl) (fun w hC hd => ?_) ?_
  · have h12 : vals 12 = .int .i64 pv := hd 12 (by decide)
    have h10 : NL w (vals 10) LB' := hd 10 (by decide)
    refine post_call Try.f19 rfl Try.func19 (by kernel_rfl) (by kernel_rfl) #[.agg #[.slice a1 e1 a2, .slice a3 e2 a4, .slice a5 e3 a6], vals 10, vals 12] (by simp [Act.eval]) ((h12 ▸ cW.out w hC (vals 10) h10).mono ?_)
    rintro e w2 ⟨dv, ev, lb, rfl, hd1, he1, hl1, bx⟩
    exact (by obtain ⟨d7, d8, hde⟩ := hd1.DL.shape; exact ⟨_, rfl, bx, d7, _, d8, ev, lb, by rw [hde], he1.EL, hl1.NL⟩)
  try simp only [Act.put, zT, z0, zS]
  refine Rel.b_rel rfl (by decide) (by rfl) (fun w hC hd => ?_) ?_
  · obtain ⟨lv, h1, k1⟩ : ∃ lv, vals 1 = .agg #[.int .i64 n0, .int .i64 sd0, .slice d1 d2 d3, .slice v1 M v2, lv] ∧ NL w lv SL := hd 1 (by decide)
    obtain ⟨da1, db1, dc1, ev1, lb1, h6, k2, k3⟩ : ∃ da db dc ev lb, vals 6 = .agg #[.int .i64 vi, .int .i64 vs, .slice da db dc, ev, lb] ∧ EL w ev es1 ∧ NL w lb L1 := hd 6 (by decide)
    obtain ⟨da2, db2, dc2, ev2, lb2, h13, k4, k5⟩ : ∃ da db dc ev lb, vals 13 = .agg #[.int .i64 vi, .int .i64 vs, .slice da db dc, ev, lb] ∧ EL w ev es1 ∧ NL w lb L2 := hd 13 (by decide)
    have ba : Below w.heap.size w (w.alloc (.cells #[.int .i64 n0, .int .i64 sd0, .slice d1 d2 d3, .slice v1 M v2, lv, .int .i64 vi, .int .i64 vs, .slice da1 db1 dc1, ev1, lb1, .int .i64 vi, .int .i64 vs, .slice da2 db2 dc2, ev2, lb2] 51)) := (Below.refl _ w).alloc (Nat.le_refl _) _
    refine post_value (.slice (some ⟨w.heap.size, 0, none⟩) 3 3) (w.alloc (.cells #[.int .i64 n0, .int .i64 sd0, .slice d1 d2 d3, .slice v1 M v2, lv, .int .i64 vi, .int .i64 vs, .slice da1 db1 dc1, ev1, lb1, .int .i64 vi, .int .i64 vs, .slice da2 db2 dc2, ev2, lb2] 51)) ?_ ⟨ba, w.heap.size, lv, da1, db1, dc1, ev1, lb1, da2, db2, dc2, ev2, lb2, rfl, heap_alloc_new w _, k1.below ba, k2.below ba, k3.below ba, k4.below ba, k5.below ba⟩
    rw [h1, h6, h13]
    obtain ⟨x1, x2, rfl⟩ := k1.shape
    obtain ⟨x3, x4, rfl⟩ := k2.shape
    obtain ⟨x5, x6, rfl⟩ := k3.shape
    obtain ⟨x7, x8, rfl⟩ := k4.shape
    obtain ⟨x9, x10, rfl⟩ := k5.shape
    clear hd hO hC ba k1 k2 k3 k4 k5; go_simp
  try simp only [Act.put, zT, z0, zS]
  refine Rel.b_pure (.int .i64 3) rfl (by decide) (hO 15 _ rfl) (by rfl) (fun w hC hd => ?_) ?_
  · obtain ⟨gv, _, _, _, _, _, _, _, _, _, _, _, h14, _⟩ : ∃ gv lv da1 db1 dc1 ev1 lb1 da2 db2 dc2 ev2 lb2, vals 14 = .slice (some ⟨gv, 0, none⟩) 3 3 ∧ _ := hd 14 (by decide)
    rw [h14]
    clear hd hO h14; go_simp
  try simp only [Act.put, zT, z0, zS]
  refine Rel.b_pure (.int .i64 0) rfl (by decide) (hO 16 _ rfl) (by rfl) (fun w hC hd => ?_) ?_
  · clear hd hO; go_simp
  try simp only [Act.put, zT, z0, zS]
  refine Rel.b_end ?_
  intro w1 hF
  rw [if_neg (by simp)] at hF
  obtain ⟨hB, hF⟩ := hF
  obtain ⟨gv, lv, da1, db1, dc1, ev1, lb1, da2, db2, dc2, ev2, lb2, h14, hrow, k1, k2, k3, k4, k5⟩ : ∃ gv lv da1 db1 dc1 ev1 lb1 da2 db2 dc2 ev2 lb2, vals (0 + 1 + 1 + 1 + 1 + 1 + 1 + 1 + 1 + 1 + 1 + 1 + 1 + 1 + 1) = .slice (some ⟨gv, 0, none⟩) 3 3 ∧ w1.heap[gv]? = some (.cells #[.int .i64 n0, .int .i64 sd0, .slice d1 d2 d3, .slice v1 M v2, lv, .int .i64 vi, .int .i64 vs, .slice da1 db1 dc1, ev1, lb1, .int .i64 vi, .int .i64 vs, .slice da2 db2 dc2, ev2, lb2] 51 (0, 0)) ∧ NL w1 lv SL ∧ EL w1 ev1 es1 ∧ NL w1 lb1 L1 ∧ EL w1 ev2 es1 ∧ NL w1 lb2 L2 := hF 14 (by decide)
  rw [h14]
  have hsel : Hid (∀ k, k < 3 → ∃ n s dv ev lv es L, (∀ W, Below w1.heap.size w1 W → Vw W gv k n s dv ev lv es L) ∧ VwB n es L ∧ ∃ d1 d2 d3, dv = .slice d1 d2 d3) := fun k hk => by
    have hrw := fun W (BB : Below w1.heap.size w1 W) => (BB.block gv (Array.getElem?_eq_some_iff.1 hrow).1).trans hrow
    rcases (by omega : k = 0 ∨ k = 1 ∨ k = 2) with rfl | rfl | rfl
    · exact ⟨n0, sd0, _, _, _, es6, SL, fun W BB => ⟨by rw [cell_of_row W gv _ _ _ _ (hrw W BB)]; rfl, by rw [cell_of_row W gv _ _ _ _ (hrw W BB)]; rfl, by rw [cell_of_row W gv _ _ _ _ (hrw W BB)]; rfl, by rw [cell_of_row W gv _ _ _ _ (hrw W BB)]; rfl, by rw [cell_of_row W gv _ _ _ _ (hrw W BB)]; rfl, hEv.out W (hB.trans (BB.mono hB.size)), k1.below BB⟩, hQ1.out, _, _, _, rfl⟩
    · exact ⟨vi, vs, _, _, _, es1, L1, fun W BB => ⟨by rw [cell_of_row W gv _ _ _ _ (hrw W BB)]; rfl, by rw [cell_of_row W gv _ _ _ _ (hrw W BB)]; rfl, by rw [cell_of_row W gv _ _ _ _ (hrw W BB)]; rfl, by rw [cell_of_row W gv _ _ _ _ (hrw W BB)]; rfl, by rw [cell_of_row W gv _ _ _ _ (hrw W BB)]; rfl, k2.below BB, k3.below BB⟩, hQ2.out, _, _, _, rfl⟩
    · exact ⟨vi, vs, _, _, _, es1, L2, fun W BB => ⟨by rw [cell_of_row W gv _ _ _ _ (hrw W BB)]; rfl, by rw [cell_of_row W gv _ _ _ _ (hrw W BB)]; rfl, by rw [cell_of_row W gv _ _ _ _ (hrw W BB)]; rfl, by rw [cell_of_row W gv _ _ _ _ (hrw W BB)]; rfl, by rw [cell_of_row W gv _ _ _ _ (hrw W BB)]; rfl, k4.below BB, k5.below BB⟩, hQ3.out, _, _, _, rfl⟩
  have hB1 := Lib.hid hB
  clear hB hF hO h14 hrow k1 k2 k3 k4 k5 hQ1 hQ2 hQ3 hEv cS cPk cV cB cW hcell hgc
  refine hK9.out _ _ ?_
  refine fm_vloop _ _ _ _ _ _ _ _ _ _ _ _ _ _ _ _ _ _ _ _ _ _ _ _ _ _ _ _ _ _ _ _ _ _ _ _ _ _ _ _ _ _ _ _ _ _ _ _ _ _ _ _ _ _ _ _ _ _ _ _ _ _ _ _ _ _ _ _ _ _ _ _ _ _ _ _ _ _ _ _ _ _ _ _ _ _ _ _ _ _ _ _ _ _ _ _ _ _ _ _ _ _ _ _ _ _ _ _ _ _ _ _ _ _ _ _ _ _ _ _ _ _ _ _ _ _ _ _ _ _ _ _ _ _ _ _ _ _ _ _ _ _ _ _ _ _ _ _ _ _ _ _ _ _ _ _ _ _ _ _ _ _ _ _ _ _ _ _ _ _ _ _ _ _ _ _ _ _ _ _ _ _ _ _ _ _ _ _ _ _ _ _ _ _ _ _ _ _ _ _ _ _ _ _ _ _ _ _ _ _ _ _ _ _ _ _ _ _ _ _ _ _ _ _ _ _ _ _ _ _ _ _ _ _ _ _ _ _ _ _ _ _ _ _ _ _ _ _ _ _ _ _ _ _ _ _ _ _ _ _ _ _ _ w1 gv hsel (fun _ _ _ _ _ _ _ _ _ _ _ _ _ _ _ _ _ _ _ W BB => ?_)
  exact hK1.out _ _ _ _ _ _ _ _ _ _ _ _ _ _ _ _ _ _ _ _ _ _ _ _ _ _ _ _ _ _ _ _ _ _ _ _ (hB1.out.trans (BB.mono hB1.out.size))

end Go.Proofs.Ytlnbobclbaieoaa
