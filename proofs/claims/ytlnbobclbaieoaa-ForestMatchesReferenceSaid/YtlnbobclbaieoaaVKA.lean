/- Contracts and facts. -/
import Derived.Deep.LoopGhost
import Derived.Handy
import Derived.WalkMore
import Derived.BigRegion
import Derived.Laws.EntriesVeiled
import Derived.Test.YtlnbobclbaieoaaVJJ
import Derived.Test.YtlnbobclbaieoaaVJK
import Derived.Test.YtlnbobclbaieoaaVJF
set_option linter.unusedSimpArgs false
set_option maxRecDepth 100000
set_option maxHeartbeats 4000000
namespace Go.Proofs.Ytlnbobclbaieoaa
open Go.RowKit
/-- a walk that ends, and never panics or leaves -/
def Qn (K : Act → World → Prop) : Exit → Act → World → Prop
  | .normal, a, w => K a w
  | _, _, _ => False
def sA : Code → Code
  | .seq a _ => a
  | c => c
def sB : Code → Code
  | .seq _ b => b
  | c => c
def cZ : Code → Code
  | .block _ c => c
  | .loop c => c
  | c => c
/-- a graph's round, from its n-th statement on -/
noncomputable def gB (n : Nat) : Code := dropC n (cZ (sA (sB (sB (cZ (cZ (sB (sA (dropC 2 (Try.f6.body.getD .skip)))))))))) 
/-- a pair's round, from its n-th statement on -/
noncomputable def pB (n : Nat) : Code := dropC n (cZ (sA (sB (sB (cZ (cZ (sB (sA (gB 4)))))))))
theorem wp_Qn {C : Code} {Q : Exit → Act → World → Prop} {a : Act} {w : World} (h : Code.wp Try.prog C (Qn fun a w => Q .normal a w) a w) : Code.wp Try.prog C Q a w := wp_mono h (fun e a w h => by cases e <;> first | exact h | exact h.elim)
def FewF (C : Gr) : Prop := C.vs.length ≤ 24 ∧ C.es.length ≤ 1000 ∧ C.ds.length ≤ 1000
theorem FewF.small {C : Gr} (h : FewF C) : C.small := by obtain ⟨h1, h2, h3⟩ := h; unfold Gr.small; omega
theorem DL.uptoM {W : World} {a : Option Addr} {n c : Nat} {l : List Int} (h : DL W (.slice a n c) l) (hn : n = l.length) (m : Nat) : DL W (.slice a (min n m) c) (l.take m) ∧ n ≤ c := by
  subst hn; exact h.upto m
set_option maxRecDepth 1000000 in
set_option maxHeartbeats 8000000 in
theorem fm_side (q0 q1 q2 q3 q4 q5 q6 q8 q9 q10 q11 q12 q13 q14 q15 q16 q17 q18 q19 q20 q21 q23 q24 q25 q26 q27 q29 q30 q31 q32 q33 q34 q35 q36 q37 q38 q40 q41 q42 q43 q44 q45 q46 q47 q48 q49 q50 q51 q52 q53 q54 q55 q56 q57 q58 q59 q60 q61 q62 q63 q64 q65 q66 q67 q68 q69 q70 q71 q72 q73 q74 q75 q76 q77 q78 q79 q80 q81 q82 q83 q84 q85 q86 q87 q88 q89 q90 q91 q92 q93 q94 q95 q96 q97 q98 q99 q100 q101 q102 q103 q104 q105 q106 q107 q108 q109 q110 q111 q112 q113 q114 q115 q116 q117 q118 q119 q120 q121 q122 q123 q124 q125 q126 q127 q128 q129 q130 q131 q132 q133 q134 q135 q136 q137 q138 q139 q140 q141 q142 q143 q144 q145 q146 q147 q148 q149 q150 q151 q152 q153 q154 q155 q156 q157 q158 q159 q160 q161 q162 q163 q164 q165 q166 q167 q168 q169 q170 q171 q172 q173 q174 q175 q176 q177 q178 q179 q180 q181 q182 q183 q184 q185 q186 q187 q188 q189 q190 q191 q192 q193 q194 q195 q196 q197 q198 q199 q200 q201 q202 q203 q204 q205 q206 q207 q208 q209 q210 q211 q212 q213 q214 q215 q216 q217 q218 q219 q220 q221 q222 q223 q224 q225 q226 q227 q228 q229 q230 q231 q232 q233 q234 q235 q236 q237 q238 q239 q240 q241 q242 q243 q244 q245 q246 q247 q248 q249 q250 q251 q252 q253 q254 q255 q256 q257 q258 q259 q260 q261 q262 q263 q264 : Value) (K1 : Act → World → Prop) (w0 : World) (a b : Int) (p22 p28 : Nat) (C : Gr) (a1 a3 a5 : Option Addr) (e1 a2 e2 a4 e3 a6 : Nat) (hF : Hid (FewF C))
  (hg : Hid (∀ W, Below w0.heap.size w0 W → (W.cell? ⟨p22, 0, none⟩ = some (.slice a1 e1 a2) ∧ W.cell? ⟨p22, 1, none⟩ = some (.slice a3 e2 a4) ∧ W.cell? ⟨p22, 2, none⟩ = some (.slice a5 e3 a6)) ∧ GV W (.agg #[.slice a1 e1 a2, .slice a3 e2 a4, .slice a5 e3 a6]) C ∧ (W.cell? ⟨p28, 0, none⟩ = some (.int .i64 a) ∧ W.cell? ⟨p28, 1, none⟩ = some (.int .i64 b))))
  (sa wa : Option Addr) (SN sc WN wc : Nat) (side wl : List Int) (hs : Hid (DL w0 (.slice sa SN sc) side ∧ SN = side.length ∧ SN ≤ 9223372036854775807)) (hw : Hid (DL w0 (.slice wa WN wc) wl ∧ wl.length ≤ 1000))
  (hK1 : ∀ (r20 r44 r202 r203 r204 r205 r206 r207 r208 r209 r210 r211 r212 r213 r214 r215 r216 r217 r218 r219 r220 r221 r222 r223 r224 r225 r226 r227 r228 r229 : Value) (W : World), Below w0.heap.size w0 W → K1 ⟨(q0 :: q1 :: q2 :: q3 :: q4 :: q5 :: q6 :: .slice sa SN sc :: q8 :: q9 :: q10 :: q11 :: q12 :: q13 :: q14 :: q15 :: q16 :: q17 :: q18 :: q19 :: r20 :: q21 :: .pointer (some ⟨p22, 0, none⟩) :: q23 :: q24 :: q25 :: q26 :: q27 :: .pointer (some ⟨p28, 0, none⟩) :: q29 :: q30 :: q31 :: q32 :: q33 :: q34 :: q35 :: q36 :: q37 :: q38 :: .slice wa WN wc :: q40 :: q41 :: q42 :: q43 :: r44 :: q45 :: q46 :: q47 :: q48 :: q49 :: q50 :: q51 :: q52 :: q53 :: q54 :: q55 :: q56 :: q57 :: q58 :: q59 :: q60 :: q61 :: q62 :: q63 :: q64 :: q65 :: q66 :: q67 :: q68 :: q69 :: q70 :: q71 :: q72 :: q73 :: q74 :: q75 :: q76 :: q77 :: q78 :: q79 :: q80 :: q81 :: q82 :: q83 :: q84 :: q85 :: q86 :: q87 :: q88 :: q89 :: q90 :: q91 :: q92 :: q93 :: q94 :: q95 :: q96 :: q97 :: q98 :: q99 :: q100 :: q101 :: q102 :: q103 :: q104 :: q105 :: q106 :: q107 :: q108 :: q109 :: q110 :: q111 :: q112 :: q113 :: q114 :: q115 :: q116 :: q117 :: q118 :: q119 :: q120 :: q121 :: q122 :: q123 :: q124 :: q125 :: q126 :: q127 :: q128 :: q129 :: q130 :: q131 :: q132 :: q133 :: q134 :: q135 :: q136 :: q137 :: q138 :: q139 :: q140 :: q141 :: q142 :: q143 :: q144 :: q145 :: q146 :: q147 :: q148 :: q149 :: q150 :: q151 :: q152 :: q153 :: q154 :: q155 :: q156 :: q157 :: q158 :: q159 :: q160 :: q161 :: q162 :: q163 :: q164 :: q165 :: q166 :: q167 :: q168 :: q169 :: q170 :: q171 :: q172 :: q173 :: q174 :: q175 :: q176 :: q177 :: q178 :: q179 :: q180 :: q181 :: q182 :: q183 :: q184 :: q185 :: q186 :: q187 :: q188 :: q189 :: q190 :: q191 :: q192 :: q193 :: q194 :: q195 :: q196 :: q197 :: q198 :: q199 :: q200 :: q201 :: r202 :: r203 :: r204 :: r205 :: r206 :: r207 :: r208 :: r209 :: r210 :: r211 :: r212 :: r213 :: r214 :: r215 :: r216 :: r217 :: r218 :: r219 :: r220 :: r221 :: r222 :: r223 :: r224 :: r225 :: r226 :: r227 :: r228 :: r229 :: q230 :: q231 :: q232 :: q233 :: q234 :: q235 :: q236 :: q237 :: q238 :: q239 :: q240 :: q241 :: q242 :: q243 :: q244 :: q245 :: q246 :: q247 :: q248 :: q249 :: q250 :: q251 :: q252 :: q253 :: q254 :: q255 :: q256 :: q257 :: q258 :: q259 :: q260 :: q261 :: q262 :: q263 :: q264 :: []).toArray, []⟩ W) :
  Code.wp Try.prog (pB 9) (Qn K1) ⟨(q0 :: q1 :: q2 :: q3 :: q4 :: q5 :: q6 :: .slice sa SN sc :: q8 :: q9 :: q10 :: q11 :: q12 :: q13 :: q14 :: q15 :: q16 :: q17 :: q18 :: q19 :: q20 :: q21 :: .pointer (some ⟨p22, 0, none⟩) :: q23 :: q24 :: q25 :: q26 :: q27 :: .pointer (some ⟨p28, 0, none⟩) :: q29 :: q30 :: q31 :: q32 :: q33 :: q34 :: q35 :: q36 :: q37 :: q38 :: .slice wa WN wc :: q40 :: q41 :: q42 :: q43 :: q44 :: q45 :: q46 :: q47 :: q48 :: q49 :: q50 :: q51 :: q52 :: q53 :: q54 :: q55 :: q56 :: q57 :: q58 :: q59 :: q60 :: q61 :: q62 :: q63 :: q64 :: q65 :: q66 :: q67 :: q68 :: q69 :: q70 :: q71 :: q72 :: q73 :: q74 :: q75 :: q76 :: q77 :: q78 :: q79 :: q80 :: q81 :: q82 :: q83 :: q84 :: q85 :: q86 :: q87 :: q88 :: q89 :: q90 :: q91 :: q92 :: q93 :: q94 :: q95 :: q96 :: q97 :: q98 :: q99 :: q100 :: q101 :: q102 :: q103 :: q104 :: q105 :: q106 :: q107 :: q108 :: q109 :: q110 :: q111 :: q112 :: q113 :: q114 :: q115 :: q116 :: q117 :: q118 :: q119 :: q120 :: q121 :: q122 :: q123 :: q124 :: q125 :: q126 :: q127 :: q128 :: q129 :: q130 :: q131 :: q132 :: q133 :: q134 :: q135 :: q136 :: q137 :: q138 :: q139 :: q140 :: q141 :: q142 :: q143 :: q144 :: q145 :: q146 :: q147 :: q148 :: q149 :: q150 :: q151 :: q152 :: q153 :: q154 :: q155 :: q156 :: q157 :: q158 :: q159 :: q160 :: q161 :: q162 :: q163 :: q164 :: q165 :: q166 :: q167 :: q168 :: q169 :: q170 :: q171 :: q172 :: q173 :: q174 :: q175 :: q176 :: q177 :: q178 :: q179 :: q180 :: q181 :: q182 :: q183 :: q184 :: q185 :: q186 :: q187 :: q188 :: q189 :: q190 :: q191 :: q192 :: q193 :: q194 :: q195 :: q196 :: q197 :: q198 :: q199 :: q200 :: q201 :: q202 :: q203 :: q204 :: q205 :: q206 :: q207 :: q208 :: q209 :: q210 :: q211 :: q212 :: q213 :: q214 :: q215 :: q216 :: q217 :: q218 :: q219 :: q220 :: q221 :: q222 :: q223 :: q224 :: q225 :: q226 :: q227 :: q228 :: q229 :: q230 :: q231 :: q232 :: q233 :: q234 :: q235 :: q236 :: q237 :: q238 :: q239 :: q240 :: q241 :: q242 :: q243 :: q244 :: q245 :: q246 :: q247 :: q248 :: q249 :: q250 :: q251 :: q252 :: q253 :: q254 :: q255 :: q256 :: q257 :: q258 :: q259 :: q260 :: q261 :: q262 :: q263 :: q264 :: []).toArray, []⟩ w0 := by
  conv => arg 2; whnf
  replace hK1 := Lib.hid hK1
  obtain ⟨hs1, hs2, hs3⟩ := hs.out
  obtain ⟨hsd, hsc⟩ := hs1.uptoM hs2 12
  have hsl : (side.take 12).length ≤ 1000 := by rw [List.length_take]; omega
  obtain ⟨hw1, hw2⟩ := hw.out
  have m1 : ∀ ts t w, (Builtin.min_ ts t #[.int .i64 (SN : Int), .int .i64 12]).run Try.prog w = .ok (.int .i64 ((min SN 12 : Nat) : Int)) w := fun ts t w => mmin_run SN 12 ts t w 12 rfl
  have p1 : min SN 12 ≤ sc := by omega
  generalize side.take 12 = S12 at *
  generalize min SN 12 = M at *
  have hT := Lib.hid (fun W (BB : Below w0.heap.size w0 W) => And.intro (hg.out W BB).1 (hg.out W BB).2.2)
  have cP := Lib.hid (fun W (BB : Below w0.heap.size w0 W) v l (h : DL W v l) (hl : l.length ≤ 1000) => CheckSide_any _ C a b v l W (hg.out W BB).2.1 hF.out.small h (by omega) (by have := hF.out.2.1; omega))
  have cR := Lib.hid (fun W (BB : Below w0.heap.size w0 W) v l (h : DL W v l) (hl : l.length ≤ 1000) => CheckSideR_any _ C a b v l W (hg.out W BB).2.1 hF.out.small h (by omega) (by have := hF.out.2.1; omega))
  generalize ckSideC C a b = ck at *
  obtain ⟨w1, hw1'⟩ : ∃ W, W = w0.alloc (.cells #[.slice sa M sc, .slice wa WN wc] 26) := ⟨_, rfl⟩
  have hb1 : Below w0.heap.size w0 w1 := by rw [hw1']; exact (Below.refl _ w0).alloc (Nat.le_refl _) _
  have hrow : w1.heap[w0.heap.size]? = some (.cells #[.slice sa M sc, .slice wa WN wc] 26 (0, 0)) := by rw [hw1']; exact heap_alloc_new w0 _
  obtain ⟨p, hp⟩ : ∃ p, Hid (p = w0.heap.size) := ⟨_, rfl⟩
  rw [← hp.out] at hrow
  have hsel : ∀ k, k < 2 → ∃ f n c l, (∀ W, Below w1.heap.size w1 W → W.cell? ⟨p, k, none⟩ = some (.slice f n c) ∧ DL W (.slice f n c) l) ∧ l.length ≤ 1000 := by
    intro k hk
    have hrw := fun W (BB : Below w1.heap.size w1 W) => (BB.block p (Array.getElem?_eq_some_iff.1 hrow).1).trans hrow
    rcases (by omega : k = 0 ∨ k = 1) with rfl | rfl
    · exact ⟨_, _, _, S12, fun W BB => ⟨by rw [cell_of_row W p _ _ _ _ (hrw W BB)]; rfl, hsd.below (hb1.trans (BB.mono hb1.size))⟩, hsl⟩
    · exact ⟨_, _, _, wl, fun W BB => ⟨by rw [cell_of_row W p _ _ _ _ (hrw W BB)]; rfl, hw1.below (hb1.trans (BB.mono hb1.size))⟩, hw2⟩
  replace hsel := Lib.hid hsel
  have hfin := Lib.hid (show ∀ W, Below w1.heap.size w1 W → Below w0.heap.size w0 W from fun W BB => hb1.trans (BB.mono hb1.size))
  replace hw1' := Lib.hid hw1'
  clear hrow hb1 hs1 hs2 hs3 hsd hsc hsl hw1 hw2 hg hs hw hF
  go_wp2_with fail
  rw [← hw1'.out, ← hp.out]
  clear hw1'
  go_loopg [210] 2 (fun n iv wr => ∃ k : Nat, k + n = 2 ∧ iv = .int .i64 k ∧ Below w1.heap.size w1 wr)
  case atStart => exact ⟨0, rfl, rfl, Below.refl _ _⟩
  case round =>
    obtain ⟨k, hk, rfl, hb⟩ := hrel
    obtain ⟨wo, rfl⟩ : ∃ x, x = wr := ⟨_, rfl⟩
    cases gk with
    | zero =>
      have i1 : ¬ (k : Int) < 2 := by omega
      have hbb := Lib.hid hb
      clear hk hb
      go_wp2_with fail
      exact hK1.out _ _ _ _ _ _ _ _ _ _ _ _ _ _ _ _ _ _ _ _ _ _ _ _ _ _ _ _ _ _ _ (hfin.out _ hbb.out)
    | succ ga =>
      have i0 : (0 : Int) ≤ (k : Int) := by omega
      have i1 : (k : Int) < 2 := by omega
      have hle : Hid (k + 1 + ga = 2) := by show _ = _; omega
      obtain ⟨f, n, c, l, hx, hl⟩ := hsel.out k (by omega)
      obtain ⟨u0, _⟩ := hx wo hb
      have hdl := Lib.hid (fun W (BB : Below w1.heap.size w1 W) => (hx W BB).2)
      have hB := Lib.hid hb
      replace hl := Lib.hid hl
      clear hx hk hb
      go_upto_region 30 with (fail)
      clear u0
      refine q_region (fun W => Below w1.heap.size w1 W) (by kernel_rfl) (by kernel_rfl) (hB.out.drew) ?_
      repeat (first | (refine q_skip (by rfl) ?_; try simp only [Act.put, zT, z0, zS]) | (refine q_take (v := ?_) (by rfl) ?_ ?_; rotate_left; (first | ((intro w h; clear h; go_simp) <;> with_reducible rfl) | ((intro w h; obtain ⟨⟨y0, y1, y2⟩, y3, y4⟩ := hT.out w (hfin.out w h); clear h; go_simp) <;> with_reducible rfl)); try simp only [Act.put, zT, z0, zS]))
      refine q_call (v := _) Try.f16 (by rfl) rfl Try.func16 (by kernel_rfl) (by kernel_rfl) #[.agg #[.slice a1 e1 a2, .slice a3 e2 a4, .slice a5 e3 a6], .int .i64 a, .int .i64 b, .slice f n c] (by simp [Act.eval]) (fun w h => (cP.out w (hfin.out w h) _ l (hdl.out w h) hl.out).mono fun e w' ⟨he, hb⟩ => ⟨he, h.trans (hb.mono h.size)⟩) ?_; try simp only [Act.put, zT, z0, zS]
      repeat (first | (refine q_skip (by rfl) ?_; try simp only [Act.put, zT, z0, zS]) | (refine q_take (v := ?_) (by rfl) ?_ ?_; rotate_left; (first | ((intro w h; clear h; go_simp) <;> with_reducible rfl) | ((intro w h; obtain ⟨⟨y0, y1, y2⟩, y3, y4⟩ := hT.out w (hfin.out w h); clear h; go_simp) <;> with_reducible rfl)); try simp only [Act.put, zT, z0, zS]))
      refine q_call (v := _) Try.f29 (by rfl) rfl Try.func29 (by kernel_rfl) (by kernel_rfl) #[.agg #[.slice a1 e1 a2, .slice a3 e2 a4, .slice a5 e3 a6], .int .i64 a, .int .i64 b, .slice f n c] (by simp [Act.eval]) (fun w h => (cR.out w (hfin.out w h) _ l (hdl.out w h) hl.out).mono fun e w' ⟨he, hb⟩ => ⟨he, h.trans (hb.mono h.size)⟩) ?_; try simp only [Act.put, zT, z0, zS]
      refine q_take (v := .bool false) (by rfl) (fun w h => by clear h; go_simp) ?_
      try simp only [Act.put, zT, z0, zS]
      refine q_nil ?_
      intro w6 k6
      replace k6 := Lib.hid k6
      go_wp2_with fail
      go_roundg ga
      case measure => omega
      case rel => exact ⟨k + 1, hle.out, by go_num, k6.out⟩

end Go.Proofs.Ytlnbobclbaieoaa
/- Contracts and facts. -/
set_option linter.unusedSimpArgs false
set_option maxRecDepth 100000
set_option maxHeartbeats 4000000
namespace Go.Proofs.Ytlnbobclbaieoaa
open Go.RowKit
set_option maxRecDepth 1000000 in
set_option maxHeartbeats 8000000 in
theorem fm_path (q0 q1 q2 q3 q4 q5 q8 q9 q10 q11 q12 q13 q14 q15 q16 q17 q18 q19 q20 q21 q23 q24 q25 q26 q27 q29 q30 q31 q32 q33 q34 q36 q37 q38 q40 q41 q42 q43 q44 q45 q46 q47 q48 q49 q50 q51 q52 q53 q54 q55 q56 q57 q58 q59 q60 q61 q62 q63 q64 q65 q66 q67 q68 q69 q70 q71 q72 q73 q74 q75 q76 q77 q78 q79 q80 q81 q82 q83 q84 q85 q86 q87 q88 q89 q90 q91 q92 q93 q94 q95 q96 q97 q98 q99 q100 q101 q102 q103 q104 q105 q106 q107 q108 q109 q110 q111 q112 q113 q114 q115 q116 q117 q118 q119 q120 q121 q122 q123 q124 q125 q126 q127 q128 q129 q130 q131 q132 q133 q134 q135 q136 q137 q138 q139 q140 q141 q142 q143 q144 q145 q146 q147 q148 q149 q150 q151 q152 q153 q154 q155 q156 q157 q158 q159 q160 q161 q162 q163 q164 q165 q166 q167 q168 q169 q170 q171 q172 q173 q174 q175 q176 q177 q178 q179 q180 q181 q182 q183 q184 q185 q186 q187 q188 q189 q190 q191 q192 q193 q194 q195 q196 q197 q198 q199 q200 q201 q202 q203 q204 q205 q206 q207 q208 q209 q210 q211 q212 q213 q214 q215 q216 q217 q218 q219 q220 q221 q222 q223 q224 q225 q226 q227 q228 q229 q230 q231 q232 q233 q234 q235 q236 q237 q238 q239 q240 q241 q242 q243 q244 q245 q246 q247 q248 q249 q250 q251 q252 q253 q254 q255 q256 q257 q258 q259 q260 q261 q262 q263 q264 : Value) (K1 : Act → World → Prop) (w0 : World) (a b : Int) (p22 p28 : Nat) (C : Gr) (a1 a3 a5 : Option Addr) (e1 a2 e2 a4 e3 a6 : Nat) (hF : Hid (FewF C))
  (hg : Hid (∀ W, Below w0.heap.size w0 W → (W.cell? ⟨p22, 0, none⟩ = some (.slice a1 e1 a2) ∧ W.cell? ⟨p22, 1, none⟩ = some (.slice a3 e2 a4) ∧ W.cell? ⟨p22, 2, none⟩ = some (.slice a5 e3 a6)) ∧ GV W (.agg #[.slice a1 e1 a2, .slice a3 e2 a4, .slice a5 e3 a6]) C ∧ (W.cell? ⟨p28, 0, none⟩ = some (.int .i64 a) ∧ W.cell? ⟨p28, 1, none⟩ = some (.int .i64 b))))
  (sa wa ta da : Option Addr) (SN sc WN wc TN tc DN dc : Nat) (side wl path dl : List Int) (hs : Hid (∀ W, Below w0.heap.size w0 W → DL W (.slice sa SN sc) side ∧ SN = side.length ∧ SN ≤ 9223372036854775807)) (hw : Hid (∀ W, Below w0.heap.size w0 W → DL W (.slice wa WN wc) wl ∧ wl.length ≤ 1000))
  (ht : Hid (DL w0 (.slice ta TN tc) path ∧ TN = path.length ∧ TN ≤ 9223372036854775807)) (hd : Hid (DL w0 (.slice da DN dc) dl ∧ dl.length ≤ 1000))
  (hK1 : ∀ (r20 r42 r44 r174 r175 r176 r177 r178 r179 r180 r181 r182 r183 r184 r185 r186 r187 r188 r189 r190 r191 r192 r193 r194 r195 r196 r197 r198 r199 r200 r201 r202 r203 r204 r205 r206 r207 r208 r209 r210 r211 r212 r213 r214 r215 r216 r217 r218 r219 r220 r221 r222 r223 r224 r225 r226 r227 r228 r229 : Value) (W : World), Below w0.heap.size w0 W → K1 ⟨(q0 :: q1 :: q2 :: q3 :: q4 :: q5 :: .slice ta TN tc :: .slice sa SN sc :: q8 :: q9 :: q10 :: q11 :: q12 :: q13 :: q14 :: q15 :: q16 :: q17 :: q18 :: q19 :: r20 :: q21 :: .pointer (some ⟨p22, 0, none⟩) :: q23 :: q24 :: q25 :: q26 :: q27 :: .pointer (some ⟨p28, 0, none⟩) :: q29 :: q30 :: q31 :: q32 :: q33 :: q34 :: .slice da DN dc :: q36 :: q37 :: q38 :: .slice wa WN wc :: q40 :: q41 :: r42 :: q43 :: r44 :: q45 :: q46 :: q47 :: q48 :: q49 :: q50 :: q51 :: q52 :: q53 :: q54 :: q55 :: q56 :: q57 :: q58 :: q59 :: q60 :: q61 :: q62 :: q63 :: q64 :: q65 :: q66 :: q67 :: q68 :: q69 :: q70 :: q71 :: q72 :: q73 :: q74 :: q75 :: q76 :: q77 :: q78 :: q79 :: q80 :: q81 :: q82 :: q83 :: q84 :: q85 :: q86 :: q87 :: q88 :: q89 :: q90 :: q91 :: q92 :: q93 :: q94 :: q95 :: q96 :: q97 :: q98 :: q99 :: q100 :: q101 :: q102 :: q103 :: q104 :: q105 :: q106 :: q107 :: q108 :: q109 :: q110 :: q111 :: q112 :: q113 :: q114 :: q115 :: q116 :: q117 :: q118 :: q119 :: q120 :: q121 :: q122 :: q123 :: q124 :: q125 :: q126 :: q127 :: q128 :: q129 :: q130 :: q131 :: q132 :: q133 :: q134 :: q135 :: q136 :: q137 :: q138 :: q139 :: q140 :: q141 :: q142 :: q143 :: q144 :: q145 :: q146 :: q147 :: q148 :: q149 :: q150 :: q151 :: q152 :: q153 :: q154 :: q155 :: q156 :: q157 :: q158 :: q159 :: q160 :: q161 :: q162 :: q163 :: q164 :: q165 :: q166 :: q167 :: q168 :: q169 :: q170 :: q171 :: q172 :: q173 :: r174 :: r175 :: r176 :: r177 :: r178 :: r179 :: r180 :: r181 :: r182 :: r183 :: r184 :: r185 :: r186 :: r187 :: r188 :: r189 :: r190 :: r191 :: r192 :: r193 :: r194 :: r195 :: r196 :: r197 :: r198 :: r199 :: r200 :: r201 :: r202 :: r203 :: r204 :: r205 :: r206 :: r207 :: r208 :: r209 :: r210 :: r211 :: r212 :: r213 :: r214 :: r215 :: r216 :: r217 :: r218 :: r219 :: r220 :: r221 :: r222 :: r223 :: r224 :: r225 :: r226 :: r227 :: r228 :: r229 :: q230 :: q231 :: q232 :: q233 :: q234 :: q235 :: q236 :: q237 :: q238 :: q239 :: q240 :: q241 :: q242 :: q243 :: q244 :: q245 :: q246 :: q247 :: q248 :: q249 :: q250 :: q251 :: q252 :: q253 :: q254 :: q255 :: q256 :: q257 :: q258 :: q259 :: q260 :: q261 :: q262 :: q263 :: q264 :: []).toArray, []⟩ W) :
  Code.wp Try.prog (pB 8) (Qn K1) ⟨(q0 :: q1 :: q2 :: q3 :: q4 :: q5 :: .slice ta TN tc :: .slice sa SN sc :: q8 :: q9 :: q10 :: q11 :: q12 :: q13 :: q14 :: q15 :: q16 :: q17 :: q18 :: q19 :: q20 :: q21 :: .pointer (some ⟨p22, 0, none⟩) :: q23 :: q24 :: q25 :: q26 :: q27 :: .pointer (some ⟨p28, 0, none⟩) :: q29 :: q30 :: q31 :: q32 :: q33 :: q34 :: .slice da DN dc :: q36 :: q37 :: q38 :: .slice wa WN wc :: q40 :: q41 :: q42 :: q43 :: q44 :: q45 :: q46 :: q47 :: q48 :: q49 :: q50 :: q51 :: q52 :: q53 :: q54 :: q55 :: q56 :: q57 :: q58 :: q59 :: q60 :: q61 :: q62 :: q63 :: q64 :: q65 :: q66 :: q67 :: q68 :: q69 :: q70 :: q71 :: q72 :: q73 :: q74 :: q75 :: q76 :: q77 :: q78 :: q79 :: q80 :: q81 :: q82 :: q83 :: q84 :: q85 :: q86 :: q87 :: q88 :: q89 :: q90 :: q91 :: q92 :: q93 :: q94 :: q95 :: q96 :: q97 :: q98 :: q99 :: q100 :: q101 :: q102 :: q103 :: q104 :: q105 :: q106 :: q107 :: q108 :: q109 :: q110 :: q111 :: q112 :: q113 :: q114 :: q115 :: q116 :: q117 :: q118 :: q119 :: q120 :: q121 :: q122 :: q123 :: q124 :: q125 :: q126 :: q127 :: q128 :: q129 :: q130 :: q131 :: q132 :: q133 :: q134 :: q135 :: q136 :: q137 :: q138 :: q139 :: q140 :: q141 :: q142 :: q143 :: q144 :: q145 :: q146 :: q147 :: q148 :: q149 :: q150 :: q151 :: q152 :: q153 :: q154 :: q155 :: q156 :: q157 :: q158 :: q159 :: q160 :: q161 :: q162 :: q163 :: q164 :: q165 :: q166 :: q167 :: q168 :: q169 :: q170 :: q171 :: q172 :: q173 :: q174 :: q175 :: q176 :: q177 :: q178 :: q179 :: q180 :: q181 :: q182 :: q183 :: q184 :: q185 :: q186 :: q187 :: q188 :: q189 :: q190 :: q191 :: q192 :: q193 :: q194 :: q195 :: q196 :: q197 :: q198 :: q199 :: q200 :: q201 :: q202 :: q203 :: q204 :: q205 :: q206 :: q207 :: q208 :: q209 :: q210 :: q211 :: q212 :: q213 :: q214 :: q215 :: q216 :: q217 :: q218 :: q219 :: q220 :: q221 :: q222 :: q223 :: q224 :: q225 :: q226 :: q227 :: q228 :: q229 :: q230 :: q231 :: q232 :: q233 :: q234 :: q235 :: q236 :: q237 :: q238 :: q239 :: q240 :: q241 :: q242 :: q243 :: q244 :: q245 :: q246 :: q247 :: q248 :: q249 :: q250 :: q251 :: q252 :: q253 :: q254 :: q255 :: q256 :: q257 :: q258 :: q259 :: q260 :: q261 :: q262 :: q263 :: q264 :: []).toArray, []⟩ w0 := by
  refine wp_eq (D := .seq (sA (pB 8)) (pB 9)) (by kernel_rfl) (wp_seq_k fun K9 hK9 => ?_)
  replace hK9 := Lib.hid hK9
  conv => arg 2; whnf
  replace hK1 := Lib.hid hK1
  obtain ⟨hs1, hs2, hs3⟩ := ht.out
  obtain ⟨hsd, hsc⟩ := hs1.uptoM hs2 12
  have hsl : (path.take 12).length ≤ 1000 := by rw [List.length_take]; omega
  obtain ⟨hw1, hw2⟩ := hd.out
  have m1 : ∀ ts t w, (Builtin.min_ ts t #[.int .i64 (TN : Int), .int .i64 12]).run Try.prog w = .ok (.int .i64 ((min TN 12 : Nat) : Int)) w := fun ts t w => mmin_run TN 12 ts t w 12 rfl
  have p1 : min TN 12 ≤ tc := by omega
  generalize path.take 12 = S12 at *
  generalize min TN 12 = M at *
  have hT := Lib.hid (fun W (BB : Below w0.heap.size w0 W) => And.intro (hg.out W BB).1 (hg.out W BB).2.2)
  have cP := Lib.hid (fun W (BB : Below w0.heap.size w0 W) v l (h : DL W v l) (hl : l.length ≤ 1000) => CheckPath_any _ C a b v l W (hg.out W BB).2.1 hF.out.small h (by omega) (by have := hF.out.2.1; omega))
  have cR := Lib.hid (fun W (BB : Below w0.heap.size w0 W) v l (h : DL W v l) (hl : l.length ≤ 1000) => CheckPathR_any _ C a b v l W (hg.out W BB).2.1 hF.out.small h (by omega) (by have := hF.out.2.1; omega))
  generalize ckPathC C a b = ck at *
  obtain ⟨w1, hw1'⟩ : ∃ W, W = w0.alloc (.cells #[.slice ta M tc, .slice da DN dc, .slice none 0 0] 26) := ⟨_, rfl⟩
  have hb1 : Below w0.heap.size w0 w1 := by rw [hw1']; exact (Below.refl _ w0).alloc (Nat.le_refl _) _
  have hrow : w1.heap[w0.heap.size]? = some (.cells #[.slice ta M tc, .slice da DN dc, .slice none 0 0] 26 (0, 0)) := by rw [hw1']; exact heap_alloc_new w0 _
  obtain ⟨p, hp⟩ : ∃ p, Hid (p = w0.heap.size) := ⟨_, rfl⟩
  rw [← hp.out] at hrow
  have hsel : ∀ k, k < 3 → ∃ f n c l, (∀ W, Below w1.heap.size w1 W → W.cell? ⟨p, k, none⟩ = some (.slice f n c) ∧ DL W (.slice f n c) l) ∧ l.length ≤ 1000 := by
    intro k hk
    have hrw := fun W (BB : Below w1.heap.size w1 W) => (BB.block p (Array.getElem?_eq_some_iff.1 hrow).1).trans hrow
    rcases (by omega : k = 0 ∨ k = 1 ∨ k = 2) with rfl | rfl | rfl
    · exact ⟨_, _, _, S12, fun W BB => ⟨by rw [cell_of_row W p _ _ _ _ (hrw W BB)]; rfl, hsd.below (hb1.trans (BB.mono hb1.size))⟩, hsl⟩
    · exact ⟨_, _, _, dl, fun W BB => ⟨by rw [cell_of_row W p _ _ _ _ (hrw W BB)]; rfl, hw1.below (hb1.trans (BB.mono hb1.size))⟩, hw2⟩
    · exact ⟨_, _, _, [], fun W BB => ⟨by rw [cell_of_row W p _ _ _ _ (hrw W BB)]; rfl, .inl ⟨rfl, _, _, rfl⟩⟩, by simp⟩
  replace hsel := Lib.hid hsel
  have hfin := Lib.hid (show ∀ W, Below w1.heap.size w1 W → Below w0.heap.size w0 W from fun W BB => hb1.trans (BB.mono hb1.size))
  replace hw1' := Lib.hid hw1'
  clear hrow hb1 hs1 hs2 hs3 hsd hsc hsl hw1 hw2 ht hd
  go_wp2_with fail
  rw [← hw1'.out, ← hp.out]
  clear hw1'
  go_loopg [182] 3 (fun n iv wr => ∃ k : Nat, k + n = 3 ∧ iv = .int .i64 k ∧ Below w1.heap.size w1 wr)
  case atStart => exact ⟨0, rfl, rfl, Below.refl _ _⟩
  case round =>
    obtain ⟨k, hk, rfl, hb⟩ := hrel
    obtain ⟨wo, rfl⟩ : ∃ x, x = wr := ⟨_, rfl⟩
    cases gk with
    | zero =>
      have i1 : ¬ (k : Int) < 3 := by omega
      have hbb := Lib.hid (hfin.out _ hb)
      clear hk hb hT cP cR hsel
      go_wp2_with fail
      refine hK9.out _ _ ?_
      have hg9 := Lib.hid (fun W (BB : Below wo.heap.size wo W) => hg.out W (hbb.out.trans (BB.mono hbb.out.size)))
      refine fm_side _ _ _ _ _ _ _ _ _ _ _ _ _ _ _ _ _ _ _ _ _ _ _ _ _ _ _ _ _ _ _ _ _ _ _ _ _ _ _ _ _ _ _ _ _ _ _ _ _ _ _ _ _ _ _ _ _ _ _ _ _ _ _ _ _ _ _ _ _ _ _ _ _ _ _ _ _ _ _ _ _ _ _ _ _ _ _ _ _ _ _ _ _ _ _ _ _ _ _ _ _ _ _ _ _ _ _ _ _ _ _ _ _ _ _ _ _ _ _ _ _ _ _ _ _ _ _ _ _ _ _ _ _ _ _ _ _ _ _ _ _ _ _ _ _ _ _ _ _ _ _ _ _ _ _ _ _ _ _ _ _ _ _ _ _ _ _ _ _ _ _ _ _ _ _ _ _ _ _ _ _ _ _ _ _ _ _ _ _ _ _ _ _ _ _ _ _ _ _ _ _ _ _ _ _ _ _ _ _ _ _ _ _ _ _ _ _ _ _ _ _ _ _ _ _ _ _ _ _ _ _ _ _ _ _ _ _ _ _ _ _ _ _ _ _ _ _ _ _ _ _ _ _ _ _ _ _ _ _ _ _ _ wo a b p22 p28 C a1 a3 a5 e1 a2 e2 a4 e3 a6 hF hg9 sa wa SN sc WN wc side wl (Lib.hid (hs.out wo hbb.out)) (Lib.hid (hw.out wo hbb.out)) (fun _ _ _ _ _ _ _ _ _ _ _ _ _ _ _ _ _ _ _ _ _ _ _ _ _ _ _ _ _ _ W BB => ?_)
      exact hK1.out _ _ _ _ _ _ _ _ _ _ _ _ _ _ _ _ _ _ _ _ _ _ _ _ _ _ _ _ _ _ _ _ _ _ _ _ _ _ _ _ _ _ _ _ _ _ _ _ _ _ _ _ _ _ _ _ _ _ _ _ (hbb.out.trans (BB.mono hbb.out.size))
    | succ ga =>
      have i0 : (0 : Int) ≤ (k : Int) := by omega
      have i1 : (k : Int) < 3 := by omega
      have hle : Hid (k + 1 + ga = 3) := by show _ = _; omega
      obtain ⟨f, n, c, l, hx, hl⟩ := hsel.out k (by omega)
      obtain ⟨u0, _⟩ := hx wo hb
      have hdl := Lib.hid (fun W (BB : Below w1.heap.size w1 W) => (hx W BB).2)
      have hB := Lib.hid hb
      replace hl := Lib.hid hl
      clear hx hk hb
      go_upto_region 24 with (fail)
      clear u0
      refine q_region (fun W => Below w1.heap.size w1 W) (by kernel_rfl) (by kernel_rfl) (hB.out.drew) ?_
      repeat (first | (refine q_skip (by rfl) ?_; try simp only [Act.put, zT, z0, zS]) | (refine q_take (v := ?_) (by rfl) ?_ ?_; rotate_left; (first | ((intro w h; clear h; go_simp) <;> with_reducible rfl) | ((intro w h; obtain ⟨⟨y0, y1, y2⟩, y3, y4⟩ := hT.out w (hfin.out w h); clear h; go_simp) <;> with_reducible rfl)); try simp only [Act.put, zT, z0, zS]))
      refine q_call (v := _) Try.f15 (by rfl) rfl Try.func15 (by kernel_rfl) (by kernel_rfl) #[.agg #[.slice a1 e1 a2, .slice a3 e2 a4, .slice a5 e3 a6], .int .i64 a, .int .i64 b, .slice f n c] (by simp [Act.eval]) (fun w h => (cP.out w (hfin.out w h) _ l (hdl.out w h) hl.out).mono fun e w' ⟨he, hb⟩ => ⟨he, h.trans (hb.mono h.size)⟩) ?_; try simp only [Act.put, zT, z0, zS]
      repeat (first | (refine q_skip (by rfl) ?_; try simp only [Act.put, zT, z0, zS]) | (refine q_take (v := ?_) (by rfl) ?_ ?_; rotate_left; (first | ((intro w h; clear h; go_simp) <;> with_reducible rfl) | ((intro w h; obtain ⟨⟨y0, y1, y2⟩, y3, y4⟩ := hT.out w (hfin.out w h); clear h; go_simp) <;> with_reducible rfl)); try simp only [Act.put, zT, z0, zS]))
      refine q_call (v := _) Try.f28 (by rfl) rfl Try.func28 (by kernel_rfl) (by kernel_rfl) #[.agg #[.slice a1 e1 a2, .slice a3 e2 a4, .slice a5 e3 a6], .int .i64 a, .int .i64 b, .slice f n c] (by simp [Act.eval]) (fun w h => (cR.out w (hfin.out w h) _ l (hdl.out w h) hl.out).mono fun e w' ⟨he, hb⟩ => ⟨he, h.trans (hb.mono h.size)⟩) ?_; try simp only [Act.put, zT, z0, zS]
      refine q_take (v := .bool false) (by rfl) (fun w h => by clear h; go_simp) ?_
      try simp only [Act.put, zT, z0, zS]
      refine q_nil ?_
      intro w6 k6
      replace k6 := Lib.hid k6
      go_wp2_with fail
      go_roundg ga
      case measure => omega
      case rel => exact ⟨k + 1, hle.out, by go_num, k6.out⟩

end Go.Proofs.Ytlnbobclbaieoaa
/- Contracts and facts. -/
set_option linter.unusedSimpArgs false
set_option maxRecDepth 100000
set_option maxHeartbeats 4000000
namespace Go.Proofs.Ytlnbobclbaieoaa
open Go.RowKit
set_option maxRecDepth 1000000 in
set_option maxHeartbeats 8000000 in
theorem fm_cmp (q0 q1 q2 q3 q4 q5 q8 q9 q10 q11 q12 q13 q14 q15 q16 q17 q18 q19 q20 q21 q23 q24 q25 q26 q27 q41 q42 q43 q44 q45 q46 q47 q48 q49 q50 q51 q52 q53 q54 q55 q56 q57 q58 q59 q60 q61 q62 q63 q64 q65 q66 q67 q68 q69 q70 q71 q72 q73 q74 q75 q76 q77 q78 q79 q80 q81 q82 q83 q84 q85 q86 q87 q88 q89 q90 q91 q92 q93 q94 q95 q96 q97 q98 q99 q100 q101 q102 q103 q104 q105 q106 q107 q108 q109 q110 q111 q112 q113 q114 q115 q116 q117 q118 q119 q120 q121 q122 q123 q124 q125 q126 q127 q128 q129 q130 q131 q132 q133 q134 q135 q136 q137 q138 q139 q140 q141 q142 q143 q144 q145 q146 q147 q148 q149 q150 q151 q152 q153 q154 q155 q156 q157 q158 q159 q160 q161 q162 q163 q164 q165 q166 q167 q168 q169 q170 q171 q172 q173 q174 q175 q176 q177 q178 q179 q180 q181 q182 q183 q184 q185 q186 q187 q188 q189 q190 q191 q192 q193 q194 q195 q196 q197 q198 q199 q200 q201 q202 q203 q204 q205 q206 q207 q208 q209 q210 q211 q212 q213 q214 q215 q216 q217 q218 q219 q220 q221 q222 q223 q224 q225 q226 q227 q228 q229 q230 q231 q232 q233 q234 q235 q236 q237 q238 q239 q240 q241 q242 q243 q244 q245 q246 q247 q248 q249 q250 q251 q252 q253 q254 q255 q256 q257 q258 q259 q260 q261 q262 q263 q264 : Value) (K1 : Act → World → Prop) (w0 : World) (a b : Int) (p22 p28 : Nat) (C : Gr) (a1 a3 a5 : Option Addr) (e1 a2 e2 a4 e3 a6 : Nat) (hF : Hid (FewF C))
  (hg : Hid (∀ W, Below w0.heap.size w0 W → (W.cell? ⟨p22, 0, none⟩ = some (.slice a1 e1 a2) ∧ W.cell? ⟨p22, 1, none⟩ = some (.slice a3 e2 a4) ∧ W.cell? ⟨p22, 2, none⟩ = some (.slice a5 e3 a6)) ∧ GV W (.agg #[.slice a1 e1 a2, .slice a3 e2 a4, .slice a5 e3 a6]) C ∧ (W.cell? ⟨p28, 0, none⟩ = some (.int .i64 a) ∧ W.cell? ⟨p28, 1, none⟩ = some (.int .i64 b))))
  (sa wa ta da pa ua : Option Addr) (SN sc WN wc TN tc DN dc PN pc UN uc : Nat) (c1 : Bool) (x0 x1 x2 : Int) (side wl path dl : List Int) (hs : Hid (∀ W, Below w0.heap.size w0 W → DL W (.slice sa SN sc) side ∧ SN = side.length ∧ SN ≤ 9223372036854775807)) (hw : Hid (∀ W, Below w0.heap.size w0 W → DL W (.slice wa WN wc) wl ∧ DL W (.slice ua UN uc) wl ∧ wl.length ≤ 1000))
  (ht : Hid (∀ W, Below w0.heap.size w0 W → DL W (.slice ta TN tc) path ∧ TN = path.length ∧ TN ≤ 9223372036854775807)) (hd : Hid (∀ W, Below w0.heap.size w0 W → DL W (.slice da DN dc) dl ∧ DL W (.slice pa PN pc) dl ∧ dl.length ≤ 1000))
  (hK1 : ∀ (r20 r42 r44 r144 r145 r146 r147 r148 r149 r150 r151 r152 r153 r154 r155 r156 r157 r158 r159 r160 r161 r162 r163 r164 r165 r166 r167 r168 r169 r170 r171 r172 r173 r174 r175 r176 r177 r178 r179 r180 r181 r182 r183 r184 r185 r186 r187 r188 r189 r190 r191 r192 r193 r194 r195 r196 r197 r198 r199 r200 r201 r202 r203 r204 r205 r206 r207 r208 r209 r210 r211 r212 r213 r214 r215 r216 r217 r218 r219 r220 r221 r222 r223 r224 r225 r226 r227 r228 r229 : Value) (W : World), Below w0.heap.size w0 W → K1 ⟨(q0 :: q1 :: q2 :: q3 :: q4 :: q5 :: .slice ta TN tc :: .slice sa SN sc :: q8 :: q9 :: q10 :: q11 :: q12 :: q13 :: q14 :: q15 :: q16 :: q17 :: q18 :: q19 :: r20 :: q21 :: .pointer (some ⟨p22, 0, none⟩) :: q23 :: q24 :: q25 :: q26 :: q27 :: .pointer (some ⟨p28, 0, none⟩) :: .bool c1 :: .int .i64 x0 :: .bool c1 :: .int .i64 x0 :: .slice pa PN pc :: .int .i64 x1 :: .slice da DN dc :: .int .i64 x1 :: .slice ua UN uc :: .int .i64 x2 :: .slice wa WN wc :: .int .i64 x2 :: q41 :: r42 :: q43 :: r44 :: q45 :: q46 :: q47 :: q48 :: q49 :: q50 :: q51 :: q52 :: q53 :: q54 :: q55 :: q56 :: q57 :: q58 :: q59 :: q60 :: q61 :: q62 :: q63 :: q64 :: q65 :: q66 :: q67 :: q68 :: q69 :: q70 :: q71 :: q72 :: q73 :: q74 :: q75 :: q76 :: q77 :: q78 :: q79 :: q80 :: q81 :: q82 :: q83 :: q84 :: q85 :: q86 :: q87 :: q88 :: q89 :: q90 :: q91 :: q92 :: q93 :: q94 :: q95 :: q96 :: q97 :: q98 :: q99 :: q100 :: q101 :: q102 :: q103 :: q104 :: q105 :: q106 :: q107 :: q108 :: q109 :: q110 :: q111 :: q112 :: q113 :: q114 :: q115 :: q116 :: q117 :: q118 :: q119 :: q120 :: q121 :: q122 :: q123 :: q124 :: q125 :: q126 :: q127 :: q128 :: q129 :: q130 :: q131 :: q132 :: q133 :: q134 :: q135 :: q136 :: q137 :: q138 :: q139 :: q140 :: q141 :: q142 :: q143 :: r144 :: r145 :: r146 :: r147 :: r148 :: r149 :: r150 :: r151 :: r152 :: r153 :: r154 :: r155 :: r156 :: r157 :: r158 :: r159 :: r160 :: r161 :: r162 :: r163 :: r164 :: r165 :: r166 :: r167 :: r168 :: r169 :: r170 :: r171 :: r172 :: r173 :: r174 :: r175 :: r176 :: r177 :: r178 :: r179 :: r180 :: r181 :: r182 :: r183 :: r184 :: r185 :: r186 :: r187 :: r188 :: r189 :: r190 :: r191 :: r192 :: r193 :: r194 :: r195 :: r196 :: r197 :: r198 :: r199 :: r200 :: r201 :: r202 :: r203 :: r204 :: r205 :: r206 :: r207 :: r208 :: r209 :: r210 :: r211 :: r212 :: r213 :: r214 :: r215 :: r216 :: r217 :: r218 :: r219 :: r220 :: r221 :: r222 :: r223 :: r224 :: r225 :: r226 :: r227 :: r228 :: r229 :: q230 :: q231 :: q232 :: q233 :: q234 :: q235 :: q236 :: q237 :: q238 :: q239 :: q240 :: q241 :: q242 :: q243 :: q244 :: q245 :: q246 :: q247 :: q248 :: q249 :: q250 :: q251 :: q252 :: q253 :: q254 :: q255 :: q256 :: q257 :: q258 :: q259 :: q260 :: q261 :: q262 :: q263 :: q264 :: []).toArray, []⟩ W) :
  Code.wp Try.prog (pB 7) (Qn K1) ⟨(q0 :: q1 :: q2 :: q3 :: q4 :: q5 :: .slice ta TN tc :: .slice sa SN sc :: q8 :: q9 :: q10 :: q11 :: q12 :: q13 :: q14 :: q15 :: q16 :: q17 :: q18 :: q19 :: q20 :: q21 :: .pointer (some ⟨p22, 0, none⟩) :: q23 :: q24 :: q25 :: q26 :: q27 :: .pointer (some ⟨p28, 0, none⟩) :: .bool c1 :: .int .i64 x0 :: .bool c1 :: .int .i64 x0 :: .slice pa PN pc :: .int .i64 x1 :: .slice da DN dc :: .int .i64 x1 :: .slice ua UN uc :: .int .i64 x2 :: .slice wa WN wc :: .int .i64 x2 :: q41 :: q42 :: q43 :: q44 :: q45 :: q46 :: q47 :: q48 :: q49 :: q50 :: q51 :: q52 :: q53 :: q54 :: q55 :: q56 :: q57 :: q58 :: q59 :: q60 :: q61 :: q62 :: q63 :: q64 :: q65 :: q66 :: q67 :: q68 :: q69 :: q70 :: q71 :: q72 :: q73 :: q74 :: q75 :: q76 :: q77 :: q78 :: q79 :: q80 :: q81 :: q82 :: q83 :: q84 :: q85 :: q86 :: q87 :: q88 :: q89 :: q90 :: q91 :: q92 :: q93 :: q94 :: q95 :: q96 :: q97 :: q98 :: q99 :: q100 :: q101 :: q102 :: q103 :: q104 :: q105 :: q106 :: q107 :: q108 :: q109 :: q110 :: q111 :: q112 :: q113 :: q114 :: q115 :: q116 :: q117 :: q118 :: q119 :: q120 :: q121 :: q122 :: q123 :: q124 :: q125 :: q126 :: q127 :: q128 :: q129 :: q130 :: q131 :: q132 :: q133 :: q134 :: q135 :: q136 :: q137 :: q138 :: q139 :: q140 :: q141 :: q142 :: q143 :: q144 :: q145 :: q146 :: q147 :: q148 :: q149 :: q150 :: q151 :: q152 :: q153 :: q154 :: q155 :: q156 :: q157 :: q158 :: q159 :: q160 :: q161 :: q162 :: q163 :: q164 :: q165 :: q166 :: q167 :: q168 :: q169 :: q170 :: q171 :: q172 :: q173 :: q174 :: q175 :: q176 :: q177 :: q178 :: q179 :: q180 :: q181 :: q182 :: q183 :: q184 :: q185 :: q186 :: q187 :: q188 :: q189 :: q190 :: q191 :: q192 :: q193 :: q194 :: q195 :: q196 :: q197 :: q198 :: q199 :: q200 :: q201 :: q202 :: q203 :: q204 :: q205 :: q206 :: q207 :: q208 :: q209 :: q210 :: q211 :: q212 :: q213 :: q214 :: q215 :: q216 :: q217 :: q218 :: q219 :: q220 :: q221 :: q222 :: q223 :: q224 :: q225 :: q226 :: q227 :: q228 :: q229 :: q230 :: q231 :: q232 :: q233 :: q234 :: q235 :: q236 :: q237 :: q238 :: q239 :: q240 :: q241 :: q242 :: q243 :: q244 :: q245 :: q246 :: q247 :: q248 :: q249 :: q250 :: q251 :: q252 :: q253 :: q254 :: q255 :: q256 :: q257 :: q258 :: q259 :: q260 :: q261 :: q262 :: q263 :: q264 :: []).toArray, []⟩ w0 := by
  refine wp_eq (D := .seq (sA (pB 7)) (pB 8)) (by kernel_rfl) (wp_seq_k fun K9 hK9 => ?_)
  replace hK9 := Lib.hid hK9
  conv => arg 2; whnf
  replace hK1 := Lib.hid hK1
  have n1 : (c1 != c1) = false := by simp
  have n2 : (x0 != x0) = false := by simp
  have n3 : (x1 != x1) = false := by simp
  have n4 : (x2 != x2) = false := by simp
  have cI1 := Lib.hid (fun W (BB : Below w0.heap.size w0 W) => Ints_any _ _ dl dl W (hd.out W BB).2.1 (hd.out W BB).1 (by have := (hd.out W BB).2.2; omega) (by have := (hd.out W BB).2.2; omega))
  have cI2 := Lib.hid (fun W (BB : Below w0.heap.size w0 W) => Ints_any _ _ wl wl W (hw.out W BB).2.1 (hw.out W BB).1 (by have := (hw.out W BB).2.2; omega) (by have := (hw.out W BB).2.2; omega))
  rw [decide_eq_true rfl] at cI1 cI2
  go_wp2_with fail
  refine (cI1.out w0 (Below.refl _ _)).mono ?_
  rintro e w2 ⟨rfl, b2⟩
  have B2 := Lib.hid b2
  clear b2
  go_wp2_with fail
  refine (cI2.out w2 B2.out).mono ?_
  rintro e w3 ⟨rfl, b3⟩
  have B3 := Lib.hid (B2.out.trans (b3.mono B2.out.size))
  clear b3 cI1 cI2
  go_wp2_with fail
  refine hK9.out _ _ ?_
  have hg9 := Lib.hid (fun W (BB : Below w3.heap.size w3 W) => hg.out W (B3.out.trans (BB.mono B3.out.size)))
  refine fm_path _ _ _ _ _ _ _ _ _ _ _ _ _ _ _ _ _ _ _ _ _ _ _ _ _ _ _ _ _ _ _ _ _ _ _ _ _ _ _ _ _ _ _ _ _ _ _ _ _ _ _ _ _ _ _ _ _ _ _ _ _ _ _ _ _ _ _ _ _ _ _ _ _ _ _ _ _ _ _ _ _ _ _ _ _ _ _ _ _ _ _ _ _ _ _ _ _ _ _ _ _ _ _ _ _ _ _ _ _ _ _ _ _ _ _ _ _ _ _ _ _ _ _ _ _ _ _ _ _ _ _ _ _ _ _ _ _ _ _ _ _ _ _ _ _ _ _ _ _ _ _ _ _ _ _ _ _ _ _ _ _ _ _ _ _ _ _ _ _ _ _ _ _ _ _ _ _ _ _ _ _ _ _ _ _ _ _ _ _ _ _ _ _ _ _ _ _ _ _ _ _ _ _ _ _ _ _ _ _ _ _ _ _ _ _ _ _ _ _ _ _ _ _ _ _ _ _ _ _ _ _ _ _ _ _ _ _ _ _ _ _ _ _ _ _ _ _ _ _ _ _ _ _ _ _ _ _ _ _ _ w3 a b p22 p28 C a1 a3 a5 e1 a2 e2 a4 e3 a6 hF hg9 sa wa ta da SN sc WN wc TN tc DN dc side wl path dl
    (Lib.hid fun W BB => hs.out W (B3.out.trans (BB.mono B3.out.size))) (Lib.hid fun W BB => ⟨(hw.out W (B3.out.trans (BB.mono B3.out.size))).1, (hw.out W (B3.out.trans (BB.mono B3.out.size))).2.2⟩)
    (Lib.hid (ht.out w3 B3.out)) (Lib.hid ⟨(hd.out w3 B3.out).1, (hd.out w3 B3.out).2.2⟩) (fun _ _ _ _ _ _ _ _ _ _ _ _ _ _ _ _ _ _ _ _ _ _ _ _ _ _ _ _ _ _ _ _ _ _ _ _ _ _ _ _ _ _ _ _ _ _ _ _ _ _ _ _ _ _ _ _ _ _ _ W BB => ?_)
  exact hK1.out _ _ _ _ _ _ _ _ _ _ _ _ _ _ _ _ _ _ _ _ _ _ _ _ _ _ _ _ _ _ _ _ _ _ _ _ _ _ _ _ _ _ _ _ _ _ _ _ _ _ _ _ _ _ _ _ _ _ _ _ _ _ _ _ _ _ _ _ _ _ _ _ _ _ _ _ _ _ _ _ _ _ _ _ _ _ _ _ _ _ (B3.out.trans (BB.mono B3.out.size))

end Go.Proofs.Ytlnbobclbaieoaa
/- Contracts and facts. -/
set_option linter.unusedSimpArgs false
set_option maxRecDepth 100000
set_option maxHeartbeats 4000000
namespace Go.Proofs.Ytlnbobclbaieoaa
open Go.RowKit
theorem path_len1000 (g : Gr) (a b : Int) : (pathC g a b).1.length ≤ 1000 := by
  unfold pathC
  split
  · next h =>
    obtain ⟨ho, ha, hb, hr⟩ := conn_true h
    have G := good_of ho
    have := walk_len (path_walk G.1 G.2.1 ha hb hr)
    have h2 := G.2.2.1
    show (pathF g.es (mF g) a b).length ≤ 1000
    omega
  · simp
theorem side_len1000 {g : Gr} (h : g.vs.length ≤ 24) (a : Int) : (sideC g a).1.length ≤ 1000 := by
  unfold sideC
  split
  · show (sideF (growF g.es (keysV g.vs)) (keysV g.vs) a).length ≤ 1000
    unfold sideF
    refine Nat.le_trans (List.length_filter_le _ _) ?_
    unfold keysV; rw [List.length_map]; omega
  · simp
set_option maxRecDepth 1000000 in
set_option maxHeartbeats 8000000 in
theorem fm_pair (q0 q1 q2 q3 q4 q5 q8 q9 q10 q11 q12 q13 q14 q15 q16 q17 q18 q19 q20 q21 q23 q24 q25 q26 q27 q29 q30 q31 q32 q33 q34 q35 q36 q37 q38 q39 q40 q41 q42 q43 q44 q45 q46 q47 q48 q49 q50 q51 q52 q53 q54 q55 q56 q57 q58 q59 q60 q61 q62 q63 q64 q65 q66 q67 q68 q69 q70 q71 q72 q73 q74 q75 q76 q77 q78 q79 q80 q81 q82 q83 q84 q85 q86 q87 q88 q89 q90 q91 q92 q93 q94 q95 q96 q97 q98 q99 q100 q101 q102 q103 q104 q105 q106 q107 q108 q109 q110 q111 q112 q113 q114 q115 q116 q117 q118 q119 q120 q121 q122 q123 q124 q125 q126 q127 q128 q129 q130 q131 q132 q133 q134 q135 q136 q137 q138 q139 q140 q141 q142 q143 q144 q145 q146 q147 q148 q149 q150 q151 q152 q153 q154 q155 q156 q157 q158 q159 q160 q161 q162 q163 q164 q165 q166 q167 q168 q169 q170 q171 q172 q173 q174 q175 q176 q177 q178 q179 q180 q181 q182 q183 q184 q185 q186 q187 q188 q189 q190 q191 q192 q193 q194 q195 q196 q197 q198 q199 q200 q201 q202 q203 q204 q205 q206 q207 q208 q209 q210 q211 q212 q213 q214 q215 q216 q217 q218 q219 q220 q221 q222 q223 q224 q225 q226 q227 q228 q229 q230 q231 q232 q233 q234 q235 q236 q237 q238 q239 q240 q241 q242 q243 q244 q245 q246 q247 q248 q249 q250 q251 q252 q253 q254 q255 q256 q257 q258 q259 q260 q261 q262 q263 q264 : Value) (K1 : Act → World → Prop) (w0 : World) (a b : Int) (p22 p28 : Nat) (C : Gr) (a1 a3 a5 : Option Addr) (e1 a2 e2 a4 e3 a6 : Nat) (hF : Hid (FewF C))
  (hg : Hid (∀ W, Below w0.heap.size w0 W → (W.cell? ⟨p22, 0, none⟩ = some (.slice a1 e1 a2) ∧ W.cell? ⟨p22, 1, none⟩ = some (.slice a3 e2 a4) ∧ W.cell? ⟨p22, 2, none⟩ = some (.slice a5 e3 a6)) ∧ GV W (.agg #[.slice a1 e1 a2, .slice a3 e2 a4, .slice a5 e3 a6]) C ∧ (W.cell? ⟨p28, 0, none⟩ = some (.int .i64 a) ∧ W.cell? ⟨p28, 1, none⟩ = some (.int .i64 b))))
  (sa ta : Option Addr) (SN sc TN tc : Nat) (side path : List Int)
  (hs : Hid (∀ W, Below w0.heap.size w0 W → DL W (.slice sa SN sc) side ∧ SN = side.length ∧ SN ≤ 9223372036854775807))
  (ht : Hid (∀ W, Below w0.heap.size w0 W → DL W (.slice ta TN tc) path ∧ TN = path.length ∧ TN ≤ 9223372036854775807))
  (hK1 : ∀ (r20 r29 r30 r31 r32 r33 r34 r35 r36 r37 r38 r39 r40 r42 r44 r94 r95 r96 r97 r98 r99 r100 r101 r102 r103 r104 r105 r106 r107 r108 r109 r110 r111 r112 r113 r114 r115 r116 r117 r118 r119 r120 r121 r122 r123 r124 r125 r126 r127 r128 r129 r130 r131 r132 r133 r134 r135 r136 r137 r138 r139 r140 r141 r142 r143 r144 r145 r146 r147 r148 r149 r150 r151 r152 r153 r154 r155 r156 r157 r158 r159 r160 r161 r162 r163 r164 r165 r166 r167 r168 r169 r170 r171 r172 r173 r174 r175 r176 r177 r178 r179 r180 r181 r182 r183 r184 r185 r186 r187 r188 r189 r190 r191 r192 r193 r194 r195 r196 r197 r198 r199 r200 r201 r202 r203 r204 r205 r206 r207 r208 r209 r210 r211 r212 r213 r214 r215 r216 r217 r218 r219 r220 r221 r222 r223 r224 r225 r226 r227 r228 r229 : Value) (W : World), Below w0.heap.size w0 W → K1 ⟨(q0 :: q1 :: q2 :: q3 :: q4 :: q5 :: .slice ta TN tc :: .slice sa SN sc :: q8 :: q9 :: q10 :: q11 :: q12 :: q13 :: q14 :: q15 :: q16 :: q17 :: q18 :: q19 :: r20 :: q21 :: .pointer (some ⟨p22, 0, none⟩) :: q23 :: q24 :: q25 :: q26 :: q27 :: .pointer (some ⟨p28, 0, none⟩) :: r29 :: r30 :: r31 :: r32 :: r33 :: r34 :: r35 :: r36 :: r37 :: r38 :: r39 :: r40 :: q41 :: r42 :: q43 :: r44 :: q45 :: q46 :: q47 :: q48 :: q49 :: q50 :: q51 :: q52 :: q53 :: q54 :: q55 :: q56 :: q57 :: q58 :: q59 :: q60 :: q61 :: q62 :: q63 :: q64 :: q65 :: q66 :: q67 :: q68 :: q69 :: q70 :: q71 :: q72 :: q73 :: q74 :: q75 :: q76 :: q77 :: q78 :: q79 :: q80 :: q81 :: q82 :: q83 :: q84 :: q85 :: q86 :: q87 :: q88 :: q89 :: q90 :: q91 :: q92 :: q93 :: r94 :: r95 :: r96 :: r97 :: r98 :: r99 :: r100 :: r101 :: r102 :: r103 :: r104 :: r105 :: r106 :: r107 :: r108 :: r109 :: r110 :: r111 :: r112 :: r113 :: r114 :: r115 :: r116 :: r117 :: r118 :: r119 :: r120 :: r121 :: r122 :: r123 :: r124 :: r125 :: r126 :: r127 :: r128 :: r129 :: r130 :: r131 :: r132 :: r133 :: r134 :: r135 :: r136 :: r137 :: r138 :: r139 :: r140 :: r141 :: r142 :: r143 :: r144 :: r145 :: r146 :: r147 :: r148 :: r149 :: r150 :: r151 :: r152 :: r153 :: r154 :: r155 :: r156 :: r157 :: r158 :: r159 :: r160 :: r161 :: r162 :: r163 :: r164 :: r165 :: r166 :: r167 :: r168 :: r169 :: r170 :: r171 :: r172 :: r173 :: r174 :: r175 :: r176 :: r177 :: r178 :: r179 :: r180 :: r181 :: r182 :: r183 :: r184 :: r185 :: r186 :: r187 :: r188 :: r189 :: r190 :: r191 :: r192 :: r193 :: r194 :: r195 :: r196 :: r197 :: r198 :: r199 :: r200 :: r201 :: r202 :: r203 :: r204 :: r205 :: r206 :: r207 :: r208 :: r209 :: r210 :: r211 :: r212 :: r213 :: r214 :: r215 :: r216 :: r217 :: r218 :: r219 :: r220 :: r221 :: r222 :: r223 :: r224 :: r225 :: r226 :: r227 :: r228 :: r229 :: q230 :: q231 :: q232 :: q233 :: q234 :: q235 :: q236 :: q237 :: q238 :: q239 :: q240 :: q241 :: q242 :: q243 :: q244 :: q245 :: q246 :: q247 :: q248 :: q249 :: q250 :: q251 :: q252 :: q253 :: q254 :: q255 :: q256 :: q257 :: q258 :: q259 :: q260 :: q261 :: q262 :: q263 :: q264 :: []).toArray, []⟩ W) :
  Code.wp Try.prog (pB 1) (Qn K1) ⟨(q0 :: q1 :: q2 :: q3 :: q4 :: q5 :: .slice ta TN tc :: .slice sa SN sc :: q8 :: q9 :: q10 :: q11 :: q12 :: q13 :: q14 :: q15 :: q16 :: q17 :: q18 :: q19 :: q20 :: q21 :: .pointer (some ⟨p22, 0, none⟩) :: q23 :: q24 :: q25 :: q26 :: q27 :: .pointer (some ⟨p28, 0, none⟩) :: q29 :: q30 :: q31 :: q32 :: q33 :: q34 :: q35 :: q36 :: q37 :: q38 :: q39 :: q40 :: q41 :: q42 :: q43 :: q44 :: q45 :: q46 :: q47 :: q48 :: q49 :: q50 :: q51 :: q52 :: q53 :: q54 :: q55 :: q56 :: q57 :: q58 :: q59 :: q60 :: q61 :: q62 :: q63 :: q64 :: q65 :: q66 :: q67 :: q68 :: q69 :: q70 :: q71 :: q72 :: q73 :: q74 :: q75 :: q76 :: q77 :: q78 :: q79 :: q80 :: q81 :: q82 :: q83 :: q84 :: q85 :: q86 :: q87 :: q88 :: q89 :: q90 :: q91 :: q92 :: q93 :: q94 :: q95 :: q96 :: q97 :: q98 :: q99 :: q100 :: q101 :: q102 :: q103 :: q104 :: q105 :: q106 :: q107 :: q108 :: q109 :: q110 :: q111 :: q112 :: q113 :: q114 :: q115 :: q116 :: q117 :: q118 :: q119 :: q120 :: q121 :: q122 :: q123 :: q124 :: q125 :: q126 :: q127 :: q128 :: q129 :: q130 :: q131 :: q132 :: q133 :: q134 :: q135 :: q136 :: q137 :: q138 :: q139 :: q140 :: q141 :: q142 :: q143 :: q144 :: q145 :: q146 :: q147 :: q148 :: q149 :: q150 :: q151 :: q152 :: q153 :: q154 :: q155 :: q156 :: q157 :: q158 :: q159 :: q160 :: q161 :: q162 :: q163 :: q164 :: q165 :: q166 :: q167 :: q168 :: q169 :: q170 :: q171 :: q172 :: q173 :: q174 :: q175 :: q176 :: q177 :: q178 :: q179 :: q180 :: q181 :: q182 :: q183 :: q184 :: q185 :: q186 :: q187 :: q188 :: q189 :: q190 :: q191 :: q192 :: q193 :: q194 :: q195 :: q196 :: q197 :: q198 :: q199 :: q200 :: q201 :: q202 :: q203 :: q204 :: q205 :: q206 :: q207 :: q208 :: q209 :: q210 :: q211 :: q212 :: q213 :: q214 :: q215 :: q216 :: q217 :: q218 :: q219 :: q220 :: q221 :: q222 :: q223 :: q224 :: q225 :: q226 :: q227 :: q228 :: q229 :: q230 :: q231 :: q232 :: q233 :: q234 :: q235 :: q236 :: q237 :: q238 :: q239 :: q240 :: q241 :: q242 :: q243 :: q244 :: q245 :: q246 :: q247 :: q248 :: q249 :: q250 :: q251 :: q252 :: q253 :: q254 :: q255 :: q256 :: q257 :: q258 :: q259 :: q260 :: q261 :: q262 :: q263 :: q264 :: []).toArray, []⟩ w0 := by
  conv => arg 2; whnf
  replace hK1 := Lib.hid hK1
  obtain ⟨w1, hw1⟩ : ∃ W, W = w0 := ⟨_, rfl⟩
  have hgb := hg
  have hbb : Hid (Below w0.heap.size w0 w1) := by show Below _ _ _; rw [hw1]; exact Below.refl _ _
  rw [← hw1] at hgb ⊢
  have hT := Lib.hid (fun W (BB : Below w1.heap.size w1 W) => And.intro (hgb.out W BB).1 (hgb.out W BB).2.2)
  have cA := Lib.hid (fun W (BB : Below w1.heap.size w1 W) => Connected_any _ C a b W (hgb.out W BB).2.1 hF.out.small)
  have cB := Lib.hid (fun W (BB : Below w1.heap.size w1 W) => ConnR_any _ C a b W (hgb.out W BB).2.1 hF.out.small)
  have cC := Lib.hid (fun W (BB : Below w1.heap.size w1 W) => Path_any _ C a b W (hgb.out W BB).2.1 hF.out.small)
  have cD := Lib.hid (fun W (BB : Below w1.heap.size w1 W) => PathR_any _ C a b W (hgb.out W BB).2.1 hF.out.small)
  have cE := Lib.hid (fun W (BB : Below w1.heap.size w1 W) => Side_any _ C a W (hgb.out W BB).2.1 hF.out.small)
  have cF := Lib.hid (fun W (BB : Below w1.heap.size w1 W) => SideR_any _ C a W (hgb.out W BB).2.1 hF.out.small)
  have hPl := Lib.hid (path_len1000 C a b)
  have hSl := Lib.hid (side_len1000 hF.out.1 a)
  generalize connF C a b = cc at *
  generalize pathC C a b = pc at *
  generalize sideC C a = sc' at *
  obtain ⟨c1, x0⟩ := cc
  obtain ⟨dl, x1⟩ := pc
  obtain ⟨wl, x2⟩ := sc'
  simp only at *
  replace hw1 := Lib.hid hw1
  clear hg
  have K1 := Lib.hid (Below.refl w1.heap.size w1)
  obtain ⟨⟨y0, y1, y2⟩, y3, y4⟩ := hT.out w1 K1.out
  go_wp2_with fail
  refine (cA.out w1 K1.out).mono ?_
  rintro e w2 ⟨rfl, b2⟩
  have K2 := Lib.hid (K1.out.trans (b2.mono K1.out.size))
  clear b2 y0 y1 y2 y3 y4
  obtain ⟨⟨y0, y1, y2⟩, y3, y4⟩ := hT.out w2 K2.out
  go_wp2_with fail
  refine (cB.out w2 K2.out).mono ?_
  rintro e w3 ⟨rfl, b3⟩
  have K3 := Lib.hid (K2.out.trans (b3.mono K2.out.size))
  clear b3 y0 y1 y2 y3 y4
  obtain ⟨⟨y0, y1, y2⟩, y3, y4⟩ := hT.out w3 K3.out
  go_wp2_with fail
  refine (cC.out w3 K3.out).mono ?_
  rintro e w4 ⟨r1, rfl, o1, b4⟩
  have K4 := Lib.hid (K3.out.trans (b4.mono K3.out.size))
  replace o1 := Lib.hid o1
  clear b4 y0 y1 y2 y3 y4
  obtain ⟨⟨y0, y1, y2⟩, y3, y4⟩ := hT.out w4 K4.out
  go_wp2_with fail
  refine (cD.out w4 K4.out).mono ?_
  rintro e w5 ⟨r2, rfl, o2, b5⟩
  have K5 := Lib.hid (K4.out.trans (b5.mono K4.out.size))
  replace o1 := Lib.hid (own_below o1.out b5)
  replace o2 := Lib.hid o2
  clear b5 y0 y1 y2 y3 y4
  obtain ⟨⟨y0, y1, y2⟩, y3, y4⟩ := hT.out w5 K5.out
  go_wp2_with fail
  refine (cE.out w5 K5.out).mono ?_
  rintro e w6 ⟨r3, rfl, o3, b6⟩
  have K6 := Lib.hid (K5.out.trans (b6.mono K5.out.size))
  replace o1 := Lib.hid (own_below o1.out b6)
  replace o2 := Lib.hid (own_below o2.out b6)
  replace o3 := Lib.hid o3
  clear b6 y0 y1 y2 y3 y4
  obtain ⟨⟨y0, y1, y2⟩, y3, y4⟩ := hT.out w6 K6.out
  go_upto_region 18 with (fail)
  rename_i K0 hK0
  replace hK0 := Lib.hid hK0
  go_wp2_with fail
  refine (cF.out w6 K6.out).mono ?_
  rintro e w7 ⟨r4, rfl, o4, b7⟩
  have K7 := Lib.hid (K6.out.trans (b7.mono K6.out.size))
  replace o1 := Lib.hid (own_below o1.out b7)
  replace o2 := Lib.hid (own_below o2.out b7)
  replace o3 := Lib.hid (own_below o3.out b7)
  replace o4 := Lib.hid o4
  clear b7 y0 y1 y2 y3 y4
  have D1 := (OwnI.DL o1.out)
  have D2 := (OwnI.DL o2.out)
  have D3 := (OwnI.DL o3.out)
  have D4 := (OwnI.DL o4.out)
  obtain ⟨pa, pc, rfl⟩ := D1.shape
  obtain ⟨da, dc, rfl⟩ := D2.shape
  obtain ⟨ua, uc, rfl⟩ := D3.shape
  obtain ⟨wa, wc, rfl⟩ := D4.shape
  replace D1 := Lib.hid D1
  replace D2 := Lib.hid D2
  replace D3 := Lib.hid D3
  replace D4 := Lib.hid D4
  clear o1 o2 o3 o4 cA cB cC cD cE cF hT
  go_wp2_with fail
  refine hK0.out _ _ ?_
  refine wp_eq (D := pB 7) (by kernel_rfl) ?_
  refine fm_cmp _ _ _ _ _ _ _ _ _ _ _ _ _ _ _ _ _ _ _ _ _ _ _ _ _ _ _ _ _ _ _ _ _ _ _ _ _ _ _ _ _ _ _ _ _ _ _ _ _ _ _ _ _ _ _ _ _ _ _ _ _ _ _ _ _ _ _ _ _ _ _ _ _ _ _ _ _ _ _ _ _ _ _ _ _ _ _ _ _ _ _ _ _ _ _ _ _ _ _ _ _ _ _ _ _ _ _ _ _ _ _ _ _ _ _ _ _ _ _ _ _ _ _ _ _ _ _ _ _ _ _ _ _ _ _ _ _ _ _ _ _ _ _ _ _ _ _ _ _ _ _ _ _ _ _ _ _ _ _ _ _ _ _ _ _ _ _ _ _ _ _ _ _ _ _ _ _ _ _ _ _ _ _ _ _ _ _ _ _ _ _ _ _ _ _ _ _ _ _ _ _ _ _ _ _ _ _ _ _ _ _ _ _ _ _ _ _ _ _ _ _ _ _ _ _ _ _ _ _ _ _ _ _ _ _ _ _ _ _ _ _ _ _ _ _ _ _ _ _ _ w7 a b p22 p28 C a1 a3 a5 e1 a2 e2 a4 e3 a6 hF (Lib.hid fun W BB => hgb.out W (K7.out.trans (BB.mono K7.out.size))) sa wa ta da pa ua SN sc wl.length wc TN tc dl.length dc dl.length pc wl.length uc c1 x0 x1 x2 side wl path dl
    (Lib.hid fun W BB => hs.out W (hbb.out.trans ((K7.out.trans (BB.mono K7.out.size)).mono hbb.out.size))) (Lib.hid fun W BB => ⟨D4.out.below BB, D3.out.below BB, hSl.out⟩)
    (Lib.hid fun W BB => ht.out W (hbb.out.trans ((K7.out.trans (BB.mono K7.out.size)).mono hbb.out.size))) (Lib.hid fun W BB => ⟨D2.out.below BB, D1.out.below BB, hPl.out⟩) (fun _ _ _ _ _ _ _ _ _ _ _ _ _ _ _ _ _ _ _ _ _ _ _ _ _ _ _ _ _ _ _ _ _ _ _ _ _ _ _ _ _ _ _ _ _ _ _ _ _ _ _ _ _ _ _ _ _ _ _ _ _ _ _ _ _ _ _ _ _ _ _ _ _ _ _ _ _ _ _ _ _ _ _ _ _ _ _ _ _ W BB => ?_)
  exact hK1.out _ _ _ _ _ _ _ _ _ _ _ _ _ _ _ _ _ _ _ _ _ _ _ _ _ _ _ _ _ _ _ _ _ _ _ _ _ _ _ _ _ _ _ _ _ _ _ _ _ _ _ _ _ _ _ _ _ _ _ _ _ _ _ _ _ _ _ _ _ _ _ _ _ _ _ _ _ _ _ _ _ _ _ _ _ _ _ _ _ _ _ _ _ _ _ _ _ _ _ _ _ _ _ _ _ _ _ _ _ _ _ _ _ _ _ _ _ _ _ _ _ _ _ _ _ _ _ _ _ _ _ _ _ _ _ _ _ _ _ _ _ _ _ _ _ _ _ _ _ _ _ _ (hbb.out.trans ((K7.out.trans (BB.mono K7.out.size)).mono hbb.out.size))

end Go.Proofs.Ytlnbobclbaieoaa
