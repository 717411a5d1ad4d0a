/- GraphContracts, the fourth part: both changes in a row, and what they lead to. -/
import Derived.Test.YtlaldnlgapeckaaGreatYCn
import Derived.Deep.CutRange
import Derived.Deep.QuietTactic
import Derived.BigQuiet
import Derived.Test.YtlaldnlgapeckaaGreatYH
namespace Go.Proofs.YtlaldnlgapeckaaGreat
open Go.RowKit
set_option linter.unusedSimpArgs false in
set_option maxRecDepth 1000000 in
set_option maxHeartbeats 8000000 in
theorem con4 (q0 q1 q2 q3 q4 q5 q6 q7 q8 q9 q10 q11 q12 q16 q17 q18 q19 q20 q21 q22 q25 q26 q27 q28 q29 q30 q31 q32 q33 q34 q35 q36 q37 q38 q39 q40 q41 q42 q43 q44 q45 q46 q47 q48 q49 q50 q51 q52 q53 q54 q55 q56 q57 q58 q59 q60 q61 q62 q63 q64 q65 q66 q67 q68 q69 q70 q71 q72 q73 q74 q75 q76 q77 q78 q79 q80 q81 q82 q83 q84 q85 q86 q87 q88 q89 q90 q91 q92 q93 q94 q95 q96 q97 q98 q99 q100 q101 q102 q103 q104 q105 q106 q107 q108 q109 q110 q111 q112 q113 q114 q115 q116 q117 q118 q119 q120 q121 q122 q123 q124 q125 q126 q127 q128 q129 q130 q131 q132 q133 q134 q135 q136 q137 q138 q139 q140 q141 q142 q143 q144 q145 q146 q147 q148 q149 q150 q151 q152 q153 q154 q155 q156 q157 q158 q159 q160 q161 q162 q163 q164 q165 q166 q167 q168 q169 q170 q171 q172 q173 q174 q175 q176 q177 q178 q179 q180 q181 q182 q183 q184 q185 q186 q187 q188 q189 q190 q191 q192 q193 q194 q195 q196 q197 q198 q199 q200 q201 q202 q203 q204 q205 q206 q207 q208 q209 q210 q211 q212 q213 q214 q215 q216 q217 q218 q219 q220 q221 q222 q223 q224 q225 q226 q227 q228 q229 q230 q231 q232 q233 q234 q235 q236 q237 q238 q239 q240 q241 q242 q243 q244 q245 q246 q247 q248 q249 q250 q251 q252 q253 q254 q255 q256 q257 q258 q259 q260 q261 q262 q263 q264 q265 q266 q267 q268 q269 q270 q271 q272 q273 q274 q275 q276 q277 q278 q279 q280 q281 q282 q283 q284 q285 q286 q287 q288 q289 q290 q291 q292 q293 q294 q295 q296 q297 q298 q299 q300 q301 q302 q303 q304 q305 q306 : Value) (pt ps : Nat) (G : Gr) (a x s : Int) (a1 b1 c1 e1 : Option Addr) (N1 a2 N2 b2 N3 c2 e2 e3 : Nat) (w wS w0 : World)
  (H : Hid (CtH G a pt a1 b1 c1 N1 a2 N2 b2 N3 c2 w w0)) (hd : Hid (a ∉ G.ds)) (hx : Hid (0 ≤ x ∧ x ≤ 23)) (hn : Hid (x ∉ keysV G.vs)) (hs : Hid (0 ≤ s ∧ s ≤ 3)) (S : Hid (SpS wS ps a x s (.slice e1 e2 e3) (endsF G.es a) w0)) :
  Code.wp Tryz.prog (sfx9 15) (bodyPost Tryz.prog Tryz.f9 fun e w' => e = .returned (.bool true) ∧ Below w.heap.size w w') ⟨(q0 :: q1 :: q2 :: q3 :: q4 :: q5 :: q6 :: q7 :: q8 :: q9 :: q10 :: q11 :: q12 :: .bool true :: .pointer (some ⟨pt, 0, none⟩) :: .int .i64 a :: q16 :: q17 :: q18 :: q19 :: q20 :: q21 :: q22 :: .int .i64 x :: .pointer (some ⟨ps, 0, none⟩) :: q25 :: q26 :: q27 :: q28 :: q29 :: q30 :: q31 :: q32 :: q33 :: q34 :: q35 :: q36 :: q37 :: q38 :: q39 :: q40 :: q41 :: q42 :: q43 :: q44 :: q45 :: q46 :: q47 :: q48 :: q49 :: q50 :: q51 :: q52 :: q53 :: q54 :: q55 :: q56 :: q57 :: q58 :: q59 :: q60 :: q61 :: q62 :: q63 :: q64 :: q65 :: q66 :: q67 :: q68 :: q69 :: q70 :: q71 :: q72 :: q73 :: q74 :: q75 :: q76 :: q77 :: q78 :: q79 :: q80 :: q81 :: q82 :: q83 :: q84 :: q85 :: q86 :: q87 :: q88 :: q89 :: q90 :: q91 :: q92 :: q93 :: q94 :: q95 :: q96 :: q97 :: q98 :: q99 :: q100 :: q101 :: q102 :: q103 :: q104 :: q105 :: q106 :: q107 :: q108 :: q109 :: q110 :: q111 :: q112 :: q113 :: q114 :: q115 :: q116 :: q117 :: q118 :: q119 :: q120 :: q121 :: q122 :: q123 :: q124 :: q125 :: q126 :: q127 :: q128 :: q129 :: q130 :: q131 :: q132 :: q133 :: q134 :: q135 :: q136 :: q137 :: q138 :: q139 :: q140 :: q141 :: q142 :: q143 :: q144 :: q145 :: q146 :: q147 :: q148 :: q149 :: q150 :: q151 :: q152 :: q153 :: q154 :: q155 :: q156 :: q157 :: q158 :: q159 :: q160 :: q161 :: q162 :: q163 :: q164 :: q165 :: q166 :: q167 :: q168 :: q169 :: q170 :: q171 :: q172 :: q173 :: q174 :: q175 :: q176 :: q177 :: q178 :: q179 :: q180 :: q181 :: q182 :: q183 :: q184 :: q185 :: q186 :: q187 :: q188 :: q189 :: q190 :: q191 :: q192 :: q193 :: q194 :: q195 :: q196 :: q197 :: q198 :: q199 :: q200 :: q201 :: q202 :: q203 :: q204 :: q205 :: q206 :: q207 :: q208 :: q209 :: q210 :: q211 :: q212 :: q213 :: q214 :: q215 :: q216 :: q217 :: q218 :: q219 :: q220 :: q221 :: q222 :: q223 :: q224 :: q225 :: q226 :: q227 :: q228 :: q229 :: q230 :: q231 :: q232 :: q233 :: q234 :: q235 :: q236 :: q237 :: q238 :: q239 :: q240 :: q241 :: q242 :: q243 :: q244 :: q245 :: q246 :: q247 :: q248 :: q249 :: q250 :: q251 :: q252 :: q253 :: q254 :: q255 :: q256 :: q257 :: q258 :: q259 :: q260 :: q261 :: q262 :: q263 :: q264 :: q265 :: q266 :: q267 :: q268 :: q269 :: q270 :: q271 :: q272 :: q273 :: q274 :: q275 :: q276 :: q277 :: q278 :: q279 :: q280 :: q281 :: q282 :: q283 :: q284 :: q285 :: q286 :: q287 :: q288 :: q289 :: q290 :: q291 :: q292 :: q293 :: q294 :: q295 :: q296 :: q297 :: q298 :: q299 :: q300 :: q301 :: q302 :: q303 :: q304 :: q305 :: q306 :: []).toArray, []⟩ w0 := by
 conv => arg 2; whnf
 have cT := Lib.hid (two_con H.out.ok H.out.ha hd.out hx.out hn.out hs.out (.agg #[.slice a1 N1 a2, .slice b1 N2 b2, .slice c1 N3 c2]) (.slice e1 e2 e3) w0 H.out.gv S.out.own.DL)
 obtain ⟨t0, t1, t2⟩ := H.out.t
 obtain ⟨p0, p1, p2, p3, p4, p5, p6, p7, p8, p9, pA, pB, pC⟩ := spC_cells S.out.box
 rw [← H.out.n1, ← H.out.n2] at cT
 go_wp2_with fail
 with_reducible refine cT.out.mono ?_
 rintro e w3 ⟨x1, x2, x3, x4, x5, x6, n3, rfl, hgv, b⟩
 clear t0 t1 t2 p0 p1 p2 p3 p4 p5 p6 p7 p8 p9 pA pB pC cT
 have hgv2 := Lib.hid hgv
 clear hgv
 go_upto_region 36 with (fail)
 obtain ⟨wf, hwf⟩ : ∃ W, W = w3.alloc (.cells #[.slice x1 N1 x2, .slice x3 N2 x4, .slice x5 n3 x6] 26) := ⟨_, rfl⟩
 rw [← hwf]
 obtain ⟨bb, hpwf0⟩ := box_new hwf
 have hpwf := Lib.hid hpwf0
 have Hf := Lib.hid (H.out.to (b.trans (bb.mono b.size)))
 have hgn := Lib.hid (fun W (B : Below wf.heap.size wf W) => hgv2.out.below (bb.trans (B.mono bb.size)))
 clear hwf hpwf0 b bb hgv2 S
 have hC := Lib.hid (fun W (B : Below wf.heap.size wf W) => And.intro (Hf.out.to B).t (box3 (hpwf.out W B)))
 obtain ⟨E, hE⟩ : ∃ E : Nat, Hid (E = endsN G.es a) := ⟨_, rfl⟩
 have hfa := Lib.hid (rename_facts G Hf.out.ok a x s Hf.out.ha hn.out)
 have cE1 := Lib.hid (show ∀ W, Below wf.heap.size wf W → Calls Tryz.prog 45 #[.agg #[.slice x1 N1 x2, .slice x3 N2 x4, .slice x5 n3 x6], .int .i64 x] W fun e w'' => e = .returned (.int .i64 (E : Int)) ∧ Below wf.heap.size wf w'' from fun W B => (ends_any _ _ x W (hgn.out W B) (by dsimp only; rw [List.length_map, ← Hf.out.n2]; have := Hf.out.sz; omega)).mono fun e w'' h => ⟨by rw [hE.out, ← hfa.out.2.1]; exact h.1, B.trans (h.2.mono B.size)⟩)
 have cE2 := Lib.hid (show ∀ W, Below wf.heap.size wf W → Calls Tryz.prog 45 #[.agg #[.slice a1 N1 a2, .slice b1 N2 b2, .slice c1 N3 c2], .int .i64 a] W fun e w'' => e = .returned (.int .i64 (E : Int)) ∧ Below wf.heap.size wf w'' from fun W B => (ends_any _ _ a W (Hf.out.to B).gv (by rw [← Hf.out.n2]; have := Hf.out.sz; omega)).mono fun e w'' h => ⟨by rw [hE.out]; exact h.1, B.trans (h.2.mono B.size)⟩)
 have cP := Lib.hid (show ∀ W, Below wf.heap.size wf W → Calls Tryz.prog 43 #[.agg #[.slice x1 N1 x2, .slice x3 N2 x4, .slice x5 n3 x6], .int .i64 a] W fun e w'' => e = .returned (.int .i64 (-1)) ∧ Below wf.heap.size wf w'' from fun W B => (PlaceR_any _ _ a W (hgn.out W B) (by dsimp only; rw [hfa.out.1, ← Hf.out.n1]; have := Hf.out.sz; omega)).mono fun e w'' h => ⟨by have e1 := h.1; dsimp only at e1; rw [plI_no _ _ hfa.out.2.2] at e1; exact e1, B.trans (h.2.mono B.size)⟩)
 have z1 := Hf.out.sz.1
 have z2 := Hf.out.sz.2.1
 refine q_region (fun W => Below wf.heap.size wf W) (by kernel_rfl) (by kernel_rfl) ((Below.refl _ wf).drew) ?_
 refine q_take (v := ?_) (by rfl) ?_ ?_
 rotate_left
 ·((intro w hSw; go_simp) <;> with_reducible rfl)
 try simp only [Act.put, zT, z0, zS]
 refine q_take (v := ?_) (by rfl) ?_ ?_
 rotate_left
 ·((intro w hSw; go_simp) <;> with_reducible rfl)
 try simp only [Act.put, zT, z0, zS]
 refine q_take (v := ?_) (by rfl) ?_ ?_
 rotate_left
 ·((intro w hSw; go_simp) <;> with_reducible rfl)
 try simp only [Act.put, zT, z0, zS]
 refine q_take (v := ?_) (by rfl) ?_ ?_
 rotate_left
 ·((intro w hSw; go_simp) <;> with_reducible rfl)
 try simp only [Act.put, zT, z0, zS]
 refine q_take (v := ?_) (by rfl) ?_ ?_
 rotate_left
 ·((intro w hSw; go_simp) <;> with_reducible rfl)
 try simp only [Act.put, zT, z0, zS]
 refine q_take (v := ?_) (by rfl) ?_ ?_
 rotate_left
 ·((intro w hSw; go_simp) <;> with_reducible rfl)
 try simp only [Act.put, zT, z0, zS]
 refine q_take (v := ?_) (by rfl) ?_ ?_
 rotate_left
 ·((intro w hSw; go_simp) <;> with_reducible rfl)
 try simp only [Act.put, zT, z0, zS]
 refine q_take (v := ?_) (by rfl) ?_ ?_
 rotate_left
 ·((intro w hSw; go_simp) <;> with_reducible rfl)
 try simp only [Act.put, zT, z0, zS]
 refine q_take (v := ?_) (by rfl) ?_ ?_
 rotate_left
 ·((intro w hSw; obtain ⟨⟨t0, t1, t2⟩, n0, n1, n2⟩ := hC.out w hSw; go_simp) <;> with_reducible rfl)
 try simp only [Act.put, zT, z0, zS]
 refine q_take (v := ?_) (by rfl) ?_ ?_
 rotate_left
 ·((intro w hSw; go_simp) <;> with_reducible rfl)
 try simp only [Act.put, zT, z0, zS]
 refine q_take (v := ?_) (by rfl) ?_ ?_
 rotate_left
 ·((intro w hSw; go_simp) <;> with_reducible rfl)
 try simp only [Act.put, zT, z0, zS]
 refine q_take (v := ?_) (by rfl) ?_ ?_
 rotate_left
 ·((intro w hSw; obtain ⟨⟨t0, t1, t2⟩, n0, n1, n2⟩ := hC.out w hSw; go_simp) <;> with_reducible rfl)
 try simp only [Act.put, zT, z0, zS]
 refine q_take (v := ?_) (by rfl) ?_ ?_
 rotate_left
 ·((intro w hSw; go_simp) <;> with_reducible rfl)
 try simp only [Act.put, zT, z0, zS]
 refine q_take (v := ?_) (by rfl) ?_ ?_
 rotate_left
 ·((intro w hSw; go_simp) <;> with_reducible rfl)
 try simp only [Act.put, zT, z0, zS]
 refine q_take (v := ?_) (by rfl) ?_ ?_
 rotate_left
 ·((intro w hSw; go_simp) <;> with_reducible rfl)
 try simp only [Act.put, zT, z0, zS]
 refine q_take (v := ?_) (by rfl) ?_ ?_
 rotate_left
 ·((intro w hSw; go_simp) <;> with_reducible rfl)
 try simp only [Act.put, zT, z0, zS]
 refine q_take (v := ?_) (by rfl) ?_ ?_
 rotate_left
 ·((intro w hSw; go_simp) <;> with_reducible rfl)
 try simp only [Act.put, zT, z0, zS]
 refine q_take (v := ?_) (by rfl) ?_ ?_
 rotate_left
 ·((intro w hSw; obtain ⟨⟨t0, t1, t2⟩, n0, n1, n2⟩ := hC.out w hSw; go_simp) <;> with_reducible rfl)
 try simp only [Act.put, zT, z0, zS]
 refine q_take (v := ?_) (by rfl) ?_ ?_
 rotate_left
 ·((intro w hSw; go_simp) <;> with_reducible rfl)
 try simp only [Act.put, zT, z0, zS]
 refine q_take (v := ?_) (by rfl) ?_ ?_
 rotate_left
 ·((intro w hSw; go_simp) <;> with_reducible rfl)
 try simp only [Act.put, zT, z0, zS]
 refine q_take (v := ?_) (by rfl) ?_ ?_
 rotate_left
 ·((intro w hSw; obtain ⟨⟨t0, t1, t2⟩, n0, n1, n2⟩ := hC.out w hSw; go_simp) <;> with_reducible rfl)
 try simp only [Act.put, zT, z0, zS]
 refine q_take (v := ?_) (by rfl) ?_ ?_
 rotate_left
 ·((intro w hSw; go_simp) <;> with_reducible rfl)
 try simp only [Act.put, zT, z0, zS]
 refine q_take (v := ?_) (by rfl) ?_ ?_
 rotate_left
 ·((intro w hSw; go_simp) <;> with_reducible rfl)
 try simp only [Act.put, zT, z0, zS]
 refine q_take (v := ?_) (by rfl) ?_ ?_
 rotate_left
 ·((intro w hSw; go_simp) <;> with_reducible rfl)
 try simp only [Act.put, zT, z0, zS]
 refine q_take (v := ?_) (by rfl) ?_ ?_
 rotate_left
 ·((intro w hSw; go_simp) <;> with_reducible rfl)
 try simp only [Act.put, zT, z0, zS]
 refine q_take (v := ?_) (by rfl) ?_ ?_
 rotate_left
 ·((intro w hSw; obtain ⟨⟨t0, t1, t2⟩, n0, n1, n2⟩ := hC.out w hSw; go_simp) <;> with_reducible rfl)
 try simp only [Act.put, zT, z0, zS]
 refine q_take (v := ?_) (by rfl) ?_ ?_
 rotate_left
 ·((intro w hSw; go_simp) <;> with_reducible rfl)
 try simp only [Act.put, zT, z0, zS]
 refine q_call (v := .int .i64 (E : Int)) Tryz.f45 (by rfl) rfl Tryz.func45 (by kernel_rfl) (by kernel_rfl) #[.agg #[.slice x1 N1 x2, .slice x3 N2 x4, .slice x5 n3 x6], .int .i64 x] (by simp [Act.eval]) (fun w hSw => cE1.out w hSw) ?_
 try simp only [Act.put, zT, z0, zS]
 refine q_take (v := ?_) (by rfl) ?_ ?_
 rotate_left
 ·((intro w hSw; obtain ⟨⟨t0, t1, t2⟩, n0, n1, n2⟩ := hC.out w hSw; go_simp) <;> with_reducible rfl)
 try simp only [Act.put, zT, z0, zS]
 refine q_take (v := ?_) (by rfl) ?_ ?_
 rotate_left
 ·((intro w hSw; go_simp) <;> with_reducible rfl)
 try simp only [Act.put, zT, z0, zS]
 refine q_call (v := .int .i64 (E : Int)) Tryz.f45 (by rfl) rfl Tryz.func45 (by kernel_rfl) (by kernel_rfl) #[.agg #[.slice a1 N1 a2, .slice b1 N2 b2, .slice c1 N3 c2], .int .i64 a] (by simp [Act.eval]) (fun w hSw => cE2.out w hSw) ?_
 try simp only [Act.put, zT, z0, zS]
 refine q_take (v := ?_) (by rfl) ?_ ?_
 rotate_left
 ·((intro w hSw; go_simp) <;> with_reducible rfl)
 try simp only [Act.put, zT, z0, zS]
 refine q_take (v := ?_) (by rfl) ?_ ?_
 rotate_left
 ·((intro w hSw; go_simp) <;> with_reducible rfl)
 try simp only [Act.put, zT, z0, zS]
 refine q_take (v := ?_) (by rfl) ?_ ?_
 rotate_left
 ·((intro w hSw; go_simp) <;> with_reducible rfl)
 try simp only [Act.put, zT, z0, zS]
 refine q_take (v := ?_) (by rfl) ?_ ?_
 rotate_left
 ·((intro w hSw; obtain ⟨⟨t0, t1, t2⟩, n0, n1, n2⟩ := hC.out w hSw; go_simp) <;> with_reducible rfl)
 try simp only [Act.put, zT, z0, zS]
 refine q_take (v := ?_) (by rfl) ?_ ?_
 rotate_left
 ·((intro w hSw; go_simp) <;> with_reducible rfl)
 try simp only [Act.put, zT, z0, zS]
 refine q_call (v := .int .i64 (-1)) Tryz.f43 (by rfl) rfl Tryz.func43 (by kernel_rfl) (by kernel_rfl) #[.agg #[.slice x1 N1 x2, .slice x3 N2 x4, .slice x5 n3 x6], .int .i64 a] (by simp [Act.eval]) (fun w hSw => cP.out w hSw) ?_
 try simp only [Act.put, zT, z0, zS]
 refine q_take (v := ?_) (by rfl) ?_ ?_
 rotate_left
 ·((intro w hSw; go_simp) <;> with_reducible rfl)
 try simp only [Act.put, zT, z0, zS]
 refine q_take (v := ?_) (by rfl) ?_ ?_
 rotate_left
 ·((intro w hSw; go_simp) <;> with_reducible rfl)
 try simp only [Act.put, zT, z0, zS]
 refine q_nil ?_
 intro wq kq
 clear cE1 cE2 cP hE
 have kq1 := Lib.hid kq
 clear kq
 go_wp2_with fail
 go_loopw [29] (fun i wr => ∃ k : Nat, k ≤ N2 ∧ i = .int .i64 k ∧ Hid (Below wf.heap.size wf wr)) (fun i _ => N2 - (intOf i).toNat)
 case atStart => exact ⟨0, by omega, rfl, kq1.out⟩
 case round =>
 clear kq1
 obtain ⟨k, hk, rfl, kr⟩ := hrel
 have i0 : (0 : Int) ≤ (k : Int) := by omega
 by_cases hlt : k < N2
 ·have i1 : (k : Int) < (N2 : Int) := by omega
  obtain ⟨eb, eo, y, hb1, _, hyk, heb, hEd⟩ := (Hf.out.to kr.out).edge k hlt
  obtain ⟨fb, fo, hx3, hFd⟩ := edges_in (hgn.out wr kr.out) k (by dsimp only; rw [List.length_map, ← Hf.out.n2]; exact hlt)
  have hFe : ({ G with vs := delV (insV G.vs ⟨x, s⟩) a, es := G.es.map (ctE a x) } : Gr).es[k]'(by dsimp only; rw [List.length_map, ← Hf.out.n2]; exact hlt) = ctE a x y := by
   dsimp only
   rw [List.getElem_map]
   congr 1
   have := (List.getElem?_eq_some_iff.1 hyk).2
   exact this
  rw [hFe] at hFd
  subst hb1 hx3
  have hFh := Lib.hid hFd
  obtain ⟨⟨t0, t1, t2⟩, n0, n1, n2⟩ := hC.out wr kr.out
  obtain ⟨d0, d1, d2, d3, d4, d5⟩ := hEd
  clear hFe hFd heb hyk
  go_upto_region 42 with (fail)
  clear d0 d1 d2 d3 d4 d5 t0 t1 t2 n0 n1 n2
  obtain ⟨wy, hwy⟩ : ∃ W, W = wr.alloc (.cells #[.int .i64 y.id, .int .i64 y.src, .int .i64 y.dst, .bool y.dir, .int .i64 y.wt, .int .i64 y.cap] 31) := ⟨_, rfl⟩
  rw [← hwy]
  obtain ⟨bb, hpwy0⟩ := box_new hwy
  have hby : wy.heap[wr.heap.size]? = some (.cells (edCells y) 31 (0, 0)) := hpwy0 wy (Below.refl _ _)
  have ky := Lib.hid (kr.out.trans (bb.mono kr.out.size))
  have hFy := Lib.hid (fun W (B : Below wr.heap.size wr W) => hFh.out W B)
  have kb := Lib.hid bb
  have hle := kr.out.size
  clear hwy hpwy0 bb
  by_cases s1 : y.src = a
  ·have q1 : (y.src == a) = true := by simpa using s1
   have fr1 := free_of_block (i := 1) hby
   obtain ⟨f0, f1, f2, f3, f4, f5⟩ := ed_cells hby
   try dsimp only at f0 f1 f2 f3 f4 f5
   go_upto_region 44 with (fail)
   clear f0 f1 f2 f3 f4 f5 fr1
   obtain ⟨wz, hwz⟩ : ∃ W, W = wy.setCell ⟨wr.heap.size, 1, none⟩ (.int .i64 x) := ⟨_, rfl⟩
   rw [← hwz]
   have hbz : wz.heap[wr.heap.size]? = some (.cells (edCells ({ y with src := x } : Ed)) 31 (0, 0)) := by rw [hwz]; exact heap_setCell_same wy _ 1 _ 31 _ hby
   have kz := Lib.hid (show Below wf.heap.size wf wz by rw [hwz]; exact ky.out.setCell (by exact hle) _)
   have kbz := Lib.hid (show Below wr.heap.size wr wz by rw [hwz]; exact kb.out.setCell (by simp) _)
   clear hwz hby
   by_cases s2 : y.dst = a
   ·have q2 : (y.dst == a) = true := by simpa using s2
    have fr1 := free_of_block (i := 2) hbz
    obtain ⟨f0, f1, f2, f3, f4, f5⟩ := ed_cells hbz
    try dsimp only at f0 f1 f2 f3 f4 f5
    go_upto_region 46 with (fail)
    clear f0 f1 f2 f3 f4 f5 fr1
    obtain ⟨wv, hwv⟩ : ∃ W, W = wz.setCell ⟨wr.heap.size, 2, none⟩ (.int .i64 x) := ⟨_, rfl⟩
    rw [← hwv]
    have hbv : wv.heap[wr.heap.size]? = some (.cells (edCells ({ y with src := x, dst := x } : Ed)) 31 (0, 0)) := by rw [hwv]; exact heap_setCell_same wz _ 2 _ 31 _ hbz
    have kv := Lib.hid (show Below wf.heap.size wf wv by rw [hwv]; exact kz.out.setCell (by exact hle) _)
    have kbv := Lib.hid (show Below wr.heap.size wr wv by rw [hwv]; exact kbz.out.setCell (by simp) _)
    clear hwv hbz
    have hU : Hid (({ y with src := x, dst := x } : Ed) = ctE a x y) := by show _ = _; unfold ctE; simp [s1, s2]
    rw [hU.out] at hbv
    have hE2 := hFy.out wv kbv.out
    have kE := Lib.hid kv.out
    obtain ⟨f0, f1, f2, f3, f4, f5⟩ := ed_cells hbv
    obtain ⟨g0, g1, g2, g3, g4, g5⟩ := hE2
    obtain ⟨⟨t0, t1, t2⟩, n0, n1, n2⟩ := hC.out wv kE.out
    clear hU hbv hFy hFh kb ky hle kr s1 s2 kv kbv q1 q2 kz kbz
    generalize ctE a x y = u at *
    go_upto_region 46 with (fail)
    go_quiet (fail)
    go_wp2_with fail
    go_roundw
    case rel => exact ⟨k + 1, by omega, by go_num, below_drewN kE.out _⟩
    case measure => simp [intOf]; omega
   ·have q2 : (y.dst == a) = false := by simpa using s2
    obtain ⟨f0, f1, f2, f3, f4, f5⟩ := ed_cells hbz
    try dsimp only at f0 f1 f2 f3 f4 f5
    go_upto_region 46 with (fail)
    clear f0 f1 f2 f3 f4 f5
    have hU : Hid (({ y with src := x } : Ed) = ctE a x y) := by show _ = _; unfold ctE; simp [s1, s2]
    rw [hU.out] at hbz
    have hE2 := hFy.out wz kbz.out
    have kE := Lib.hid kz.out
    obtain ⟨f0, f1, f2, f3, f4, f5⟩ := ed_cells hbz
    obtain ⟨g0, g1, g2, g3, g4, g5⟩ := hE2
    obtain ⟨⟨t0, t1, t2⟩, n0, n1, n2⟩ := hC.out wz kE.out
    clear hU hbz hFy hFh kb ky hle kr s1 s2 q1 q2 kz kbz
    generalize ctE a x y = u at *
    go_upto_region 46 with (fail)
    go_quiet (fail)
    go_wp2_with fail
    go_roundw
    case rel => exact ⟨k + 1, by omega, by go_num, below_drewN kE.out _⟩
    case measure => simp [intOf]; omega
  ·have q1 : (y.src == a) = false := by simpa using s1
   obtain ⟨f0, f1, f2, f3, f4, f5⟩ := ed_cells hby
   try dsimp only at f0 f1 f2 f3 f4 f5
   go_upto_region 44 with (fail)
   clear f0 f1 f2 f3 f4 f5
   by_cases s2 : y.dst = a
   ·have q2 : (y.dst == a) = true := by simpa using s2
    have fr1 := free_of_block (i := 2) hby
    obtain ⟨f0, f1, f2, f3, f4, f5⟩ := ed_cells hby
    try dsimp only at f0 f1 f2 f3 f4 f5
    go_upto_region 46 with (fail)
    clear f0 f1 f2 f3 f4 f5 fr1
    obtain ⟨wv, hwv⟩ : ∃ W, W = wy.setCell ⟨wr.heap.size, 2, none⟩ (.int .i64 x) := ⟨_, rfl⟩
    rw [← hwv]
    have hbv : wv.heap[wr.heap.size]? = some (.cells (edCells ({ y with dst := x } : Ed)) 31 (0, 0)) := by rw [hwv]; exact heap_setCell_same wy _ 2 _ 31 _ hby
    have kv := Lib.hid (show Below wf.heap.size wf wv by rw [hwv]; exact ky.out.setCell (by exact hle) _)
    have kbv := Lib.hid (show Below wr.heap.size wr wv by rw [hwv]; exact kb.out.setCell (by simp) _)
    clear hwv hby
    have hU : Hid (({ y with dst := x } : Ed) = ctE a x y) := by show _ = _; unfold ctE; simp [s1, s2]
    rw [hU.out] at hbv
    have hE2 := hFy.out wv kbv.out
    have kE := Lib.hid kv.out
    obtain ⟨f0, f1, f2, f3, f4, f5⟩ := ed_cells hbv
    obtain ⟨g0, g1, g2, g3, g4, g5⟩ := hE2
    obtain ⟨⟨t0, t1, t2⟩, n0, n1, n2⟩ := hC.out wv kE.out
    clear hU hbv hFy hFh kb ky hle kr s1 s2 kv kbv q1 q2
    generalize ctE a x y = u at *
    go_upto_region 46 with (fail)
    go_quiet (fail)
    go_wp2_with fail
    go_roundw
    case rel => exact ⟨k + 1, by omega, by go_num, below_drewN kE.out _⟩
    case measure => simp [intOf]; omega
   ·have q2 : (y.dst == a) = false := by simpa using s2
    obtain ⟨f0, f1, f2, f3, f4, f5⟩ := ed_cells hby
    try dsimp only at f0 f1 f2 f3 f4 f5
    go_upto_region 46 with (fail)
    clear f0 f1 f2 f3 f4 f5
    have hU : Hid (y = ctE a x y) := by show _ = _; unfold ctE; simp [s1, s2]
    rw [hU.out] at hby
    have hE2 := hFy.out wy kb.out
    have kE := Lib.hid ky.out
    obtain ⟨f0, f1, f2, f3, f4, f5⟩ := ed_cells hby
    obtain ⟨g0, g1, g2, g3, g4, g5⟩ := hE2
    obtain ⟨⟨t0, t1, t2⟩, n0, n1, n2⟩ := hC.out wy kE.out
    clear hU hby hFy hFh kb ky hle kr s1 s2 q1 q2
    generalize ctE a x y = u at *
    go_upto_region 46 with (fail)
    go_quiet (fail)
    go_wp2_with fail
    go_roundw
    case rel => exact ⟨k + 1, by omega, by go_num, below_drewN kE.out _⟩
    case measure => simp [intOf]; omega
 ·have hk2 : k = N2 := by omega
  subst hk2
  have i1 : ¬ ((k : Nat) : Int) < (k : Int) := by omega
  have hfin := Lib.hid (Hf.out.to kr.out).kw
  obtain ⟨⟨t0, t1, t2⟩, n0, n1, n2⟩ := hC.out wr kr.out
  clear hlt
  go_wp2_with fail
  go_ret
  exact ⟨rfl, hfin.out⟩
end Go.Proofs.YtlaldnlgapeckaaGreat
