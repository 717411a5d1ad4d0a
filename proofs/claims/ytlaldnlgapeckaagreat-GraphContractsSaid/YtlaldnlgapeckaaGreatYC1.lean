/- GraphContracts: what contraction leads to. -/
import Derived.Test.YtlaldnlgapeckaaGreatYC2
import Derived.Test.YtlaldnlgapeckaaGreatYH
namespace Go.Proofs.YtlaldnlgapeckaaGreat
open Go.RowKit
set_option maxRecDepth 1000000 in
set_option maxHeartbeats 8000000 in
theorem con1n (q0 q1 q2 q3 q4 q6 q7 q8 q9 q10 q11 q12 q20 q21 q22 q23 q24 q25 q26 q27 q28 q29 q30 q31 q32 q33 q34 q35 q36 q37 q38 q39 q40 q41 q42 q43 q44 q45 q46 q47 q48 q49 q50 q51 q52 q53 q54 q55 q56 q57 q58 q59 q60 q61 q62 q63 q64 q65 q66 q67 q68 q69 q70 q71 q72 q73 q74 q75 q76 q77 q78 q79 q80 q81 q82 q83 q84 q85 q86 q87 q88 q89 q90 q91 q92 q93 q94 q95 q96 q97 q98 q99 q100 q101 q102 q103 q104 q105 q106 q107 q108 q109 q110 q111 q112 q113 q114 q115 q116 q117 q118 q119 q120 q121 q122 q123 q124 q125 q126 q127 q128 q129 q130 q131 q132 q133 q134 q135 q136 q137 q138 q139 q140 q141 q142 q143 q144 q145 q146 q147 q148 q149 q150 q151 q152 q153 q154 q155 q156 q157 q158 q159 q160 q161 q162 q163 q164 q165 q166 q167 q168 q169 q170 q171 q172 q173 q174 q175 q176 q177 q178 q179 q180 q181 q182 q183 q184 q185 q186 q187 q188 q189 q190 q191 q192 q193 q194 q195 q196 q197 q198 q199 q200 q201 q202 q203 q204 q205 q206 q207 q208 q209 q210 q211 q212 q213 q214 q215 q216 q217 q218 q219 q220 q221 q222 q223 q224 q225 q226 q227 q228 q229 q230 q231 q232 q233 q234 q235 q236 q237 q238 q239 q240 q241 q242 q243 q244 q245 q246 q247 q248 q249 q250 q251 q252 q253 q254 q255 q256 q257 q258 q259 q260 q261 q262 q263 q264 q265 q266 q267 q268 q269 q270 q271 q272 q273 q274 q275 q276 q277 q278 q279 q280 q281 q282 q283 q284 q285 q286 q287 q288 q289 q290 q291 q292 q293 q294 q295 q296 q297 q298 q299 q300 q301 q302 q303 q304 q305 q306 : Value) (pt pa : Nat) (G : Gr) (a b fr : Int) (dep : Bool) (a1 b1 c1 : Option Addr) (N1 a2 N2 b2 N3 c2 : Nat) (w w0 : World)
  (H : Hid (CtH G a pt a1 b1 c1 N1 a2 N2 b2 N3 c2 w w0)) (hfr : Hid (i64B fr)) (hdep : Hid (dep = decide (a ∈ G.ds))) :
  Code.wp Tryz.prog (sfx9 10) (bodyPost Tryz.prog Tryz.f9 fun e w' => e = .returned (.bool true) ∧ Below w.heap.size w w') ⟨(q0 :: q1 :: q2 :: q3 :: q4 :: .int .i64 fr :: q6 :: q7 :: q8 :: q9 :: q10 :: q11 :: q12 :: .bool true :: .pointer (some ⟨pt, 0, none⟩) :: .int .i64 a :: .int .i64 b :: .pointer (some ⟨pa, 0, none⟩) :: .int .i64 30 :: .bool dep :: q20 :: q21 :: q22 :: q23 :: q24 :: q25 :: q26 :: q27 :: q28 :: q29 :: q30 :: q31 :: q32 :: q33 :: q34 :: q35 :: q36 :: q37 :: q38 :: q39 :: q40 :: q41 :: q42 :: q43 :: q44 :: q45 :: q46 :: q47 :: q48 :: q49 :: q50 :: q51 :: q52 :: q53 :: q54 :: q55 :: q56 :: q57 :: q58 :: q59 :: q60 :: q61 :: q62 :: q63 :: q64 :: q65 :: q66 :: q67 :: q68 :: q69 :: q70 :: q71 :: q72 :: q73 :: q74 :: q75 :: q76 :: q77 :: q78 :: q79 :: q80 :: q81 :: q82 :: q83 :: q84 :: q85 :: q86 :: q87 :: q88 :: q89 :: q90 :: q91 :: q92 :: q93 :: q94 :: q95 :: q96 :: q97 :: q98 :: q99 :: q100 :: q101 :: q102 :: q103 :: q104 :: q105 :: q106 :: q107 :: q108 :: q109 :: q110 :: q111 :: q112 :: q113 :: q114 :: q115 :: q116 :: q117 :: q118 :: q119 :: q120 :: q121 :: q122 :: q123 :: q124 :: q125 :: q126 :: q127 :: q128 :: q129 :: q130 :: q131 :: q132 :: q133 :: q134 :: q135 :: q136 :: q137 :: q138 :: q139 :: q140 :: q141 :: q142 :: q143 :: q144 :: q145 :: q146 :: q147 :: q148 :: q149 :: q150 :: q151 :: q152 :: q153 :: q154 :: q155 :: q156 :: q157 :: q158 :: q159 :: q160 :: q161 :: q162 :: q163 :: q164 :: q165 :: q166 :: q167 :: q168 :: q169 :: q170 :: q171 :: q172 :: q173 :: q174 :: q175 :: q176 :: q177 :: q178 :: q179 :: q180 :: q181 :: q182 :: q183 :: q184 :: q185 :: q186 :: q187 :: q188 :: q189 :: q190 :: q191 :: q192 :: q193 :: q194 :: q195 :: q196 :: q197 :: q198 :: q199 :: q200 :: q201 :: q202 :: q203 :: q204 :: q205 :: q206 :: q207 :: q208 :: q209 :: q210 :: q211 :: q212 :: q213 :: q214 :: q215 :: q216 :: q217 :: q218 :: q219 :: q220 :: q221 :: q222 :: q223 :: q224 :: q225 :: q226 :: q227 :: q228 :: q229 :: q230 :: q231 :: q232 :: q233 :: q234 :: q235 :: q236 :: q237 :: q238 :: q239 :: q240 :: q241 :: q242 :: q243 :: q244 :: q245 :: q246 :: q247 :: q248 :: q249 :: q250 :: q251 :: q252 :: q253 :: q254 :: q255 :: q256 :: q257 :: q258 :: q259 :: q260 :: q261 :: q262 :: q263 :: q264 :: q265 :: q266 :: q267 :: q268 :: q269 :: q270 :: q271 :: q272 :: q273 :: q274 :: q275 :: q276 :: q277 :: q278 :: q279 :: q280 :: q281 :: q282 :: q283 :: q284 :: q285 :: q286 :: q287 :: q288 :: q289 :: q290 :: q291 :: q292 :: q293 :: q294 :: q295 :: q296 :: q297 :: q298 :: q299 :: q300 :: q301 :: q302 :: q303 :: q304 :: q305 :: q306 :: []).toArray, []⟩ w0 := by
 conv => arg 2; whnf
 go_upto_region 15 with (fail)
 rename_i K0 hK0 K1 hK1
 have hK2 := Lib.hid hK0
 clear hK0
 go_wp2_with fail
 refine hK2.out _ _ ?_
 refine wp_eq (D := sfx9 11) (by kernel_rfl) ?_
 exact con2b _ _ _ _ _ _ _ _ _ _ _ _ _ _ _ _ _ _ _ _ _ _ _ _ _ _ _ _ _ _ _ _ _ _ _ _ _ _ _ _ _ _ _ _ _ _ _ _ _ _ _ _ _ _ _ _ _ _ _ _ _ _ _ _ _ _ _ _ _ _ _ _ _ _ _ _ _ _ _ _ _ _ _ _ _ _ _ _ _ _ _ _ _ _ _ _ _ _ _ _ _ _ _ _ _ _ _ _ _ _ _ _ _ _ _ _ _ _ _ _ _ _ _ _ _ _ _ _ _ _ _ _ _ _ _ _ _ _ _ _ _ _ _ _ _ _ _ _ _ _ _ _ _ _ _ _ _ _ _ _ _ _ _ _ _ _ _ _ _ _ _ _ _ _ _ _ _ _ _ _ _ _ _ _ _ _ _ _ _ _ _ _ _ _ _ _ _ _ _ _ _ _ _ _ _ _ _ _ _ _ _ _ _ _ _ _ _ _ _ _ _ _ _ _ _ _ _ _ _ _ _ _ _ _ _ _ _ _ _ _ _ _ _ _ _ _ _ _ _ _ _ _ _ _ _ _ _ _ _ _ _ _ _ _ _ _ _ _ _ _ _ _ _ _ _ _ _ _ _ _ _ _ _ _ _ _ _ _ _ _ _ _ _ _ _ _ _ _ _ _ _ _ pt G a fr dep a1 b1 c1 N1 a2 N2 b2 N3 c2 w w0 H hfr hdep
set_option linter.unusedSimpArgs false in
set_option maxRecDepth 1000000 in
set_option maxHeartbeats 8000000 in
theorem con1y (q0 q1 q2 q3 q4 q6 q7 q8 q9 q10 q11 q12 q20 q21 q22 q23 q24 q25 q26 q27 q28 q29 q30 q31 q32 q33 q34 q35 q36 q37 q38 q39 q40 q41 q42 q43 q44 q45 q46 q47 q48 q49 q50 q51 q52 q53 q54 q55 q56 q57 q58 q59 q60 q61 q62 q63 q64 q65 q66 q67 q68 q69 q70 q71 q72 q73 q74 q75 q76 q77 q78 q79 q80 q81 q82 q83 q84 q85 q86 q87 q88 q89 q90 q91 q92 q93 q94 q95 q96 q97 q98 q99 q100 q101 q102 q103 q104 q105 q106 q107 q108 q109 q110 q111 q112 q113 q114 q115 q116 q117 q118 q119 q120 q121 q122 q123 q124 q125 q126 q127 q128 q129 q130 q131 q132 q133 q134 q135 q136 q137 q138 q139 q140 q141 q142 q143 q144 q145 q146 q147 q148 q149 q150 q151 q152 q153 q154 q155 q156 q157 q158 q159 q160 q161 q162 q163 q164 q165 q166 q167 q168 q169 q170 q171 q172 q173 q174 q175 q176 q177 q178 q179 q180 q181 q182 q183 q184 q185 q186 q187 q188 q189 q190 q191 q192 q193 q194 q195 q196 q197 q198 q199 q200 q201 q202 q203 q204 q205 q206 q207 q208 q209 q210 q211 q212 q213 q214 q215 q216 q217 q218 q219 q220 q221 q222 q223 q224 q225 q226 q227 q228 q229 q230 q231 q232 q233 q234 q235 q236 q237 q238 q239 q240 q241 q242 q243 q244 q245 q246 q247 q248 q249 q250 q251 q252 q253 q254 q255 q256 q257 q258 q259 q260 q261 q262 q263 q264 q265 q266 q267 q268 q269 q270 q271 q272 q273 q274 q275 q276 q277 q278 q279 q280 q281 q282 q283 q284 q285 q286 q287 q288 q289 q290 q291 q292 q293 q294 q295 q296 q297 q298 q299 q300 q301 q302 q303 q304 q305 q306 : Value) (pt pa : Nat) (G : Gr) (a b fr : Int) (dep : Bool) (a1 b1 c1 x1 x3 x5 : Option Addr) (N1 a2 N2 b2 N3 c2 M1 x2 x4 n3 x6 : Nat) (w w0 : World)
  (H : Hid (CtH G a pt a1 b1 c1 N1 a2 N2 b2 N3 c2 w w0)) (hfr : Hid (i64B fr)) (hdep : Hid (dep = decide (a ∈ G.ds))) (hab : Hid (a ≠ b)) (hM : M1 + 1 = N1)
  (hpa : Hid (w0.heap[pa]? = some (.cells #[.slice x1 M1 x2, .slice x3 N2 x4, .slice x5 n3 x6] 26 (0, 0)))) (hga : Hid (GV w0 (.agg #[.slice x1 M1 x2, .slice x3 N2 x4, .slice x5 n3 x6]) { G with vs := delV G.vs a, es := G.es.map (ctE a b) })) :
  Code.wp Tryz.prog (sfx9 10) (bodyPost Tryz.prog Tryz.f9 fun e w' => e = .returned (.bool true) ∧ Below w.heap.size w w') ⟨(q0 :: q1 :: q2 :: q3 :: q4 :: .int .i64 fr :: q6 :: q7 :: q8 :: q9 :: q10 :: q11 :: q12 :: .bool true :: .pointer (some ⟨pt, 0, none⟩) :: .int .i64 a :: .int .i64 b :: .pointer (some ⟨pa, 0, none⟩) :: .int .i64 0 :: .bool dep :: q20 :: q21 :: q22 :: q23 :: q24 :: q25 :: q26 :: q27 :: q28 :: q29 :: q30 :: q31 :: q32 :: q33 :: q34 :: q35 :: q36 :: q37 :: q38 :: q39 :: q40 :: q41 :: q42 :: q43 :: q44 :: q45 :: q46 :: q47 :: q48 :: q49 :: q50 :: q51 :: q52 :: q53 :: q54 :: q55 :: q56 :: q57 :: q58 :: q59 :: q60 :: q61 :: q62 :: q63 :: q64 :: q65 :: q66 :: q67 :: q68 :: q69 :: q70 :: q71 :: q72 :: q73 :: q74 :: q75 :: q76 :: q77 :: q78 :: q79 :: q80 :: q81 :: q82 :: q83 :: q84 :: q85 :: q86 :: q87 :: q88 :: q89 :: q90 :: q91 :: q92 :: q93 :: q94 :: q95 :: q96 :: q97 :: q98 :: q99 :: q100 :: q101 :: q102 :: q103 :: q104 :: q105 :: q106 :: q107 :: q108 :: q109 :: q110 :: q111 :: q112 :: q113 :: q114 :: q115 :: q116 :: q117 :: q118 :: q119 :: q120 :: q121 :: q122 :: q123 :: q124 :: q125 :: q126 :: q127 :: q128 :: q129 :: q130 :: q131 :: q132 :: q133 :: q134 :: q135 :: q136 :: q137 :: q138 :: q139 :: q140 :: q141 :: q142 :: q143 :: q144 :: q145 :: q146 :: q147 :: q148 :: q149 :: q150 :: q151 :: q152 :: q153 :: q154 :: q155 :: q156 :: q157 :: q158 :: q159 :: q160 :: q161 :: q162 :: q163 :: q164 :: q165 :: q166 :: q167 :: q168 :: q169 :: q170 :: q171 :: q172 :: q173 :: q174 :: q175 :: q176 :: q177 :: q178 :: q179 :: q180 :: q181 :: q182 :: q183 :: q184 :: q185 :: q186 :: q187 :: q188 :: q189 :: q190 :: q191 :: q192 :: q193 :: q194 :: q195 :: q196 :: q197 :: q198 :: q199 :: q200 :: q201 :: q202 :: q203 :: q204 :: q205 :: q206 :: q207 :: q208 :: q209 :: q210 :: q211 :: q212 :: q213 :: q214 :: q215 :: q216 :: q217 :: q218 :: q219 :: q220 :: q221 :: q222 :: q223 :: q224 :: q225 :: q226 :: q227 :: q228 :: q229 :: q230 :: q231 :: q232 :: q233 :: q234 :: q235 :: q236 :: q237 :: q238 :: q239 :: q240 :: q241 :: q242 :: q243 :: q244 :: q245 :: q246 :: q247 :: q248 :: q249 :: q250 :: q251 :: q252 :: q253 :: q254 :: q255 :: q256 :: q257 :: q258 :: q259 :: q260 :: q261 :: q262 :: q263 :: q264 :: q265 :: q266 :: q267 :: q268 :: q269 :: q270 :: q271 :: q272 :: q273 :: q274 :: q275 :: q276 :: q277 :: q278 :: q279 :: q280 :: q281 :: q282 :: q283 :: q284 :: q285 :: q286 :: q287 :: q288 :: q289 :: q290 :: q291 :: q292 :: q293 :: q294 :: q295 :: q296 :: q297 :: q298 :: q299 :: q300 :: q301 :: q302 :: q303 :: q304 :: q305 :: q306 :: []).toArray, []⟩ w0 := by
 conv => arg 2; whnf
 have z1 := H.out.sz.1
 have z2 := H.out.sz.2.1
 have hC := Lib.hid (fun W (B : Below w0.heap.size w0 W) => And.intro (H.out.to B).t (box3 ((B.block _ (Array.getElem?_eq_some_iff.1 hpa.out).1).trans hpa.out)))
 have cA := Lib.hid (show ∀ i W, Below w0.heap.size w0 W → Calls Tryz.prog 45 #[.agg #[.slice x1 M1 x2, .slice x3 N2 x4, .slice x5 n3 x6], .int .i64 i] W fun e w'' => e = .returned (.int .i64 (endsN (G.es.map (ctE a b)) i : Nat)) ∧ Below w0.heap.size w0 w'' from fun i W B => (ends_any _ _ i W (hga.out.below B) (by dsimp only; rw [List.length_map, ← H.out.n2]; omega)).mono fun e w'' h => ⟨h.1, B.trans (h.2.mono B.size)⟩)
 have cG := Lib.hid (show ∀ i W, Below w0.heap.size w0 W → Calls Tryz.prog 45 #[.agg #[.slice a1 N1 a2, .slice b1 N2 b2, .slice c1 N3 c2], .int .i64 i] W fun e w'' => e = .returned (.int .i64 (endsN G.es i : Nat)) ∧ Below w0.heap.size w0 w'' from fun i W B => (ends_any _ _ i W (H.out.to B).gv (by rw [← H.out.n2]; omega)).mono fun e w'' h => ⟨h.1, B.trans (h.2.mono B.size)⟩)
 obtain ⟨EA, hEA⟩ : ∃ E : Nat, Hid (E = endsN G.es a) := ⟨_, rfl⟩
 obtain ⟨EB, hEB⟩ : ∃ E : Nat, Hid (E = endsN G.es b) := ⟨_, rfl⟩
 have lA : EA ≤ 80 := by rw [hEA.out]; have := endsN_le G.es a; rw [← H.out.n2] at this; omega
 have lB : EB ≤ 80 := by rw [hEB.out]; have := endsN_le G.es b; rw [← H.out.n2] at this; omega
 have cE1 := Lib.hid (show ∀ W, Below w0.heap.size w0 W → Calls Tryz.prog 45 #[.agg #[.slice x1 M1 x2, .slice x3 N2 x4, .slice x5 n3 x6], .int .i64 b] W fun e w'' => e = .returned (.int .i64 ((EA : Int) + (EB : Int))) ∧ Below w0.heap.size w0 w'' from fun W B => by
  have h := cA.out b W B
  rw [endsN_to G.es a b hab.out, ← hEA.out, ← hEB.out, Int.natCast_add] at h
  exact h)
 have cE2 := Lib.hid (show ∀ W, Below w0.heap.size w0 W → Calls Tryz.prog 45 #[.agg #[.slice a1 N1 a2, .slice b1 N2 b2, .slice c1 N3 c2], .int .i64 a] W fun e w'' => e = .returned (.int .i64 (EA : Int)) ∧ Below w0.heap.size w0 w'' from fun W B => by rw [hEA.out]; exact cG.out a W B)
 have cE3 := Lib.hid (show ∀ W, Below w0.heap.size w0 W → Calls Tryz.prog 45 #[.agg #[.slice a1 N1 a2, .slice b1 N2 b2, .slice c1 N3 c2], .int .i64 b] W fun e w'' => e = .returned (.int .i64 (EB : Int)) ∧ Below w0.heap.size w0 w'' from fun W B => by rw [hEB.out]; exact cG.out b W B)
 have m1 : IntKind.i64.wrap (M1 : Int) = (M1 : Int) := IntWalk.i64_in _ (by omega)
 have m2 : IntKind.i64.wrap ((EA : Int) + (EB : Int)) = (EA : Int) + (EB : Int) := IntWalk.i64_in _ (by omega)
 have m3 : (N1 : Int) - 1 = (M1 : Int) := by omega
 have hMh := Lib.hid hM
 have z1h := Lib.hid z1
 clear hEA hEB hM
 go_upto_region 16 with (fail)
 refine q_region (fun W => Below w0.heap.size w0 W) (by kernel_rfl) (by kernel_rfl) ((Below.refl _ w0).drew) ?_
 refine q_take (v := ?_) (by rfl) ?_ ?_
 rotate_left
 ·((intro w hSw; go_simp) <;> with_reducible rfl)
 try simp only [Act.put, zT, z0, zS]
 refine q_take (v := ?_) (by rfl) ?_ ?_
 rotate_left
 ·((intro w hSw; obtain ⟨⟨t0, t1, t2⟩, n0, n1, n2⟩ := hC.out w hSw; go_simp) <;> with_reducible rfl)
 try simp only [Act.put, zT, z0, zS]
 refine q_take (v := ?_) (by rfl) ?_ ?_
 rotate_left
 ·((intro w hSw; go_simp) <;> with_reducible rfl)
 try simp only [Act.put, zT, z0, zS]
 refine q_take (v := ?_) (by rfl) ?_ ?_
 rotate_left
 ·((intro w hSw; go_simp) <;> with_reducible rfl)
 try simp only [Act.put, zT, z0, zS]
 refine q_take (v := ?_) (by rfl) ?_ ?_
 rotate_left
 ·((intro w hSw; obtain ⟨⟨t0, t1, t2⟩, n0, n1, n2⟩ := hC.out w hSw; go_simp) <;> with_reducible rfl)
 try simp only [Act.put, zT, z0, zS]
 refine q_take (v := ?_) (by rfl) ?_ ?_
 rotate_left
 ·((intro w hSw; go_simp) <;> with_reducible rfl)
 try simp only [Act.put, zT, z0, zS]
 refine q_take (v := ?_) (by rfl) ?_ ?_
 rotate_left
 ·((intro w hSw; go_simp) <;> with_reducible rfl)
 try simp only [Act.put, zT, z0, zS]
 refine q_take (v := ?_) (by rfl) ?_ ?_
 rotate_left
 ·((intro w hSw; go_simp) <;> with_reducible rfl)
 try simp only [Act.put, zT, z0, zS]
 refine q_take (v := ?_) (by rfl) ?_ ?_
 rotate_left
 ·((intro w hSw; go_simp) <;> with_reducible rfl)
 try simp only [Act.put, zT, z0, zS]
 refine q_take (v := ?_) (by rfl) ?_ ?_
 rotate_left
 ·((intro w hSw; obtain ⟨⟨t0, t1, t2⟩, n0, n1, n2⟩ := hC.out w hSw; go_simp) <;> with_reducible rfl)
 try simp only [Act.put, zT, z0, zS]
 refine q_take (v := ?_) (by rfl) ?_ ?_
 rotate_left
 ·((intro w hSw; go_simp) <;> with_reducible rfl)
 try simp only [Act.put, zT, z0, zS]
 refine q_take (v := ?_) (by rfl) ?_ ?_
 rotate_left
 ·((intro w hSw; go_simp) <;> with_reducible rfl)
 try simp only [Act.put, zT, z0, zS]
 refine q_take (v := ?_) (by rfl) ?_ ?_
 rotate_left
 ·((intro w hSw; obtain ⟨⟨t0, t1, t2⟩, n0, n1, n2⟩ := hC.out w hSw; go_simp) <;> with_reducible rfl)
 try simp only [Act.put, zT, z0, zS]
 refine q_take (v := ?_) (by rfl) ?_ ?_
 rotate_left
 ·((intro w hSw; go_simp) <;> with_reducible rfl)
 try simp only [Act.put, zT, z0, zS]
 refine q_take (v := ?_) (by rfl) ?_ ?_
 rotate_left
 ·((intro w hSw; go_simp) <;> with_reducible rfl)
 try simp only [Act.put, zT, z0, zS]
 refine q_take (v := ?_) (by rfl) ?_ ?_
 rotate_left
 ·((intro w hSw; go_simp) <;> with_reducible rfl)
 try simp only [Act.put, zT, z0, zS]
 refine q_take (v := ?_) (by rfl) ?_ ?_
 rotate_left
 ·((intro w hSw; go_simp) <;> with_reducible rfl)
 try simp only [Act.put, zT, z0, zS]
 refine q_take (v := ?_) (by rfl) ?_ ?_
 rotate_left
 ·((intro w hSw; go_simp) <;> with_reducible rfl)
 try simp only [Act.put, zT, z0, zS]
 refine q_take (v := ?_) (by rfl) ?_ ?_
 rotate_left
 ·((intro w hSw; obtain ⟨⟨t0, t1, t2⟩, n0, n1, n2⟩ := hC.out w hSw; go_simp) <;> with_reducible rfl)
 try simp only [Act.put, zT, z0, zS]
 refine q_take (v := ?_) (by rfl) ?_ ?_
 rotate_left
 ·((intro w hSw; go_simp) <;> with_reducible rfl)
 try simp only [Act.put, zT, z0, zS]
 refine q_call (v := .int .i64 ((EA : Int) + (EB : Int))) Tryz.f45 (by rfl) rfl Tryz.func45 (by kernel_rfl) (by kernel_rfl) #[.agg #[.slice x1 M1 x2, .slice x3 N2 x4, .slice x5 n3 x6], .int .i64 b] (by simp [Act.eval]) (fun w hSw => cE1.out w hSw) ?_
 try simp only [Act.put, zT, z0, zS]
 refine q_take (v := ?_) (by rfl) ?_ ?_
 rotate_left
 ·((intro w hSw; obtain ⟨⟨t0, t1, t2⟩, n0, n1, n2⟩ := hC.out w hSw; go_simp) <;> with_reducible rfl)
 try simp only [Act.put, zT, z0, zS]
 refine q_take (v := ?_) (by rfl) ?_ ?_
 rotate_left
 ·((intro w hSw; go_simp) <;> with_reducible rfl)
 try simp only [Act.put, zT, z0, zS]
 refine q_call (v := .int .i64 (EA : Int)) Tryz.f45 (by rfl) rfl Tryz.func45 (by kernel_rfl) (by kernel_rfl) #[.agg #[.slice a1 N1 a2, .slice b1 N2 b2, .slice c1 N3 c2], .int .i64 a] (by simp [Act.eval]) (fun w hSw => cE2.out w hSw) ?_
 try simp only [Act.put, zT, z0, zS]
 refine q_take (v := ?_) (by rfl) ?_ ?_
 rotate_left
 ·((intro w hSw; obtain ⟨⟨t0, t1, t2⟩, n0, n1, n2⟩ := hC.out w hSw; go_simp) <;> with_reducible rfl)
 try simp only [Act.put, zT, z0, zS]
 refine q_take (v := ?_) (by rfl) ?_ ?_
 rotate_left
 ·((intro w hSw; go_simp) <;> with_reducible rfl)
 try simp only [Act.put, zT, z0, zS]
 refine q_call (v := .int .i64 (EB : Int)) Tryz.f45 (by rfl) rfl Tryz.func45 (by kernel_rfl) (by kernel_rfl) #[.agg #[.slice a1 N1 a2, .slice b1 N2 b2, .slice c1 N3 c2], .int .i64 b] (by simp [Act.eval]) (fun w hSw => cE3.out w hSw) ?_
 try simp only [Act.put, zT, z0, zS]
 refine q_take (v := ?_) (by rfl) ?_ ?_
 rotate_left
 ·((intro w hSw; go_simp) <;> with_reducible rfl)
 try simp only [Act.put, zT, z0, zS]
 refine q_take (v := ?_) (by rfl) ?_ ?_
 rotate_left
 ·((intro w hSw; go_simp) <;> with_reducible rfl)
 try simp only [Act.put, zT, z0, zS]
 refine q_take (v := ?_) (by rfl) ?_ ?_
 rotate_left
 ·((intro w hSw; go_simp) <;> with_reducible rfl)
 try simp only [Act.put, zT, z0, zS]
 refine q_nil ?_
 intro wq kq
 have kq1 := Lib.hid kq
 clear kq cE1 cE2 cE3 m1 m2 m3 lA lB
 go_wp2_with fail
 go_loopw [21] (fun i wr => ∃ k : Nat, k ≤ N1 ∧ i = .int .i64 k ∧ Hid (Below w0.heap.size w0 wr)) (fun i _ => N1 - (intOf i).toNat)
 case atStart => exact ⟨0, by omega, rfl, kq1.out⟩
 case round =>
 clear kq1
 obtain ⟨k, hk, rfl, kr⟩ := hrel
 have i0 : (0 : Int) ≤ (k : Int) := by omega
 by_cases hlt : k < N1
 ·have i1 : (k : Int) < (N1 : Int) := by omega
  obtain ⟨vb, vo, u, ha1, _, _, _, c0, _⟩ := (H.out.to kr.out).vert k hlt
  subst ha1
  obtain ⟨⟨t0, t1, t2⟩, n0, n1, n2⟩ := hC.out wr kr.out
  generalize u.id = id at *
  go_upto_region 22 with (fail)
  clear c0 t0 t1 t2 n0 n1 n2
  by_cases s1 : id = a
  ·have q1 : (id != a) = false := by simpa using s1
   clear s1
   refine q_region (fun W => Below w0.heap.size w0 W) (by kernel_rfl) (by kernel_rfl) (kr.out.drew) ?_
   refine q_take (v := ?_) (by rfl) ?_ ?_
   rotate_left
   ·((intro w hSw; go_simp) <;> with_reducible rfl)
   try simp only [Act.put, zT, z0, zS]
   refine q_take (v := ?_) (by rfl) ?_ ?_
   rotate_left
   ·((intro w hSw; go_simp) <;> with_reducible rfl)
   try simp only [Act.put, zT, z0, zS]
   refine q_take (v := ?_) (by rfl) ?_ ?_
   rotate_left
   ·((intro w hSw; go_simp) <;> with_reducible rfl)
   try simp only [Act.put, zT, z0, zS]
   refine q_take (v := ?_) (by rfl) ?_ ?_
   rotate_left
   ·((intro w hSw; go_simp) <;> with_reducible rfl)
   try simp only [Act.put, zT, z0, zS]
   refine q_skip (by rfl) ?_
   try simp only [Act.put, zT, z0, zS]
   refine q_skip (by rfl) ?_
   try simp only [Act.put, zT, z0, zS]
   refine q_skip (by rfl) ?_
   try simp only [Act.put, zT, z0, zS]
   refine q_take (v := .bool false) (by rfl) (fun w hSw => ?_) ?_
   ·go_simp
   try simp only [Act.put, zT, z0, zS]
   refine q_take (v := ?_) (by rfl) ?_ ?_
   rotate_left
   ·((intro w hSw; go_simp) <;> with_reducible rfl)
   try simp only [Act.put, zT, z0, zS]
   refine q_skip (by rfl) ?_
   try simp only [Act.put, zT, z0, zS]
   refine q_skip (by rfl) ?_
   try simp only [Act.put, zT, z0, zS]
   refine q_skip (by rfl) ?_
   try simp only [Act.put, zT, z0, zS]
   refine q_skip (by rfl) ?_
   try simp only [Act.put, zT, z0, zS]
   refine q_skip (by rfl) ?_
   try simp only [Act.put, zT, z0, zS]
   refine q_skip (by rfl) ?_
   try simp only [Act.put, zT, z0, zS]
   refine q_skip (by rfl) ?_
   try simp only [Act.put, zT, z0, zS]
   refine q_take (v := .bool false) (by rfl) (fun w hSw => ?_) ?_
   ·go_simp
   try simp only [Act.put, zT, z0, zS]
   refine q_nil ?_
   intro wq2 kq2
   go_wp2_with fail
   go_roundw
   case rel => exact ⟨k + 1, by omega, by go_num, kq2⟩
   case measure => simp [intOf]; omega
  ·have q1 : (id != a) = true := by simpa using s1
   by_cases s2 : id = b
   ·have q2 : (id != b) = false := by simpa using s2
    clear s1 s2
    refine q_region (fun W => Below w0.heap.size w0 W) (by kernel_rfl) (by kernel_rfl) (kr.out.drew) ?_
    refine q_take (v := ?_) (by rfl) ?_ ?_
    rotate_left
    ·((intro w hSw; go_simp) <;> with_reducible rfl)
    try simp only [Act.put, zT, z0, zS]
    refine q_take (v := ?_) (by rfl) ?_ ?_
    rotate_left
    ·((intro w hSw; go_simp) <;> with_reducible rfl)
    try simp only [Act.put, zT, z0, zS]
    refine q_take (v := ?_) (by rfl) ?_ ?_
    rotate_left
    ·((intro w hSw; go_simp) <;> with_reducible rfl)
    try simp only [Act.put, zT, z0, zS]
    refine q_take (v := ?_) (by rfl) ?_ ?_
    rotate_left
    ·((intro w hSw; go_simp) <;> with_reducible rfl)
    try simp only [Act.put, zT, z0, zS]
    refine q_take (v := ?_) (by rfl) ?_ ?_
    rotate_left
    ·((intro w hSw; go_simp) <;> with_reducible rfl)
    try simp only [Act.put, zT, z0, zS]
    refine q_take (v := ?_) (by rfl) ?_ ?_
    rotate_left
    ·((intro w hSw; go_simp) <;> with_reducible rfl)
    try simp only [Act.put, zT, z0, zS]
    refine q_take (v := ?_) (by rfl) ?_ ?_
    rotate_left
    ·((intro w hSw; go_simp) <;> with_reducible rfl)
    try simp only [Act.put, zT, z0, zS]
    refine q_take (v := ?_) (by rfl) ?_ ?_
    rotate_left
    ·((intro w hSw; go_simp) <;> with_reducible rfl)
    try simp only [Act.put, zT, z0, zS]
    refine q_take (v := ?_) (by rfl) ?_ ?_
    rotate_left
    ·((intro w hSw; go_simp) <;> with_reducible rfl)
    try simp only [Act.put, zT, z0, zS]
    refine q_skip (by rfl) ?_
    try simp only [Act.put, zT, z0, zS]
    refine q_skip (by rfl) ?_
    try simp only [Act.put, zT, z0, zS]
    refine q_skip (by rfl) ?_
    try simp only [Act.put, zT, z0, zS]
    refine q_skip (by rfl) ?_
    try simp only [Act.put, zT, z0, zS]
    refine q_skip (by rfl) ?_
    try simp only [Act.put, zT, z0, zS]
    refine q_skip (by rfl) ?_
    try simp only [Act.put, zT, z0, zS]
    refine q_skip (by rfl) ?_
    try simp only [Act.put, zT, z0, zS]
    refine q_take (v := .bool false) (by rfl) (fun w hSw => ?_) ?_
    ·go_simp
    try simp only [Act.put, zT, z0, zS]
    refine q_nil ?_
    intro wq2 kq2
    go_wp2_with fail
    go_roundw
    case rel => exact ⟨k + 1, by omega, by go_num, kq2⟩
    case measure => simp [intOf]; omega
   ·have q2 : (id != b) = true := by simpa using s2
    obtain ⟨EI, hEI⟩ : ∃ E : Nat, Hid (E = endsN G.es id) := ⟨_, rfl⟩
    have cI1 := Lib.hid (show ∀ W, Below w0.heap.size w0 W → Calls Tryz.prog 45 #[.agg #[.slice x1 M1 x2, .slice x3 N2 x4, .slice x5 n3 x6], .int .i64 id] W fun e w'' => e = .returned (.int .i64 (EI : Int)) ∧ Below w0.heap.size w0 w'' from fun W B => by
     have h := cA.out id W B
     rw [endsN_other G.es a b id s1 s2, ← hEI.out] at h
     exact h)
    have cI2 := Lib.hid (show ∀ W, Below w0.heap.size w0 W → Calls Tryz.prog 45 #[.agg #[.slice (some ⟨vb, vo, none⟩) N1 a2, .slice b1 N2 b2, .slice c1 N3 c2], .int .i64 id] W fun e w'' => e = .returned (.int .i64 (EI : Int)) ∧ Below w0.heap.size w0 w'' from fun W B => by rw [hEI.out]; exact cG.out id W B)
    clear s1 s2 hEI
    refine q_region (fun W => Below w0.heap.size w0 W) (by kernel_rfl) (by kernel_rfl) (kr.out.drew) ?_
    refine q_take (v := ?_) (by rfl) ?_ ?_
    rotate_left
    ·((intro w hSw; go_simp) <;> with_reducible rfl)
    try simp only [Act.put, zT, z0, zS]
    refine q_take (v := ?_) (by rfl) ?_ ?_
    rotate_left
    ·((intro w hSw; go_simp) <;> with_reducible rfl)
    try simp only [Act.put, zT, z0, zS]
    refine q_take (v := ?_) (by rfl) ?_ ?_
    rotate_left
    ·((intro w hSw; go_simp) <;> with_reducible rfl)
    try simp only [Act.put, zT, z0, zS]
    refine q_take (v := ?_) (by rfl) ?_ ?_
    rotate_left
    ·((intro w hSw; go_simp) <;> with_reducible rfl)
    try simp only [Act.put, zT, z0, zS]
    refine q_take (v := ?_) (by rfl) ?_ ?_
    rotate_left
    ·((intro w hSw; go_simp) <;> with_reducible rfl)
    try simp only [Act.put, zT, z0, zS]
    refine q_take (v := ?_) (by rfl) ?_ ?_
    rotate_left
    ·((intro w hSw; go_simp) <;> with_reducible rfl)
    try simp only [Act.put, zT, z0, zS]
    refine q_take (v := ?_) (by rfl) ?_ ?_
    rotate_left
    ·((intro w hSw; go_simp) <;> with_reducible rfl)
    try simp only [Act.put, zT, z0, zS]
    refine q_take (v := ?_) (by rfl) ?_ ?_
    rotate_left
    ·((intro w hSw; go_simp) <;> with_reducible rfl)
    try simp only [Act.put, zT, z0, zS]
    refine q_take (v := ?_) (by rfl) ?_ ?_
    rotate_left
    ·((intro w hSw; go_simp) <;> with_reducible rfl)
    try simp only [Act.put, zT, z0, zS]
    refine q_take (v := ?_) (by rfl) ?_ ?_
    rotate_left
    ·((intro w hSw; obtain ⟨⟨t0, t1, t2⟩, n0, n1, n2⟩ := hC.out w hSw; go_simp) <;> with_reducible rfl)
    try simp only [Act.put, zT, z0, zS]
    refine q_take (v := ?_) (by rfl) ?_ ?_
    rotate_left
    ·((intro w hSw; go_simp) <;> with_reducible rfl)
    try simp only [Act.put, zT, z0, zS]
    refine q_call (v := .int .i64 (EI : Int)) Tryz.f45 (by rfl) rfl Tryz.func45 (by kernel_rfl) (by kernel_rfl) #[.agg #[.slice x1 M1 x2, .slice x3 N2 x4, .slice x5 n3 x6], .int .i64 id] (by simp [Act.eval]) (fun w hSw => cI1.out w hSw) ?_
    try simp only [Act.put, zT, z0, zS]
    refine q_take (v := ?_) (by rfl) ?_ ?_
    rotate_left
    ·((intro w hSw; obtain ⟨⟨t0, t1, t2⟩, n0, n1, n2⟩ := hC.out w hSw; go_simp) <;> with_reducible rfl)
    try simp only [Act.put, zT, z0, zS]
    refine q_take (v := ?_) (by rfl) ?_ ?_
    rotate_left
    ·((intro w hSw; go_simp) <;> with_reducible rfl)
    try simp only [Act.put, zT, z0, zS]
    refine q_call (v := .int .i64 (EI : Int)) Tryz.f45 (by rfl) rfl Tryz.func45 (by kernel_rfl) (by kernel_rfl) #[.agg #[.slice (some ⟨vb, vo, none⟩) N1 a2, .slice b1 N2 b2, .slice c1 N3 c2], .int .i64 id] (by simp [Act.eval]) (fun w hSw => cI2.out w hSw) ?_
    try simp only [Act.put, zT, z0, zS]
    refine q_take (v := ?_) (by rfl) ?_ ?_
    rotate_left
    ·((intro w hSw; go_simp) <;> with_reducible rfl)
    try simp only [Act.put, zT, z0, zS]
    refine q_take (v := ?_) (by rfl) ?_ ?_
    rotate_left
    ·((intro w hSw; go_simp) <;> with_reducible rfl)
    try simp only [Act.put, zT, z0, zS]
    refine q_nil ?_
    intro wq2 kq2
    go_wp2_with fail
    go_roundw
    case rel => exact ⟨k + 1, by omega, by go_num, kq2⟩
    case measure => simp [intOf]; omega
 ·have hk2 : k = N1 := by omega
  subst hk2
  have i1 : ¬ ((k : Nat) : Int) < (k : Int) := by omega
  rename_i K0 hK0
  have hK1 := Lib.hid hK0
  obtain ⟨⟨t0, t1, t2⟩, n0, n1, n2⟩ := hC.out wr kr.out
  have H1 := Lib.hid (H.out.to kr.out)
  clear hK0 hlt
  go_wp2_with fail
  refine hK1.out _ _ ?_
  refine wp_eq (D := sfx9 11) (by kernel_rfl) ?_
  exact con2b _ _ _ _ _ _ _ _ _ _ _ _ _ _ _ _ _ _ _ _ _ _ _ _ _ _ _ _ _ _ _ _ _ _ _ _ _ _ _ _ _ _ _ _ _ _ _ _ _ _ _ _ _ _ _ _ _ _ _ _ _ _ _ _ _ _ _ _ _ _ _ _ _ _ _ _ _ _ _ _ _ _ _ _ _ _ _ _ _ _ _ _ _ _ _ _ _ _ _ _ _ _ _ _ _ _ _ _ _ _ _ _ _ _ _ _ _ _ _ _ _ _ _ _ _ _ _ _ _ _ _ _ _ _ _ _ _ _ _ _ _ _ _ _ _ _ _ _ _ _ _ _ _ _ _ _ _ _ _ _ _ _ _ _ _ _ _ _ _ _ _ _ _ _ _ _ _ _ _ _ _ _ _ _ _ _ _ _ _ _ _ _ _ _ _ _ _ _ _ _ _ _ _ _ _ _ _ _ _ _ _ _ _ _ _ _ _ _ _ _ _ _ _ _ _ _ _ _ _ _ _ _ _ _ _ _ _ _ _ _ _ _ _ _ _ _ _ _ _ _ _ _ _ _ _ _ _ _ _ _ _ _ _ _ _ _ _ _ _ _ _ _ _ _ _ _ _ _ _ _ _ _ _ _ _ _ _ _ _ _ _ _ _ _ _ _ _ _ _ _ _ _ pt G a fr dep a1 b1 c1 k a2 N2 b2 N3 c2 w wr H1 hfr hdep
end Go.Proofs.YtlaldnlgapeckaaGreat
