/- GraphContracts, the second part: what contraction leads to; the number that splitting gives. -/
import Derived.Test.YtlaldnlgapeckaaGreatYC3
import Derived.Test.YtlaldnlgapeckaaGreatYH
namespace Go.Proofs.YtlaldnlgapeckaaGreat
open Go.RowKit
theorem spC_size (a x s : Int) : (Tryz.prog.info? 33).map (·.size) = some (spC a x s (.slice none 0 0)).size := size33
theorem spC_all (a x s : Int) : (spC a x s (.slice none 0 0)).all (·.oneCell') = true := by simp [spC, Value.oneCell']
set_option linter.unusedSimpArgs false in
set_option maxRecDepth 1000000 in
set_option maxHeartbeats 8000000 in
theorem con2b (q0 q1 q2 q3 q4 q6 q7 q8 q9 q10 q11 q12 q16 q17 q18 q20 q21 q22 q23 q24 q25 q26 q27 q28 q29 q30 q31 q32 q33 q34 q35 q36 q37 q38 q39 q40 q41 q42 q43 q44 q45 q46 q47 q48 q49 q50 q51 q52 q53 q54 q55 q56 q57 q58 q59 q60 q61 q62 q63 q64 q65 q66 q67 q68 q69 q70 q71 q72 q73 q74 q75 q76 q77 q78 q79 q80 q81 q82 q83 q84 q85 q86 q87 q88 q89 q90 q91 q92 q93 q94 q95 q96 q97 q98 q99 q100 q101 q102 q103 q104 q105 q106 q107 q108 q109 q110 q111 q112 q113 q114 q115 q116 q117 q118 q119 q120 q121 q122 q123 q124 q125 q126 q127 q128 q129 q130 q131 q132 q133 q134 q135 q136 q137 q138 q139 q140 q141 q142 q143 q144 q145 q146 q147 q148 q149 q150 q151 q152 q153 q154 q155 q156 q157 q158 q159 q160 q161 q162 q163 q164 q165 q166 q167 q168 q169 q170 q171 q172 q173 q174 q175 q176 q177 q178 q179 q180 q181 q182 q183 q184 q185 q186 q187 q188 q189 q190 q191 q192 q193 q194 q195 q196 q197 q198 q199 q200 q201 q202 q203 q204 q205 q206 q207 q208 q209 q210 q211 q212 q213 q214 q215 q216 q217 q218 q219 q220 q221 q222 q223 q224 q225 q226 q227 q228 q229 q230 q231 q232 q233 q234 q235 q236 q237 q238 q239 q240 q241 q242 q243 q244 q245 q246 q247 q248 q249 q250 q251 q252 q253 q254 q255 q256 q257 q258 q259 q260 q261 q262 q263 q264 q265 q266 q267 q268 q269 q270 q271 q272 q273 q274 q275 q276 q277 q278 q279 q280 q281 q282 q283 q284 q285 q286 q287 q288 q289 q290 q291 q292 q293 q294 q295 q296 q297 q298 q299 q300 q301 q302 q303 q304 q305 q306 : Value) (pt : Nat) (G : Gr) (a fr : Int) (dep : Bool) (a1 b1 c1 : Option Addr) (N1 a2 N2 b2 N3 c2 : Nat) (w w0 : World)
  (H : Hid (CtH G a pt a1 b1 c1 N1 a2 N2 b2 N3 c2 w w0)) (hfr : Hid (i64B fr)) (hdep : Hid (dep = decide (a ∈ G.ds))) :
  Code.wp Tryz.prog (sfx9 11) (bodyPost Tryz.prog Tryz.f9 fun e w' => e = .returned (.bool true) ∧ Below w.heap.size w w') ⟨(q0 :: q1 :: q2 :: q3 :: q4 :: .int .i64 fr :: q6 :: q7 :: q8 :: q9 :: q10 :: q11 :: q12 :: .bool true :: .pointer (some ⟨pt, 0, none⟩) :: .int .i64 a :: q16 :: q17 :: q18 :: .bool dep :: q20 :: q21 :: q22 :: q23 :: q24 :: q25 :: q26 :: q27 :: q28 :: q29 :: q30 :: q31 :: q32 :: q33 :: q34 :: q35 :: q36 :: q37 :: q38 :: q39 :: q40 :: q41 :: q42 :: q43 :: q44 :: q45 :: q46 :: q47 :: q48 :: q49 :: q50 :: q51 :: q52 :: q53 :: q54 :: q55 :: q56 :: q57 :: q58 :: q59 :: q60 :: q61 :: q62 :: q63 :: q64 :: q65 :: q66 :: q67 :: q68 :: q69 :: q70 :: q71 :: q72 :: q73 :: q74 :: q75 :: q76 :: q77 :: q78 :: q79 :: q80 :: q81 :: q82 :: q83 :: q84 :: q85 :: q86 :: q87 :: q88 :: q89 :: q90 :: q91 :: q92 :: q93 :: q94 :: q95 :: q96 :: q97 :: q98 :: q99 :: q100 :: q101 :: q102 :: q103 :: q104 :: q105 :: q106 :: q107 :: q108 :: q109 :: q110 :: q111 :: q112 :: q113 :: q114 :: q115 :: q116 :: q117 :: q118 :: q119 :: q120 :: q121 :: q122 :: q123 :: q124 :: q125 :: q126 :: q127 :: q128 :: q129 :: q130 :: q131 :: q132 :: q133 :: q134 :: q135 :: q136 :: q137 :: q138 :: q139 :: q140 :: q141 :: q142 :: q143 :: q144 :: q145 :: q146 :: q147 :: q148 :: q149 :: q150 :: q151 :: q152 :: q153 :: q154 :: q155 :: q156 :: q157 :: q158 :: q159 :: q160 :: q161 :: q162 :: q163 :: q164 :: q165 :: q166 :: q167 :: q168 :: q169 :: q170 :: q171 :: q172 :: q173 :: q174 :: q175 :: q176 :: q177 :: q178 :: q179 :: q180 :: q181 :: q182 :: q183 :: q184 :: q185 :: q186 :: q187 :: q188 :: q189 :: q190 :: q191 :: q192 :: q193 :: q194 :: q195 :: q196 :: q197 :: q198 :: q199 :: q200 :: q201 :: q202 :: q203 :: q204 :: q205 :: q206 :: q207 :: q208 :: q209 :: q210 :: q211 :: q212 :: q213 :: q214 :: q215 :: q216 :: q217 :: q218 :: q219 :: q220 :: q221 :: q222 :: q223 :: q224 :: q225 :: q226 :: q227 :: q228 :: q229 :: q230 :: q231 :: q232 :: q233 :: q234 :: q235 :: q236 :: q237 :: q238 :: q239 :: q240 :: q241 :: q242 :: q243 :: q244 :: q245 :: q246 :: q247 :: q248 :: q249 :: q250 :: q251 :: q252 :: q253 :: q254 :: q255 :: q256 :: q257 :: q258 :: q259 :: q260 :: q261 :: q262 :: q263 :: q264 :: q265 :: q266 :: q267 :: q268 :: q269 :: q270 :: q271 :: q272 :: q273 :: q274 :: q275 :: q276 :: q277 :: q278 :: q279 :: q280 :: q281 :: q282 :: q283 :: q284 :: q285 :: q286 :: q287 :: q288 :: q289 :: q290 :: q291 :: q292 :: q293 :: q294 :: q295 :: q296 :: q297 :: q298 :: q299 :: q300 :: q301 :: q302 :: q303 :: q304 :: q305 :: q306 :: []).toArray, []⟩ w0 := by
 conv => arg 2; whnf
 have pk1 := Lib.hid (fun W => pick_any fr 24 W hfr.out.1 hfr.out.2 (by omega) (by omega))
 obtain ⟨x, hx, hx0⟩ : ∃ x : Int, Hid (x = pk fr 24) ∧ Hid (0 ≤ x ∧ x ≤ 23) := ⟨_, rfl, ⟨pk_lo fr 24 (by omega), by have := pk_lt fr 24 (by omega); omega⟩⟩
 rw [← hx.out] at pk1
 obtain ⟨t0, t1, t2⟩ := H.out.t
 have z1 := H.out.sz.1
 go_wp2_with fail
 with_reducible refine (pk1.out _).mono ?_
 rintro e w3 ⟨rfl, rfl⟩
 have cPl := Lib.hid (PlaceR_any (.agg #[.slice a1 N1 a2, .slice b1 N2 b2, .slice c1 N3 c2]) G x w0 H.out.gv (by rw [← H.out.n1]; omega))
 go_wp2_with fail
 with_reducible refine cPl.out.mono ?_
 rintro e w4 ⟨rfl, b⟩
 have H4 := Lib.hid (H.out.to b)
 clear t0 t1 t2 cPl b H
 by_cases hk : x ∈ keysV G.vs
 ·have hp := (plI_ge (keysV G.vs) x).2 hk
  generalize plI (keysV G.vs) x = P at *
  clear hk
  go_wp2_with fail
  go_ret
  exact ⟨rfl, H4.out.kw⟩
 rw [plI_no _ _ hk]
 cases dep with
 | true =>
  clear hk
  go_wp2_with fail
  go_ret
  exact ⟨rfl, H4.out.kw⟩
 | false =>
 have hd : Hid (a ∉ G.ds) := by
  show _
  intro h
  have e := hdep.out
  rw [decide_eq_true h] at e
  cases e
 have hn : Hid (x ∉ keysV G.vs) := hk
 clear hk hdep
 obtain ⟨p, hp, e1, e2⟩ := plV_mem G.vs a H4.out.ha
 rw [← H4.out.n1] at hp
 obtain ⟨vb, vo, u, ha1, hu, huk, hvb, c0, c1'⟩ := H4.out.vert p hp
 have hs : Hid (0 ≤ u.side ∧ u.side ≤ 3) := ((Vx.ok_iff u).1 (H4.out.ok.vok u hu)).2
 subst ha1
 have j0 : (0 : Int) ≤ (p : Int) := by omega
 have j1 : (p : Int) < (N1 : Int) := by omega
 have e1h := Lib.hid e1
 generalize u.side = s at *
 have hT := Lib.hid (show ∀ W, Below w4.heap.size w4 W → W.cell? ⟨pt, 0, none⟩ = some (.slice (some ⟨vb, vo, none⟩) N1 a2) ∧ W.cell? ⟨pt, 1, none⟩ = some (.slice b1 N2 b2) ∧ W.cell? ⟨pt, 2, none⟩ = some (.slice c1 N3 c2) ∧ W.cell? ⟨vb, vo + p * 2 + 1, none⟩ = some (.int .i64 s) from fun W B => by
  have h := (H4.out.to B).t
  exact ⟨h.1, h.2.1, h.2.2, by rw [B.cell hvb]; exact c1'⟩)
 have cPa := Lib.hid (show ∀ W, Below w4.heap.size w4 W → Calls Tryz.prog 43 #[.agg #[.slice (some ⟨vb, vo, none⟩) N1 a2, .slice b1 N2 b2, .slice c1 N3 c2], .int .i64 a] W fun e w' => e = .returned (.int .i64 (p : Int)) ∧ Below W.heap.size W w' from fun W B => (PlaceR_any _ G a W (H4.out.to B).gv (by rw [← H4.out.n1]; omega)).mono fun e w' h => ⟨by rw [← e1h.out]; exact h.1, h.2⟩)
 clear hu huk hvb c0 c1' e1 e2 e1h hp
 have hS0 := Lib.hid (hT.out w4.drew (Below.refl _ w4).drew)
 go_upto_region 27 with (fail)
 rename_i K0 hK0
 have hK1 := Lib.hid hK0
 clear hK0
 refine wp_region_F (fun w' : World => w'.cell? ⟨pt, 0, none⟩ = some (.slice (some ⟨vb, vo, none⟩) N1 a2) ∧ w'.cell? ⟨pt, 1, none⟩ = some (.slice b1 N2 b2) ∧ w'.cell? ⟨pt, 2, none⟩ = some (.slice c1 N3 c2) ∧ w'.cell? ⟨vb, vo + p * 2 + 1, none⟩ = some (.int .i64 s)) 13 (by kernel_rfl) hS0.out (fun hHeld => ?_)
 refine tkF (i := 0) (oi := ⟨some 165, .move (.tmp 15), _, _, _, none⟩) (v := ?_) rfl ?_ (by assumption) ?_
 rotate_left
 ·(intro w h; (try dsimp only at h); go_simp) <;> with_reducible rfl
 try simp only [Act.put, zT, z0, zS]
 refine tkF (i := 1) (oi := ⟨some 166, .move (.tmp 23), _, _, _, none⟩) (v := ?_) rfl ?_ (by assumption) ?_
 rotate_left
 ·(intro w h; (try dsimp only at h); go_simp) <;> with_reducible rfl
 try simp only [Act.put, zT, z0, zS]
 refine tkF (i := 2) (oi := ⟨some 167, .fieldAddr 26 (.tmp 14) 0, _, _, _, none⟩) (v := ?_) rfl ?_ (by assumption) ?_
 rotate_left
 ·(intro w h; (try dsimp only at h); go_simp) <;> with_reducible rfl
 try simp only [Act.put, zT, z0, zS]
 refine tkF (i := 3) (oi := ⟨some 168, .load 22 (.tmp 167), _, _, _, none⟩) (v := ?_) rfl ?_ (by assumption) ?_
 rotate_left
 ·(intro w h; (try dsimp only at h); go_simp) <;> with_reducible rfl
 try simp only [Act.put, zT, z0, zS]
 refine tkF (i := 4) (oi := ⟨some 169, .load 26 (.tmp 14), _, _, _, none⟩) (v := ?_) rfl ?_ (by assumption) ?_
 rotate_left
 ·(intro w h; (try dsimp only at h); go_simp) <;> with_reducible rfl
 try simp only [Act.put, zT, z0, zS]
 refine tkF (i := 5) (oi := ⟨some 170, .move (.tmp 15), _, _, _, none⟩) (v := ?_) rfl ?_ (by assumption) ?_
 rotate_left
 ·(intro w h; (try dsimp only at h); go_simp) <;> with_reducible rfl
 try simp only [Act.put, zT, z0, zS]
 refine wpAnyF_ready (rs := [6, 12]) (by kernel_rfl) (by simp) ?_
 refine AllReadyF.cons (o := ⟨some 171, .call { callee := .value (.func 43), args := #[(.tmp 169), (.tmp 170)], argTypes := #[26, 3] }, _, _, _, none⟩) rfl (fun K hK => ?_) ?_
 ·skip
  go_simp
  refine (cPa.out w4.drew (Below.refl _ w4).drew).mono ?_
  rintro e w5 ⟨rfl, bc⟩
  have bch := Lib.hid bc
  clear bc
  go_wp2_with fail
  have B5 := Lib.hid ((Below.refl _ w4).drew.trans bch.out)
  refine hK.out _ _ ?_ (fun hHeld => ?_)
  ·exact hT.out w5 B5.out
  clear hK K
  try simp only [Act.put, zT, z0, zS]
  refine tkF (i := 7) (oi := ⟨some 172, .indexAddr 22 (.tmp 168) (.tmp 171), _, _, _, none⟩) (v := ?_) rfl ?_ (by assumption) ?_
  rotate_left
  ·(intro w h; (try dsimp only at h); go_simp) <;> with_reducible rfl
  try simp only [Act.put, zT, z0, zS]
  refine tkF (i := 8) (oi := ⟨some 173, .fieldAddr 29 (.tmp 172) 1, _, _, _, none⟩) (v := ?_) rfl ?_ (by assumption) ?_
  rotate_left
  ·(intro w h; (try dsimp only at h); go_simp) <;> with_reducible rfl
  try simp only [Act.put, zT, z0, zS]
  refine tkF (i := 9) (oi := ⟨some 174, .load 3 (.tmp 173), _, _, _, none⟩) (v := ?_) rfl ?_ (by assumption) ?_
  rotate_left
  ·(intro w h; (try dsimp only at h); go_simp) <;> with_reducible rfl
  try simp only [Act.put, zT, z0, zS]
  refine tkF (i := 10) (oi := ⟨some 175, .build 29 #[(0, (.tmp 166)), (1, (.tmp 174))], _, _, _, none⟩) (v := ?_) rfl ?_ (by assumption) ?_
  rotate_left
  ·(intro w h; (try dsimp only at h); go_simp) <;> with_reducible rfl
  try simp only [Act.put, zT, z0, zS]
  refine tkF (i := 11) (oi := ⟨some 176, .build 33 #[(0, (.const (.int .i64 8))), (3, (.tmp 165)), (1, (.tmp 175))], _, _, _, none⟩) (v := ?_) rfl ?_ (by assumption) ?_
  rotate_left
  ·(intro w h; (try dsimp only at h); go_simp) <;> with_reducible rfl
  try simp only [Act.put, zT, z0, zS]
  refine wpAnyF_ready (rs := [12]) (by kernel_rfl) (by simp) ?_
  refine AllReadyF.cons (o := ⟨some 24, .alloc 33, _, _, _, none⟩) rfl (fun K hK => ?_) ?_
  ·skip
   go_wp2_with fail
   refine hK.out _ _ ?_ (fun hHeld => ?_)
   ·exact hT.out _ (B5.out.alloc B5.out.size _)
   clear hK K
   try simp only [Act.put, zT, z0, zS]
   refine wpAnyF_ready (rs := [13]) (by kernel_rfl) (by simp) ?_
   refine AllReadyF.last (o := ⟨none, .store 33 (.tmp 24) (.tmp 176), _, _, _, none⟩) rfl (fun K hK => ?_) ?_
   ·skip
    have r7 : (w5.alloc (.cells zCells 33)).heap[w5.heap.size]? = some (.cells zCells 33 (0, 0)) := heap_alloc_new w5 _
    refine wp_store_row 33 (.tmp 24) (.tmp 176) rfl w5.heap.size (spC a x s (.slice none 0 0)) rfl rfl 33 _ r7 (spC_size a x s) rfl (spC_all a x s) ?_
    refine hK.out _ _ ?_
    clear hK K
    try simp only [Act.put, zT, z0, zS]
    refine wpAnyF_done (by kernel_rfl) ?_ _
    refine hK1.out _ _ ?_
    refine wp_eq (D := sfx9 14) (by kernel_rfl) ?_
    have hSp := Lib.hid (show SpS w4 (w5.heap.size) a x s (.slice none 0 0) [] ((w5.alloc (.cells zCells 33)).setRow w5.heap.size (spC a x s (.slice none 0 0))) from ⟨setRow_heap _ _ _ _ _ _ r7, World.ownsRow_nil _ _ _ _, below_row (B5.out.alloc B5.out.size _) B5.out.size _, B5.out.size, by simp⟩)
    exact con3 _ _ _ _ _ _ _ _ _ _ _ _ _ _ _ _ _ _ _ _ _ _ _ _ _ _ _ _ _ _ _ _ _ _ _ _ _ _ _ _ _ _ _ _ _ _ _ _ _ _ _ _ _ _ _ _ _ _ _ _ _ _ _ _ _ _ _ _ _ _ _ _ _ _ _ _ _ _ _ _ _ _ _ _ _ _ _ _ _ _ _ _ _ _ _ _ _ _ _ _ _ _ _ _ _ _ _ _ _ _ _ _ _ _ _ _ _ _ _ _ _ _ _ _ _ _ _ _ _ _ _ _ _ _ _ _ _ _ _ _ _ _ _ _ _ _ _ _ _ _ _ _ _ _ _ _ _ _ _ _ _ _ _ _ _ _ _ _ _ _ _ _ _ _ _ _ _ _ _ _ _ _ _ _ _ _ _ _ _ _ _ _ _ _ _ _ _ _ _ _ _ _ _ _ _ _ _ _ _ _ _ _ _ _ _ _ _ _ _ _ _ _ _ _ _ _ _ _ _ _ _ _ _ _ _ _ _ _ _ _ _ _ _ _ _ _ _ _ _ _ _ _ _ _ _ _ _ _ _ _ _ _ _ _ _ _ _ _ _ _ _ _ _ _ _ _ _ _ _ _ _ _ _ _ _ _ _ _ _ _ _ _ _ _ _ _ _ _ _ _ _ _ pt (w5.heap.size) G a x s (some ⟨vb, vo, none⟩) b1 c1 N1 a2 N2 b2 N3 c2 w w4 _ H4 hd hx0 hn hs hSp
   exact AllReadyF.nil
  exact AllReadyF.nil
 refine AllReadyF.cons (o := ⟨some 24, .alloc 33, _, _, _, none⟩) rfl (fun K hK => ?_) ?_
 ·skip
  go_wp2_with fail
  have B5 := Lib.hid ((Below.refl _ w4).drew.alloc (Nat.le_refl _) (.cells zCells 33))
  refine hK.out _ _ ?_ (fun hHeld => ?_)
  ·exact hT.out _ B5.out
  clear hK K
  try simp only [Act.put, zT, z0, zS]
  refine wpAnyF_ready (rs := [6]) (by kernel_rfl) (by simp) ?_
  refine AllReadyF.cons (o := ⟨some 171, .call { callee := .value (.func 43), args := #[(.tmp 169), (.tmp 170)], argTypes := #[26, 3] }, _, _, _, none⟩) rfl (fun K hK => ?_) ?_
  ·skip
   go_simp
   refine (cPa.out (w4.drew.alloc (.cells zCells 33)) B5.out).mono ?_
   rintro e w6 ⟨rfl, bc⟩
   have bch := Lib.hid bc
   clear bc
   go_wp2_with fail
   have B6 := Lib.hid (B5.out.trans (bch.out.mono B5.out.size))
   have r7 := Lib.hid ((bch.out.block w4.heap.size (by simp)).trans (heap_alloc_new w4.drew (.cells zCells 33)))
   refine hK.out _ _ ?_ (fun hHeld => ?_)
   ·exact hT.out w6 B6.out
   clear hK K
   try simp only [Act.put, zT, z0, zS]
   refine tkF (i := 7) (oi := ⟨some 172, .indexAddr 22 (.tmp 168) (.tmp 171), _, _, _, none⟩) (v := ?_) rfl ?_ (by assumption) ?_
   rotate_left
   ·(intro w h; (try dsimp only at h); go_simp) <;> with_reducible rfl
   try simp only [Act.put, zT, z0, zS]
   refine tkF (i := 8) (oi := ⟨some 173, .fieldAddr 29 (.tmp 172) 1, _, _, _, none⟩) (v := ?_) rfl ?_ (by assumption) ?_
   rotate_left
   ·(intro w h; (try dsimp only at h); go_simp) <;> with_reducible rfl
   try simp only [Act.put, zT, z0, zS]
   refine tkF (i := 9) (oi := ⟨some 174, .load 3 (.tmp 173), _, _, _, none⟩) (v := ?_) rfl ?_ (by assumption) ?_
   rotate_left
   ·(intro w h; (try dsimp only at h); go_simp) <;> with_reducible rfl
   try simp only [Act.put, zT, z0, zS]
   refine tkF (i := 10) (oi := ⟨some 175, .build 29 #[(0, (.tmp 166)), (1, (.tmp 174))], _, _, _, none⟩) (v := ?_) rfl ?_ (by assumption) ?_
   rotate_left
   ·(intro w h; (try dsimp only at h); go_simp) <;> with_reducible rfl
   try simp only [Act.put, zT, z0, zS]
   refine tkF (i := 11) (oi := ⟨some 176, .build 33 #[(0, (.const (.int .i64 8))), (3, (.tmp 165)), (1, (.tmp 175))], _, _, _, none⟩) (v := ?_) rfl ?_ (by assumption) ?_
   rotate_left
   ·(intro w h; (try dsimp only at h); go_simp) <;> with_reducible rfl
   try simp only [Act.put, zT, z0, zS]
   refine wpAnyF_ready (rs := [13]) (by kernel_rfl) (by simp) ?_
   refine AllReadyF.last (o := ⟨none, .store 33 (.tmp 24) (.tmp 176), _, _, _, none⟩) rfl (fun K hK => ?_) ?_
   ·skip
    refine wp_store_row 33 (.tmp 24) (.tmp 176) rfl w4.heap.size (spC a x s (.slice none 0 0)) rfl rfl 33 _ r7.out (spC_size a x s) rfl (spC_all a x s) ?_
    refine hK.out _ _ ?_
    clear hK K
    try simp only [Act.put, zT, z0, zS]
    refine wpAnyF_done (by kernel_rfl) ?_ _
    refine hK1.out _ _ ?_
    refine wp_eq (D := sfx9 14) (by kernel_rfl) ?_
    have hSp := Lib.hid (show SpS w4 (w4.heap.size) a x s (.slice none 0 0) [] (w6.setRow w4.heap.size (spC a x s (.slice none 0 0))) from ⟨setRow_heap _ _ _ _ _ _ r7.out, World.ownsRow_nil _ _ _ _, below_row B6.out (Nat.le_refl _) _, Nat.le_refl _, by have h := (Array.getElem?_eq_some_iff.1 r7.out).1; simp; omega⟩)
    exact con3 _ _ _ _ _ _ _ _ _ _ _ _ _ _ _ _ _ _ _ _ _ _ _ _ _ _ _ _ _ _ _ _ _ _ _ _ _ _ _ _ _ _ _ _ _ _ _ _ _ _ _ _ _ _ _ _ _ _ _ _ _ _ _ _ _ _ _ _ _ _ _ _ _ _ _ _ _ _ _ _ _ _ _ _ _ _ _ _ _ _ _ _ _ _ _ _ _ _ _ _ _ _ _ _ _ _ _ _ _ _ _ _ _ _ _ _ _ _ _ _ _ _ _ _ _ _ _ _ _ _ _ _ _ _ _ _ _ _ _ _ _ _ _ _ _ _ _ _ _ _ _ _ _ _ _ _ _ _ _ _ _ _ _ _ _ _ _ _ _ _ _ _ _ _ _ _ _ _ _ _ _ _ _ _ _ _ _ _ _ _ _ _ _ _ _ _ _ _ _ _ _ _ _ _ _ _ _ _ _ _ _ _ _ _ _ _ _ _ _ _ _ _ _ _ _ _ _ _ _ _ _ _ _ _ _ _ _ _ _ _ _ _ _ _ _ _ _ _ _ _ _ _ _ _ _ _ _ _ _ _ _ _ _ _ _ _ _ _ _ _ _ _ _ _ _ _ _ _ _ _ _ _ _ _ _ _ _ _ _ _ _ _ _ _ _ _ _ _ _ _ _ _ pt (w4.heap.size) G a x s (some ⟨vb, vo, none⟩) b1 c1 N1 a2 N2 b2 N3 c2 w w4 _ H4 hd hx0 hn hs hSp
   exact AllReadyF.nil
  exact AllReadyF.nil
 exact AllReadyF.nil
end Go.Proofs.YtlaldnlgapeckaaGreat
