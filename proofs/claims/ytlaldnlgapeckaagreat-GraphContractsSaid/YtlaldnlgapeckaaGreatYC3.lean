/- GraphContracts, the third part: the ends at a vertex are gathered. -/
import Derived.Test.YtlaldnlgapeckaaGreatYC4
import Derived.Test.YtlaldnlgapeckaaGreatYH
namespace Go.Proofs.YtlaldnlgapeckaaGreat
open Go.RowKit
set_option linter.unusedSimpArgs false in
set_option maxRecDepth 1000000 in
set_option maxHeartbeats 8000000 in
theorem con3 (q0 q1 q2 q3 q4 q5 q6 q7 q8 q9 q10 q11 q12 q16 q17 q18 q19 q20 q21 q22 q25 q26 q27 q28 q29 q30 q31 q32 q33 q34 q35 q36 q37 q38 q39 q40 q41 q42 q43 q44 q45 q46 q47 q48 q49 q50 q51 q52 q53 q54 q55 q56 q57 q58 q59 q60 q61 q62 q63 q64 q65 q66 q67 q68 q69 q70 q71 q72 q73 q74 q75 q76 q77 q78 q79 q80 q81 q82 q83 q84 q85 q86 q87 q88 q89 q90 q91 q92 q93 q94 q95 q96 q97 q98 q99 q100 q101 q102 q103 q104 q105 q106 q107 q108 q109 q110 q111 q112 q113 q114 q115 q116 q117 q118 q119 q120 q121 q122 q123 q124 q125 q126 q127 q128 q129 q130 q131 q132 q133 q134 q135 q136 q137 q138 q139 q140 q141 q142 q143 q144 q145 q146 q147 q148 q149 q150 q151 q152 q153 q154 q155 q156 q157 q158 q159 q160 q161 q162 q163 q164 q165 q166 q167 q168 q169 q170 q171 q172 q173 q174 q175 q176 q177 q178 q179 q180 q181 q182 q183 q184 q185 q186 q187 q188 q189 q190 q191 q192 q193 q194 q195 q196 q197 q198 q199 q200 q201 q202 q203 q204 q205 q206 q207 q208 q209 q210 q211 q212 q213 q214 q215 q216 q217 q218 q219 q220 q221 q222 q223 q224 q225 q226 q227 q228 q229 q230 q231 q232 q233 q234 q235 q236 q237 q238 q239 q240 q241 q242 q243 q244 q245 q246 q247 q248 q249 q250 q251 q252 q253 q254 q255 q256 q257 q258 q259 q260 q261 q262 q263 q264 q265 q266 q267 q268 q269 q270 q271 q272 q273 q274 q275 q276 q277 q278 q279 q280 q281 q282 q283 q284 q285 q286 q287 q288 q289 q290 q291 q292 q293 q294 q295 q296 q297 q298 q299 q300 q301 q302 q303 q304 q305 q306 : Value) (pt ps : Nat) (G : Gr) (a x s : Int) (a1 b1 c1 : Option Addr) (N1 a2 N2 b2 N3 c2 : Nat) (w w0 w1 : World)
  (H : Hid (CtH G a pt a1 b1 c1 N1 a2 N2 b2 N3 c2 w w0)) (hd : Hid (a ∉ G.ds)) (hx : Hid (0 ≤ x ∧ x ≤ 23)) (hn : Hid (x ∉ keysV G.vs)) (hs : Hid (0 ≤ s ∧ s ≤ 3)) (S : Hid (SpS w0 ps a x s (.slice none 0 0) [] w1)) :
  Code.wp Tryz.prog (sfx9 14) (bodyPost Tryz.prog Tryz.f9 fun e w' => e = .returned (.bool true) ∧ Below w.heap.size w w') ⟨(q0 :: q1 :: q2 :: q3 :: q4 :: q5 :: q6 :: q7 :: q8 :: q9 :: q10 :: q11 :: q12 :: .bool true :: .pointer (some ⟨pt, 0, none⟩) :: .int .i64 a :: q16 :: q17 :: q18 :: q19 :: q20 :: q21 :: q22 :: .int .i64 x :: .pointer (some ⟨ps, 0, none⟩) :: q25 :: q26 :: q27 :: q28 :: q29 :: q30 :: q31 :: q32 :: q33 :: q34 :: q35 :: q36 :: q37 :: q38 :: q39 :: q40 :: q41 :: q42 :: q43 :: q44 :: q45 :: q46 :: q47 :: q48 :: q49 :: q50 :: q51 :: q52 :: q53 :: q54 :: q55 :: q56 :: q57 :: q58 :: q59 :: q60 :: q61 :: q62 :: q63 :: q64 :: q65 :: q66 :: q67 :: q68 :: q69 :: q70 :: q71 :: q72 :: q73 :: q74 :: q75 :: q76 :: q77 :: q78 :: q79 :: q80 :: q81 :: q82 :: q83 :: q84 :: q85 :: q86 :: q87 :: q88 :: q89 :: q90 :: q91 :: q92 :: q93 :: q94 :: q95 :: q96 :: q97 :: q98 :: q99 :: q100 :: q101 :: q102 :: q103 :: q104 :: q105 :: q106 :: q107 :: q108 :: q109 :: q110 :: q111 :: q112 :: q113 :: q114 :: q115 :: q116 :: q117 :: q118 :: q119 :: q120 :: q121 :: q122 :: q123 :: q124 :: q125 :: q126 :: q127 :: q128 :: q129 :: q130 :: q131 :: q132 :: q133 :: q134 :: q135 :: q136 :: q137 :: q138 :: q139 :: q140 :: q141 :: q142 :: q143 :: q144 :: q145 :: q146 :: q147 :: q148 :: q149 :: q150 :: q151 :: q152 :: q153 :: q154 :: q155 :: q156 :: q157 :: q158 :: q159 :: q160 :: q161 :: q162 :: q163 :: q164 :: q165 :: q166 :: q167 :: q168 :: q169 :: q170 :: q171 :: q172 :: q173 :: q174 :: q175 :: q176 :: q177 :: q178 :: q179 :: q180 :: q181 :: q182 :: q183 :: q184 :: q185 :: q186 :: q187 :: q188 :: q189 :: q190 :: q191 :: q192 :: q193 :: q194 :: q195 :: q196 :: q197 :: q198 :: q199 :: q200 :: q201 :: q202 :: q203 :: q204 :: q205 :: q206 :: q207 :: q208 :: q209 :: q210 :: q211 :: q212 :: q213 :: q214 :: q215 :: q216 :: q217 :: q218 :: q219 :: q220 :: q221 :: q222 :: q223 :: q224 :: q225 :: q226 :: q227 :: q228 :: q229 :: q230 :: q231 :: q232 :: q233 :: q234 :: q235 :: q236 :: q237 :: q238 :: q239 :: q240 :: q241 :: q242 :: q243 :: q244 :: q245 :: q246 :: q247 :: q248 :: q249 :: q250 :: q251 :: q252 :: q253 :: q254 :: q255 :: q256 :: q257 :: q258 :: q259 :: q260 :: q261 :: q262 :: q263 :: q264 :: q265 :: q266 :: q267 :: q268 :: q269 :: q270 :: q271 :: q272 :: q273 :: q274 :: q275 :: q276 :: q277 :: q278 :: q279 :: q280 :: q281 :: q282 :: q283 :: q284 :: q285 :: q286 :: q287 :: q288 :: q289 :: q290 :: q291 :: q292 :: q293 :: q294 :: q295 :: q296 :: q297 :: q298 :: q299 :: q300 :: q301 :: q302 :: q303 :: q304 :: q305 :: q306 :: []).toArray, []⟩ w1 := by
 conv => arg 2; whnf
 have z2 := H.out.sz.2.1
 go_wp2_with fail
 go_loopw [25] (fun i wr => ∃ (k : Nat) (z1 : Option Addr) (z2 z3 : Nat), k ≤ N2 ∧ i = .int .i64 k ∧ Hid (SpS w0 ps a x s (.slice z1 z2 z3) (endsF (G.es.take k) a) wr)) (fun i _ => N2 - (intOf i).toNat)
 case atStart => exact ⟨0, none, 0, 0, by omega, rfl, S.out⟩
 case round =>
 clear S
 obtain ⟨k, v1, v2, v3, hk, rfl, hS⟩ := hrel
 have i0 : (0 : Int) ≤ (k : Int) := by omega
 by_cases hlt : k < N2
 ·have i1 : (k : Int) < (N2 : Int) := by omega
  obtain ⟨eb, eo, y, hb1, hym, hyk, heb, hEd⟩ := H.out.edge k hlt
  have hkl : k < G.es.length := by rw [← H.out.n2]; exact hlt
  have hsn : Hid (endsF (G.es.take (k + 1)) a = endsF (G.es.take k) a ++ ((if y.src = a then [2 * y.id] else []) ++ (if y.dst = a then [2 * y.id + 1] else []))) := by
   show _ = _
   rw [endsF_snoc G.es a k hkl, (List.getElem?_eq_some_iff.1 hyk).2]
  have hid := H.out.ok.ids y hym
  have m2 : IntKind.i64.wrap (2 * y.id) = 2 * y.id := IntWalk.i64_in _ (by omega)
  have m3 : IntKind.i64.wrap (2 * y.id + 1) = 2 * y.id + 1 := IntWalk.i64_in _ (by omega)
  have hL : (endsF (G.es.take k) a).length ≤ 80 := by have := endsF_len (G.es.take k) a; rw [List.length_take] at this; omega
  subst hb1
  have hEh := Lib.hid (show ∀ W, Below w0.heap.size w0 W → EdAt W eb (eo + k * 6) y from fun W B => by
   obtain ⟨d0, d1, d2, d3, d4, d5⟩ := hEd
   exact ⟨by rw [B.cell heb]; exact d0, by rw [B.cell heb]; exact d1, by rw [B.cell heb]; exact d2, by rw [B.cell heb]; exact d3, by rw [B.cell heb]; exact d4, by rw [B.cell heb]; exact d5⟩)
  have hT := Lib.hid (fun W (B : Below w0.heap.size w0 W) => (H.out.to B).t)
  obtain ⟨L, hLe⟩ : ∃ L, Hid (L = endsF (G.es.take k) a) := ⟨_, rfl⟩
  rw [← hLe.out] at hsn hL hS
  clear hEd hym hyk heb hkl hLe
  have hLh := Lib.hid hL
  clear hL
  obtain ⟨t0, t1, t2⟩ := hT.out wr hS.out.below
  obtain ⟨d0, d1, d2, d3, d4, d5⟩ := hEh.out wr hS.out.below
  by_cases s1 : y.src = a
  ·have q1 : (y.src == a) = true := by simpa using s1
   go_upto_region 32 with (fail)
   clear t0 t1 t2 d0 d1 d2 d3 d4 d5
   have hadd := Lib.hid (hS.out.drew.add (2 * y.id) (by have := hLh.out; first | omega | (rw [List.length_append, List.length_singleton]; omega)))
   have sK := Lib.hid (show ∀ W', Below wr.heap.size wr W' → W'.cell? ⟨ps, 11, none⟩ = some (.slice v1 v2 v3) ∧ W'.cell? ⟨pt, 1, none⟩ = some (.slice (some ⟨eb, eo, none⟩) N2 b2) ∧ W'.cell? ⟨eb, eo + k * 6, none⟩ = some (.int .i64 y.id) from fun W' BW => by
    have h := hS.out.to BW
    exact ⟨h.cell, (hT.out W' h.below).2.1, (hEh.out W' h.below).1⟩)
   have hS0 := Lib.hid (sK.out wr.drew (Below.refl _ _).drew)
   refine wp_region_F (fun w' : World => w'.cell? ⟨ps, 11, none⟩ = some (.slice v1 v2 v3) ∧ w'.cell? ⟨pt, 1, none⟩ = some (.slice (some ⟨eb, eo, none⟩) N2 b2) ∧ w'.cell? ⟨eb, eo + k * 6, none⟩ = some (.int .i64 y.id)) 12 (by kernel_rfl) hS0.out (fun hHeld => ?_)
   refine tkF (i := 0) (oi := ⟨some 192, .fieldAddr 33 (.tmp 24) 5, _, _, _, none⟩) (v := ?_) rfl ?_ (by assumption) ?_
   rotate_left
   ·(intro w h; (try dsimp only at h); go_simp) <;> with_reducible rfl
   try simp only [Act.put, zT, z0, zS]
   refine tkF (i := 1) (oi := ⟨some 193, .load 24 (.tmp 192), _, _, _, none⟩) (v := ?_) rfl ?_ (by assumption) ?_
   rotate_left
   ·(intro w h; (try dsimp only at h); go_simp) <;> with_reducible rfl
   try simp only [Act.put, zT, z0, zS]
   refine tkF (i := 2) (oi := ⟨some 194, .fieldAddr 26 (.tmp 14) 1, _, _, _, none⟩) (v := ?_) rfl ?_ (by assumption) ?_
   rotate_left
   ·(intro w h; (try dsimp only at h); go_simp) <;> with_reducible rfl
   try simp only [Act.put, zT, z0, zS]
   refine tkF (i := 3) (oi := ⟨some 195, .load 23 (.tmp 194), _, _, _, none⟩) (v := ?_) rfl ?_ (by assumption) ?_
   rotate_left
   ·(intro w h; (try dsimp only at h); go_simp) <;> with_reducible rfl
   try simp only [Act.put, zT, z0, zS]
   refine tkF (i := 4) (oi := ⟨some 196, .move (.tmp 25), _, _, _, none⟩) (v := ?_) rfl ?_ (by assumption) ?_
   rotate_left
   ·(intro w h; (try dsimp only at h); go_simp) <;> with_reducible rfl
   try simp only [Act.put, zT, z0, zS]
   refine tkF (i := 5) (oi := ⟨some 197, .indexAddr 23 (.tmp 195) (.tmp 196), _, _, _, none⟩) (v := ?_) rfl ?_ (by assumption) ?_
   rotate_left
   ·(intro w h; (try dsimp only at h); go_simp) <;> with_reducible rfl
   try simp only [Act.put, zT, z0, zS]
   refine tkF (i := 6) (oi := ⟨some 198, .fieldAddr 31 (.tmp 197) 0, _, _, _, none⟩) (v := ?_) rfl ?_ (by assumption) ?_
   rotate_left
   ·(intro w h; (try dsimp only at h); go_simp) <;> with_reducible rfl
   try simp only [Act.put, zT, z0, zS]
   refine tkF (i := 7) (oi := ⟨some 199, .load 3 (.tmp 198), _, _, _, none⟩) (v := ?_) rfl ?_ (by assumption) ?_
   rotate_left
   ·(intro w h; (try dsimp only at h); go_simp) <;> with_reducible rfl
   try simp only [Act.put, zT, z0, zS]
   refine tkF (i := 8) (oi := ⟨some 200, .binOp BinOp.mul 3 ((.const (.int .i64 2))) (.tmp 199) 3, _, _, _, none⟩) (v := ?_) rfl ?_ (by assumption) ?_
   rotate_left
   ·(intro w h; (try dsimp only at h); go_simp) <;> with_reducible rfl
   try simp only [Act.put, zT, z0, zS]
   refine wpAnyF_ready (rs := [9]) (by kernel_rfl) (by simp) ?_
   refine AllReadyF.cons (o := ⟨some 201, .buildSlice 24 1 #[(0, (.tmp 200))], _, _, _, none⟩) rfl (fun K hK => ?_) ?_
   ·skip
    go_simp
    go_wp2_with fail
    refine hK.out _ _ ?_ (fun hHeld => ?_)
    ·exact sK.out _ ((Below.refl _ wr).drew.alloc (Nat.le_refl _) _)
    clear hK K
    try simp only [Act.put, zT, z0, zS]
    refine wpAnyF_ready (rs := [10]) (by kernel_rfl) (by simp) ?_
    refine AllReadyF.cons (o := ⟨some 202, .call { callee := .builtin .append, args := #[(.tmp 193), (.tmp 201)], argTypes := #[24, 24] }, _, _, _, none⟩) rfl (fun K hK => ?_) ?_
    ·skip
     obtain ⟨u1, u2, u3, w', hr, hbx, hnew, hkp⟩ := hadd.out
     have f8 := free_of_block (i := 11) hbx
     have c8 : w'.cell? ⟨ps, 11, none⟩ = some (.slice v1 v2 v3) := by rw [cell_of_row _ _ _ _ _ _ hbx]; rfl
     have c9 := (hT.out w' hkp).2.1
     have c10 := (hEh.out w' hkp).1
     clear hkp
     refine wp_append_run (.tmp 193) (.tmp 201) 24 rfl (.slice v1 v2 v3) (.slice (some ⟨wr.heap.size, 0, none⟩) 1 1) rfl rfl _ _ hr ?_
     refine hK.out _ _ ?_ (fun hHeld => ?_)
     ·exact ⟨c8, c9, c10⟩
     clear hK K
     try simp only [Act.put, zT, z0, zS]
     refine tkF (i := 11) (oi := ⟨some 203, .fieldAddr 33 (.tmp 24) 5, _, _, _, none⟩) (v := ?_) rfl ?_ (by assumption) ?_
     rotate_left
     ·(intro w h; (try dsimp only at h); go_simp) <;> with_reducible rfl
     try simp only [Act.put, zT, z0, zS]
     refine wpAnyF_ready (rs := [12]) (by kernel_rfl) (by simp) ?_
     refine AllReadyF.last (o := ⟨none, .store 24 (.tmp 203) (.tmp 202), _, _, _, none⟩) rfl (fun K hK => ?_) ?_
     ·skip
      go_simp
      go_wp2_with fail
      refine hK.out _ _ ?_
      clear hK K
      try simp only [Act.put, zT, z0, zS]
      refine wpAnyF_done (by kernel_rfl) ?_ _
      obtain ⟨w5, hw5⟩ : ∃ W, W = w'.setCell ⟨ps, 11, none⟩ (.slice u1 u2 u3) := ⟨_, rfl⟩
      rw [← hw5] at hnew
      rw [← hw5]
      have hN := Lib.hid hnew
      clear hnew f8 c8 c9 c10 hbx hr hw5 hadd sK hS0 hS
      obtain ⟨t0, t1, t2⟩ := hT.out w5 hN.out.below
      obtain ⟨d0, d1, d2, d3, d4, d5⟩ := hEh.out w5 hN.out.below
      by_cases s2 : y.dst = a
      ·have q2 : (y.dst == a) = true := by simpa using s2
       have hLf : Hid (endsF (G.es.take (k + 1)) a = (L ++ [2 * y.id]) ++ [2 * y.id + 1]) := by show _ = _; rw [hsn.out]; simp [s1, s2]
       go_upto_region 34 with (fail)
       clear t0 t1 t2 d0 d1 d2 d3 d4 d5
       have hadd := Lib.hid (hN.out.drew.add (2 * y.id + 1) (by have := hLh.out; first | omega | (rw [List.length_append, List.length_singleton]; omega)))
       have sK := Lib.hid (show ∀ W', Below w5.heap.size w5 W' → W'.cell? ⟨ps, 11, none⟩ = some (.slice u1 u2 u3) ∧ W'.cell? ⟨pt, 1, none⟩ = some (.slice (some ⟨eb, eo, none⟩) N2 b2) ∧ W'.cell? ⟨eb, eo + k * 6, none⟩ = some (.int .i64 y.id) from fun W' BW => by
        have h := hN.out.to BW
        exact ⟨h.cell, (hT.out W' h.below).2.1, (hEh.out W' h.below).1⟩)
       have hS0 := Lib.hid (sK.out w5.drew (Below.refl _ _).drew)
       refine wp_region_F (fun w' : World => w'.cell? ⟨ps, 11, none⟩ = some (.slice u1 u2 u3) ∧ w'.cell? ⟨pt, 1, none⟩ = some (.slice (some ⟨eb, eo, none⟩) N2 b2) ∧ w'.cell? ⟨eb, eo + k * 6, none⟩ = some (.int .i64 y.id)) 13 (by kernel_rfl) hS0.out (fun hHeld => ?_)
       refine tkF (i := 0) (oi := ⟨some 212, .fieldAddr 33 (.tmp 24) 5, _, _, _, none⟩) (v := ?_) rfl ?_ (by assumption) ?_
       rotate_left
       ·(intro w h; (try dsimp only at h); go_simp) <;> with_reducible rfl
       try simp only [Act.put, zT, z0, zS]
       refine tkF (i := 1) (oi := ⟨some 213, .load 24 (.tmp 212), _, _, _, none⟩) (v := ?_) rfl ?_ (by assumption) ?_
       rotate_left
       ·(intro w h; (try dsimp only at h); go_simp) <;> with_reducible rfl
       try simp only [Act.put, zT, z0, zS]
       refine tkF (i := 2) (oi := ⟨some 214, .fieldAddr 26 (.tmp 14) 1, _, _, _, none⟩) (v := ?_) rfl ?_ (by assumption) ?_
       rotate_left
       ·(intro w h; (try dsimp only at h); go_simp) <;> with_reducible rfl
       try simp only [Act.put, zT, z0, zS]
       refine tkF (i := 3) (oi := ⟨some 215, .load 23 (.tmp 214), _, _, _, none⟩) (v := ?_) rfl ?_ (by assumption) ?_
       rotate_left
       ·(intro w h; (try dsimp only at h); go_simp) <;> with_reducible rfl
       try simp only [Act.put, zT, z0, zS]
       refine tkF (i := 4) (oi := ⟨some 216, .move (.tmp 25), _, _, _, none⟩) (v := ?_) rfl ?_ (by assumption) ?_
       rotate_left
       ·(intro w h; (try dsimp only at h); go_simp) <;> with_reducible rfl
       try simp only [Act.put, zT, z0, zS]
       refine tkF (i := 5) (oi := ⟨some 217, .indexAddr 23 (.tmp 215) (.tmp 216), _, _, _, none⟩) (v := ?_) rfl ?_ (by assumption) ?_
       rotate_left
       ·(intro w h; (try dsimp only at h); go_simp) <;> with_reducible rfl
       try simp only [Act.put, zT, z0, zS]
       refine tkF (i := 6) (oi := ⟨some 218, .fieldAddr 31 (.tmp 217) 0, _, _, _, none⟩) (v := ?_) rfl ?_ (by assumption) ?_
       rotate_left
       ·(intro w h; (try dsimp only at h); go_simp) <;> with_reducible rfl
       try simp only [Act.put, zT, z0, zS]
       refine tkF (i := 7) (oi := ⟨some 219, .load 3 (.tmp 218), _, _, _, none⟩) (v := ?_) rfl ?_ (by assumption) ?_
       rotate_left
       ·(intro w h; (try dsimp only at h); go_simp) <;> with_reducible rfl
       try simp only [Act.put, zT, z0, zS]
       refine tkF (i := 8) (oi := ⟨some 220, .binOp BinOp.mul 3 ((.const (.int .i64 2))) (.tmp 219) 3, _, _, _, none⟩) (v := ?_) rfl ?_ (by assumption) ?_
       rotate_left
       ·(intro w h; (try dsimp only at h); go_simp) <;> with_reducible rfl
       try simp only [Act.put, zT, z0, zS]
       refine tkF (i := 9) (oi := ⟨some 221, .binOp BinOp.add 3 (.tmp 220) ((.const (.int .i64 1))) 3, _, _, _, none⟩) (v := ?_) rfl ?_ (by assumption) ?_
       rotate_left
       ·(intro w h; (try dsimp only at h); go_simp) <;> with_reducible rfl
       try simp only [Act.put, zT, z0, zS]
       refine wpAnyF_ready (rs := [10]) (by kernel_rfl) (by simp) ?_
       refine AllReadyF.cons (o := ⟨some 222, .buildSlice 24 1 #[(0, (.tmp 221))], _, _, _, none⟩) rfl (fun K hK => ?_) ?_
       ·skip
        go_simp
        go_wp2_with fail
        refine hK.out _ _ ?_ (fun hHeld => ?_)
        ·exact sK.out _ ((Below.refl _ w5).drew.alloc (Nat.le_refl _) _)
        clear hK K
        try simp only [Act.put, zT, z0, zS]
        refine wpAnyF_ready (rs := [11]) (by kernel_rfl) (by simp) ?_
        refine AllReadyF.cons (o := ⟨some 223, .call { callee := .builtin .append, args := #[(.tmp 213), (.tmp 222)], argTypes := #[24, 24] }, _, _, _, none⟩) rfl (fun K hK => ?_) ?_
        ·skip
         obtain ⟨y1, y2, y3, w', hr, hbx, hnew, hkp⟩ := hadd.out
         have f8 := free_of_block (i := 11) hbx
         have c8 : w'.cell? ⟨ps, 11, none⟩ = some (.slice u1 u2 u3) := by rw [cell_of_row _ _ _ _ _ _ hbx]; rfl
         have c9 := (hT.out w' hkp).2.1
         have c10 := (hEh.out w' hkp).1
         clear hkp
         refine wp_append_run (.tmp 213) (.tmp 222) 24 rfl (.slice u1 u2 u3) (.slice (some ⟨w5.heap.size, 0, none⟩) 1 1) rfl rfl _ _ hr ?_
         refine hK.out _ _ ?_ (fun hHeld => ?_)
         ·exact ⟨c8, c9, c10⟩
         clear hK K
         try simp only [Act.put, zT, z0, zS]
         refine tkF (i := 12) (oi := ⟨some 224, .fieldAddr 33 (.tmp 24) 5, _, _, _, none⟩) (v := ?_) rfl ?_ (by assumption) ?_
         rotate_left
         ·(intro w h; (try dsimp only at h); go_simp) <;> with_reducible rfl
         try simp only [Act.put, zT, z0, zS]
         refine wpAnyF_ready (rs := [13]) (by kernel_rfl) (by simp) ?_
         refine AllReadyF.last (o := ⟨none, .store 24 (.tmp 224) (.tmp 223), _, _, _, none⟩) rfl (fun K hK => ?_) ?_
         ·skip
          go_simp
          go_wp2_with fail
          refine hK.out _ _ ?_
          clear hK K
          try simp only [Act.put, zT, z0, zS]
          refine wpAnyF_done (by kernel_rfl) ?_ _
          have hend := Lib.hid hnew
          clear hnew f8 c8 c9 c10 hbx hr
          go_wp2_with fail
          go_roundw
          case rel => exact ⟨k + 1, _, _, _, by omega, by go_num, by show SpS _ _ _ _ _ _ _ _; rw [hLf.out]; exact hend.out⟩
          case measure => simp [intOf]; omega
         exact AllReadyF.nil
        exact AllReadyF.nil
       exact AllReadyF.nil
      ·have q2 : (y.dst == a) = false := by simpa using s2
       have hLf : Hid (endsF (G.es.take (k + 1)) a = L ++ [2 * y.id]) := by show _ = _; rw [hsn.out]; simp [s1, s2]
       go_wp2_with fail
       go_roundw
       case rel => exact ⟨k + 1, _, _, _, by omega, by go_num, by show SpS _ _ _ _ _ _ _ _; rw [hLf.out]; exact hN.out⟩
       case measure => simp [intOf]; omega
     exact AllReadyF.nil
    exact AllReadyF.nil
   exact AllReadyF.nil
  ·have q1 : (y.src == a) = false := by simpa using s1
   go_upto_region 33 with (fail)
   clear t0 t1 t2 d0 d1 d2 d3 d4 d5
   obtain ⟨t0, t1, t2⟩ := hT.out wr hS.out.below
   obtain ⟨d0, d1, d2, d3, d4, d5⟩ := hEh.out wr hS.out.below
   by_cases s2 : y.dst = a
   ·have q2 : (y.dst == a) = true := by simpa using s2
    have hLf : Hid (endsF (G.es.take (k + 1)) a = L ++ [2 * y.id + 1]) := by show _ = _; rw [hsn.out]; simp [s1, s2]
    go_upto_region 34 with (fail)
    clear t0 t1 t2 d0 d1 d2 d3 d4 d5
    have hadd := Lib.hid (hS.out.drew.add (2 * y.id + 1) (by have := hLh.out; first | omega | (rw [List.length_append, List.length_singleton]; omega)))
    have sK := Lib.hid (show ∀ W', Below wr.heap.size wr W' → W'.cell? ⟨ps, 11, none⟩ = some (.slice v1 v2 v3) ∧ W'.cell? ⟨pt, 1, none⟩ = some (.slice (some ⟨eb, eo, none⟩) N2 b2) ∧ W'.cell? ⟨eb, eo + k * 6, none⟩ = some (.int .i64 y.id) from fun W' BW => by
     have h := hS.out.to BW
     exact ⟨h.cell, (hT.out W' h.below).2.1, (hEh.out W' h.below).1⟩)
    have hS0 := Lib.hid (sK.out wr.drew (Below.refl _ _).drew)
    refine wp_region_F (fun w' : World => w'.cell? ⟨ps, 11, none⟩ = some (.slice v1 v2 v3) ∧ w'.cell? ⟨pt, 1, none⟩ = some (.slice (some ⟨eb, eo, none⟩) N2 b2) ∧ w'.cell? ⟨eb, eo + k * 6, none⟩ = some (.int .i64 y.id)) 13 (by kernel_rfl) hS0.out (fun hHeld => ?_)
    refine tkF (i := 0) (oi := ⟨some 212, .fieldAddr 33 (.tmp 24) 5, _, _, _, none⟩) (v := ?_) rfl ?_ (by assumption) ?_
    rotate_left
    ·(intro w h; (try dsimp only at h); go_simp) <;> with_reducible rfl
    try simp only [Act.put, zT, z0, zS]
    refine tkF (i := 1) (oi := ⟨some 213, .load 24 (.tmp 212), _, _, _, none⟩) (v := ?_) rfl ?_ (by assumption) ?_
    rotate_left
    ·(intro w h; (try dsimp only at h); go_simp) <;> with_reducible rfl
    try simp only [Act.put, zT, z0, zS]
    refine tkF (i := 2) (oi := ⟨some 214, .fieldAddr 26 (.tmp 14) 1, _, _, _, none⟩) (v := ?_) rfl ?_ (by assumption) ?_
    rotate_left
    ·(intro w h; (try dsimp only at h); go_simp) <;> with_reducible rfl
    try simp only [Act.put, zT, z0, zS]
    refine tkF (i := 3) (oi := ⟨some 215, .load 23 (.tmp 214), _, _, _, none⟩) (v := ?_) rfl ?_ (by assumption) ?_
    rotate_left
    ·(intro w h; (try dsimp only at h); go_simp) <;> with_reducible rfl
    try simp only [Act.put, zT, z0, zS]
    refine tkF (i := 4) (oi := ⟨some 216, .move (.tmp 25), _, _, _, none⟩) (v := ?_) rfl ?_ (by assumption) ?_
    rotate_left
    ·(intro w h; (try dsimp only at h); go_simp) <;> with_reducible rfl
    try simp only [Act.put, zT, z0, zS]
    refine tkF (i := 5) (oi := ⟨some 217, .indexAddr 23 (.tmp 215) (.tmp 216), _, _, _, none⟩) (v := ?_) rfl ?_ (by assumption) ?_
    rotate_left
    ·(intro w h; (try dsimp only at h); go_simp) <;> with_reducible rfl
    try simp only [Act.put, zT, z0, zS]
    refine tkF (i := 6) (oi := ⟨some 218, .fieldAddr 31 (.tmp 217) 0, _, _, _, none⟩) (v := ?_) rfl ?_ (by assumption) ?_
    rotate_left
    ·(intro w h; (try dsimp only at h); go_simp) <;> with_reducible rfl
    try simp only [Act.put, zT, z0, zS]
    refine tkF (i := 7) (oi := ⟨some 219, .load 3 (.tmp 218), _, _, _, none⟩) (v := ?_) rfl ?_ (by assumption) ?_
    rotate_left
    ·(intro w h; (try dsimp only at h); go_simp) <;> with_reducible rfl
    try simp only [Act.put, zT, z0, zS]
    refine tkF (i := 8) (oi := ⟨some 220, .binOp BinOp.mul 3 ((.const (.int .i64 2))) (.tmp 219) 3, _, _, _, none⟩) (v := ?_) rfl ?_ (by assumption) ?_
    rotate_left
    ·(intro w h; (try dsimp only at h); go_simp) <;> with_reducible rfl
    try simp only [Act.put, zT, z0, zS]
    refine tkF (i := 9) (oi := ⟨some 221, .binOp BinOp.add 3 (.tmp 220) ((.const (.int .i64 1))) 3, _, _, _, none⟩) (v := ?_) rfl ?_ (by assumption) ?_
    rotate_left
    ·(intro w h; (try dsimp only at h); go_simp) <;> with_reducible rfl
    try simp only [Act.put, zT, z0, zS]
    refine wpAnyF_ready (rs := [10]) (by kernel_rfl) (by simp) ?_
    refine AllReadyF.cons (o := ⟨some 222, .buildSlice 24 1 #[(0, (.tmp 221))], _, _, _, none⟩) rfl (fun K hK => ?_) ?_
    ·skip
     go_simp
     go_wp2_with fail
     refine hK.out _ _ ?_ (fun hHeld => ?_)
     ·exact sK.out _ ((Below.refl _ wr).drew.alloc (Nat.le_refl _) _)
     clear hK K
     try simp only [Act.put, zT, z0, zS]
     refine wpAnyF_ready (rs := [11]) (by kernel_rfl) (by simp) ?_
     refine AllReadyF.cons (o := ⟨some 223, .call { callee := .builtin .append, args := #[(.tmp 213), (.tmp 222)], argTypes := #[24, 24] }, _, _, _, none⟩) rfl (fun K hK => ?_) ?_
     ·skip
      obtain ⟨y1, y2, y3, w', hr, hbx, hnew, hkp⟩ := hadd.out
      have f8 := free_of_block (i := 11) hbx
      have c8 : w'.cell? ⟨ps, 11, none⟩ = some (.slice v1 v2 v3) := by rw [cell_of_row _ _ _ _ _ _ hbx]; rfl
      have c9 := (hT.out w' hkp).2.1
      have c10 := (hEh.out w' hkp).1
      clear hkp
      refine wp_append_run (.tmp 213) (.tmp 222) 24 rfl (.slice v1 v2 v3) (.slice (some ⟨wr.heap.size, 0, none⟩) 1 1) rfl rfl _ _ hr ?_
      refine hK.out _ _ ?_ (fun hHeld => ?_)
      ·exact ⟨c8, c9, c10⟩
      clear hK K
      try simp only [Act.put, zT, z0, zS]
      refine tkF (i := 12) (oi := ⟨some 224, .fieldAddr 33 (.tmp 24) 5, _, _, _, none⟩) (v := ?_) rfl ?_ (by assumption) ?_
      rotate_left
      ·(intro w h; (try dsimp only at h); go_simp) <;> with_reducible rfl
      try simp only [Act.put, zT, z0, zS]
      refine wpAnyF_ready (rs := [13]) (by kernel_rfl) (by simp) ?_
      refine AllReadyF.last (o := ⟨none, .store 24 (.tmp 224) (.tmp 223), _, _, _, none⟩) rfl (fun K hK => ?_) ?_
      ·skip
       go_simp
       go_wp2_with fail
       refine hK.out _ _ ?_
       clear hK K
       try simp only [Act.put, zT, z0, zS]
       refine wpAnyF_done (by kernel_rfl) ?_ _
       have hend := Lib.hid hnew
       clear hnew f8 c8 c9 c10 hbx hr
       go_wp2_with fail
       go_roundw
       case rel => exact ⟨k + 1, _, _, _, by omega, by go_num, by show SpS _ _ _ _ _ _ _ _; rw [hLf.out]; exact hend.out⟩
       case measure => simp [intOf]; omega
      exact AllReadyF.nil
     exact AllReadyF.nil
    exact AllReadyF.nil
   ·have q2 : (y.dst == a) = false := by simpa using s2
    have hLf : Hid (endsF (G.es.take (k + 1)) a = L) := by show _ = _; rw [hsn.out]; simp [s1, s2]
    go_wp2_with fail
    go_roundw
    case rel => exact ⟨k + 1, _, _, _, by omega, by go_num, by show SpS _ _ _ _ _ _ _ _; rw [hLf.out]; exact hS.out⟩
    case measure => simp [intOf]; omega
 ·have hk2 : k = N2 := by omega
  subst hk2
  have i1 : ¬ ((k : Nat) : Int) < (k : Int) := by omega
  rename_i K0 hK0
  have hK1 := Lib.hid hK0
  have hfin := hS.out
  rw [List.take_of_length_le (by rw [← H.out.n2]; omega)] at hfin
  obtain ⟨t0, t1, t2⟩ := (H.out.to hS.out.below).t
  have hf := Lib.hid hfin
  have H1 := Lib.hid (H.out.to hS.out.below)
  clear hK0 hlt hfin hS
  go_wp2_with fail
  refine hK1.out _ _ ?_
  refine wp_eq (D := sfx9 15) (by kernel_rfl) ?_
  exact con4 _ _ _ _ _ _ _ _ _ _ _ _ _ _ _ _ _ _ _ _ _ _ _ _ _ _ _ _ _ _ _ _ _ _ _ _ _ _ _ _ _ _ _ _ _ _ _ _ _ _ _ _ _ _ _ _ _ _ _ _ _ _ _ _ _ _ _ _ _ _ _ _ _ _ _ _ _ _ _ _ _ _ _ _ _ _ _ _ _ _ _ _ _ _ _ _ _ _ _ _ _ _ _ _ _ _ _ _ _ _ _ _ _ _ _ _ _ _ _ _ _ _ _ _ _ _ _ _ _ _ _ _ _ _ _ _ _ _ _ _ _ _ _ _ _ _ _ _ _ _ _ _ _ _ _ _ _ _ _ _ _ _ _ _ _ _ _ _ _ _ _ _ _ _ _ _ _ _ _ _ _ _ _ _ _ _ _ _ _ _ _ _ _ _ _ _ _ _ _ _ _ _ _ _ _ _ _ _ _ _ _ _ _ _ _ _ _ _ _ _ _ _ _ _ _ _ _ _ _ _ _ _ _ _ _ _ _ _ _ _ _ _ _ _ _ _ _ _ _ _ _ _ _ _ _ _ _ _ _ _ _ _ _ _ _ _ _ _ _ _ _ _ _ _ _ _ _ _ _ _ _ _ _ _ _ _ _ _ _ _ _ _ _ _ _ _ _ _ _ _ _ _ pt ps G a x s a1 b1 c1 v1 N1 a2 k b2 N3 c2 v2 v3 w w0 wr H1 hd hx hn hs hf
end Go.Proofs.YtlaldnlgapeckaaGreat
