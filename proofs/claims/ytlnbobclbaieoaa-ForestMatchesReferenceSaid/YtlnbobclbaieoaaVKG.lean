/- Contracts and facts. -/
import Derived.Deep.LoopGhost
import Derived.Handy
import Derived.WalkMore
import Derived.BigRegion
import Derived.Laws.EntriesVeiled
import Derived.Test.YtlnbobclbaieoaaVKE
set_option linter.unusedSimpArgs false
set_option maxRecDepth 100000
set_option maxHeartbeats 4000000
namespace Go.Proofs.Ytlnbobclbaieoaa
open Go.RowKit
set_option maxRecDepth 1000000 in
set_option maxHeartbeats 8000000 in
theorem fm_pairs (q0 q1 q2 q3 q9 q10 q11 q12 q13 q14 q15 q16 q17 q18 q20 q21 q23 q24 q26 q27 q28 q29 q30 q31 q32 q33 q34 q35 q36 q37 q38 q39 q40 q41 q42 q43 q44 q45 q46 q47 q48 q49 q50 q51 q52 q53 q54 q55 q56 q57 q58 q59 q60 q61 q62 q63 q64 q65 q66 q67 q68 q69 q70 q71 q72 q73 q74 q75 q76 q77 q78 q79 q80 q81 q82 q83 q84 q85 q86 q87 q88 q89 q90 q91 q92 q93 q94 q95 q96 q97 q98 q99 q100 q101 q102 q103 q104 q105 q106 q107 q108 q109 q110 q111 q112 q113 q114 q115 q116 q117 q118 q119 q120 q121 q122 q123 q124 q125 q126 q127 q128 q129 q130 q131 q132 q133 q134 q135 q136 q137 q138 q139 q140 q141 q142 q143 q144 q145 q146 q147 q148 q149 q150 q151 q152 q153 q154 q155 q156 q157 q158 q159 q160 q161 q162 q163 q164 q165 q166 q167 q168 q169 q170 q171 q172 q173 q174 q175 q176 q177 q178 q179 q180 q181 q182 q183 q184 q185 q186 q187 q188 q189 q190 q191 q192 q193 q194 q195 q196 q197 q198 q199 q200 q201 q202 q203 q204 q205 q206 q207 q208 q209 q210 q211 q212 q213 q214 q215 q216 q217 q218 q219 q220 q221 q222 q223 q224 q225 q226 q227 q228 q229 q230 q231 q232 q233 q234 q235 q236 q237 q238 q239 q240 q241 q242 q243 q244 q245 q246 q247 q248 q249 q250 q251 q252 q253 q254 q255 q256 q257 q258 q259 q260 q261 q262 q263 q264 : Value) (K1 : Act → World → Prop) (w0 : World) (a b : Int) (p22 p19 : Nat) (C : Gr) (a1 a3 a5 : Option Addr) (e1 a2 e2 a4 e3 a6 : Nat) (la : Option Addr) (LN lc : Nat) (LL : List Nm) (xv : Value) (xs : List T3) (n0 sd0 : Int) (d1 v1 l1 : Option Addr) (d2 d3 V1 v2 LZ l2 : Nat) (es0 : List Ed) (L0 : List Nm) (hF : Hid (FewF C))
  (hg : Hid (∀ W, Below w0.heap.size w0 W → (W.cell? ⟨p22, 0, none⟩ = some (.slice a1 e1 a2) ∧ W.cell? ⟨p22, 1, none⟩ = some (.slice a3 e2 a4) ∧ W.cell? ⟨p22, 2, none⟩ = some (.slice a5 e3 a6)) ∧ GV W (.agg #[.slice a1 e1 a2, .slice a3 e2 a4, .slice a5 e3 a6]) C))
  (hL : Hid (∀ W, Below w0.heap.size w0 W → NL W (.slice la LN lc) LL)) (hLb : Hid (Bd 1000000 LL ∧ LL.length ≤ 24)) (hx : Hid (∀ W, Below w0.heap.size w0 W → L3 W xv xs)) (hxb : Hid (xs.length ≤ 9223372036854775807 ∧ ∀ t ∈ xs, i64T t)) (ha : Hid (-9223372036854775808 ≤ a ∧ a ≤ 9223372036854775807))
  (hv : Hid (∀ W, Below w0.heap.size w0 W → W.heap[p19]? = some (.cells #[.int .i64 n0, .int .i64 sd0, .slice d1 d2 d3, .slice v1 V1 v2, .slice l1 LZ l2] 51 (0, 0)) ∧ EL W (.slice v1 V1 v2) es0 ∧ NL W (.slice l1 LZ l2) L0))
  (hvb : Hid (V1 = es0.length ∧ V1 ≤ v2 ∧ V1 ≤ 9223372036854775807 ∧ LZ = L0.length ∧ LZ ≤ l2 ∧ LZ ≤ 9223372036854775807 ∧ ∀ x ∈ L0, x.2.length ≤ 9223372036854775807 ∧ ∀ v ∈ x.2, v ≤ 9223372036854775807))
  (sa ta : Option Addr) (SN sc TN tc : Nat) (side path : List Int) (hb' : Hid (-9223372036854775808 ≤ b ∧ b ≤ 9223372036854775807))
  (hs : Hid (∀ W, Below w0.heap.size w0 W → DL W (.slice sa SN sc) side ∧ SN = side.length ∧ SN ≤ 9223372036854775807))
  (ht : Hid (∀ W, Below w0.heap.size w0 W → DL W (.slice ta TN tc) path ∧ TN = path.length ∧ TN ≤ 9223372036854775807))
  (hK1 : ∀ (r20 r28 r29 r30 r31 r32 r33 r34 r35 r36 r37 r38 r39 r40 r42 r44 r46 r80 r81 r82 r83 r84 r85 r86 r87 r88 r89 r90 r91 r92 r93 r94 r95 r96 r97 r98 r99 r100 r101 r102 r103 r104 r105 r106 r107 r108 r109 r110 r111 r112 r113 r114 r115 r116 r117 r118 r119 r120 r121 r122 r123 r124 r125 r126 r127 r128 r129 r130 r131 r132 r133 r134 r135 r136 r137 r138 r139 r140 r141 r142 r143 r144 r145 r146 r147 r148 r149 r150 r151 r152 r153 r154 r155 r156 r157 r158 r159 r160 r161 r162 r163 r164 r165 r166 r167 r168 r169 r170 r171 r172 r173 r174 r175 r176 r177 r178 r179 r180 r181 r182 r183 r184 r185 r186 r187 r188 r189 r190 r191 r192 r193 r194 r195 r196 r197 r198 r199 r200 r201 r202 r203 r204 r205 r206 r207 r208 r209 r210 r211 r212 r213 r214 r215 r216 r217 r218 r219 r220 r221 r222 r223 r224 r225 r226 r227 r228 r229 r230 r231 r232 r233 r234 r235 r236 r237 r238 r239 r240 r241 r242 r243 r244 r245 r246 r247 r248 r249 r250 r251 r252 r253 r254 r255 r256 r257 r258 r259 r260 r261 r262 r263 : Value) (W : World), Below w0.heap.size w0 W → K1 ⟨(q0 :: q1 :: q2 :: q3 :: .int .i64 a :: .int .i64 b :: .slice ta TN tc :: .slice sa SN sc :: xv :: q9 :: q10 :: q11 :: q12 :: q13 :: q14 :: q15 :: q16 :: q17 :: q18 :: .pointer (some ⟨p19, 0, none⟩) :: r20 :: q21 :: .pointer (some ⟨p22, 0, none⟩) :: q23 :: q24 :: .slice la LN lc :: q26 :: q27 :: r28 :: r29 :: r30 :: r31 :: r32 :: r33 :: r34 :: r35 :: r36 :: r37 :: r38 :: r39 :: r40 :: q41 :: r42 :: q43 :: r44 :: q45 :: r46 :: q47 :: q48 :: q49 :: q50 :: q51 :: q52 :: q53 :: q54 :: q55 :: q56 :: q57 :: q58 :: q59 :: q60 :: q61 :: q62 :: q63 :: q64 :: q65 :: q66 :: q67 :: q68 :: q69 :: q70 :: q71 :: q72 :: q73 :: q74 :: q75 :: q76 :: q77 :: q78 :: q79 :: r80 :: r81 :: r82 :: r83 :: r84 :: r85 :: r86 :: r87 :: r88 :: r89 :: r90 :: r91 :: r92 :: r93 :: r94 :: r95 :: r96 :: r97 :: r98 :: r99 :: r100 :: r101 :: r102 :: r103 :: r104 :: r105 :: r106 :: r107 :: r108 :: r109 :: r110 :: r111 :: r112 :: r113 :: r114 :: r115 :: r116 :: r117 :: r118 :: r119 :: r120 :: r121 :: r122 :: r123 :: r124 :: r125 :: r126 :: r127 :: r128 :: r129 :: r130 :: r131 :: r132 :: r133 :: r134 :: r135 :: r136 :: r137 :: r138 :: r139 :: r140 :: r141 :: r142 :: r143 :: r144 :: r145 :: r146 :: r147 :: r148 :: r149 :: r150 :: r151 :: r152 :: r153 :: r154 :: r155 :: r156 :: r157 :: r158 :: r159 :: r160 :: r161 :: r162 :: r163 :: r164 :: r165 :: r166 :: r167 :: r168 :: r169 :: r170 :: r171 :: r172 :: r173 :: r174 :: r175 :: r176 :: r177 :: r178 :: r179 :: r180 :: r181 :: r182 :: r183 :: r184 :: r185 :: r186 :: r187 :: r188 :: r189 :: r190 :: r191 :: r192 :: r193 :: r194 :: r195 :: r196 :: r197 :: r198 :: r199 :: r200 :: r201 :: r202 :: r203 :: r204 :: r205 :: r206 :: r207 :: r208 :: r209 :: r210 :: r211 :: r212 :: r213 :: r214 :: r215 :: r216 :: r217 :: r218 :: r219 :: r220 :: r221 :: r222 :: r223 :: r224 :: r225 :: r226 :: r227 :: r228 :: r229 :: r230 :: r231 :: r232 :: r233 :: r234 :: r235 :: r236 :: r237 :: r238 :: r239 :: r240 :: r241 :: r242 :: r243 :: r244 :: r245 :: r246 :: r247 :: r248 :: r249 :: r250 :: r251 :: r252 :: r253 :: r254 :: r255 :: r256 :: r257 :: r258 :: r259 :: r260 :: r261 :: r262 :: r263 :: q264 :: []).toArray, []⟩ W) :
  Code.wp Try.prog (gB 4) (Qn K1) ⟨(q0 :: q1 :: q2 :: q3 :: .int .i64 a :: .int .i64 b :: .slice ta TN tc :: .slice sa SN sc :: xv :: q9 :: q10 :: q11 :: q12 :: q13 :: q14 :: q15 :: q16 :: q17 :: q18 :: .pointer (some ⟨p19, 0, none⟩) :: q20 :: q21 :: .pointer (some ⟨p22, 0, none⟩) :: q23 :: q24 :: .slice la LN lc :: q26 :: q27 :: q28 :: q29 :: q30 :: q31 :: q32 :: q33 :: q34 :: q35 :: q36 :: q37 :: q38 :: q39 :: q40 :: q41 :: q42 :: q43 :: q44 :: q45 :: q46 :: q47 :: q48 :: q49 :: q50 :: q51 :: q52 :: q53 :: q54 :: q55 :: q56 :: q57 :: q58 :: q59 :: q60 :: q61 :: q62 :: q63 :: q64 :: q65 :: q66 :: q67 :: q68 :: q69 :: q70 :: q71 :: q72 :: q73 :: q74 :: q75 :: q76 :: q77 :: q78 :: q79 :: q80 :: q81 :: q82 :: q83 :: q84 :: q85 :: q86 :: q87 :: q88 :: q89 :: q90 :: q91 :: q92 :: q93 :: q94 :: q95 :: q96 :: q97 :: q98 :: q99 :: q100 :: q101 :: q102 :: q103 :: q104 :: q105 :: q106 :: q107 :: q108 :: q109 :: q110 :: q111 :: q112 :: q113 :: q114 :: q115 :: q116 :: q117 :: q118 :: q119 :: q120 :: q121 :: q122 :: q123 :: q124 :: q125 :: q126 :: q127 :: q128 :: q129 :: q130 :: q131 :: q132 :: q133 :: q134 :: q135 :: q136 :: q137 :: q138 :: q139 :: q140 :: q141 :: q142 :: q143 :: q144 :: q145 :: q146 :: q147 :: q148 :: q149 :: q150 :: q151 :: q152 :: q153 :: q154 :: q155 :: q156 :: q157 :: q158 :: q159 :: q160 :: q161 :: q162 :: q163 :: q164 :: q165 :: q166 :: q167 :: q168 :: q169 :: q170 :: q171 :: q172 :: q173 :: q174 :: q175 :: q176 :: q177 :: q178 :: q179 :: q180 :: q181 :: q182 :: q183 :: q184 :: q185 :: q186 :: q187 :: q188 :: q189 :: q190 :: q191 :: q192 :: q193 :: q194 :: q195 :: q196 :: q197 :: q198 :: q199 :: q200 :: q201 :: q202 :: q203 :: q204 :: q205 :: q206 :: q207 :: q208 :: q209 :: q210 :: q211 :: q212 :: q213 :: q214 :: q215 :: q216 :: q217 :: q218 :: q219 :: q220 :: q221 :: q222 :: q223 :: q224 :: q225 :: q226 :: q227 :: q228 :: q229 :: q230 :: q231 :: q232 :: q233 :: q234 :: q235 :: q236 :: q237 :: q238 :: q239 :: q240 :: q241 :: q242 :: q243 :: q244 :: q245 :: q246 :: q247 :: q248 :: q249 :: q250 :: q251 :: q252 :: q253 :: q254 :: q255 :: q256 :: q257 :: q258 :: q259 :: q260 :: q261 :: q262 :: q263 :: q264 :: []).toArray, []⟩ w0 := by
  refine wp_eq (D := .seq (sA (gB 4)) (gB 5)) (by kernel_rfl) (wp_seq_k fun K9 hK9 => ?_)
  replace hK9 := Lib.hid hK9
  conv => arg 2; whnf
  replace hK1 := Lib.hid hK1
  have cPa := Lib.hid (fun W => pick9_any a 10 W ha.out.1 ha.out.2 (by omega) (by omega))
  have cPb := Lib.hid (fun W => pick9_any b 10 W hb'.out.1 hb'.out.2 (by omega) (by omega))
  obtain ⟨pa, hpa⟩ : ∃ x, Hid (x = pk a 10) := ⟨_, rfl⟩
  obtain ⟨pb, hpb⟩ : ∃ x, Hid (x = pk b 10) := ⟨_, rfl⟩
  rw [← hpa.out] at cPa
  rw [← hpb.out] at cPb
  obtain ⟨w1, hw1⟩ : ∃ W, W = w0.alloc (.cells #[.int .i64 a, .int .i64 b, .int .i64 pa, .int .i64 pb] 61) := ⟨_, rfl⟩
  have hb1 : Below w0.heap.size w0 w1 := by rw [hw1]; exact (Below.refl _ w0).alloc (Nat.le_refl _) _
  have hrow : w1.heap[w0.heap.size]? = some (.cells #[.int .i64 a, .int .i64 b, .int .i64 pa, .int .i64 pb] 61 (0, 0)) := by rw [hw1]; exact heap_alloc_new w0 _
  obtain ⟨pp, hpp⟩ : ∃ p, Hid (p = w0.heap.size) := ⟨_, rfl⟩
  rw [← hpp.out] at hrow
  have hsel : ∀ k, k < 2 → ∃ c d : Int, ∀ W, Below w1.heap.size w1 W → W.cell? ⟨pp, k * 2, none⟩ = some (.int .i64 c) ∧ W.cell? ⟨pp, k * 2 + 1, none⟩ = some (.int .i64 d) := by
    intro k hk
    have hrw := fun W (BB : Below w1.heap.size w1 W) => (BB.block pp (Array.getElem?_eq_some_iff.1 hrow).1).trans hrow
    rcases (by omega : k = 0 ∨ k = 1) with rfl | rfl
    · exact ⟨a, b, fun W BB => ⟨by rw [cell_of_row W pp _ _ _ _ (hrw W BB)]; rfl, by rw [cell_of_row W pp _ _ _ _ (hrw W BB)]; rfl⟩⟩
    · exact ⟨pa, pb, fun W BB => ⟨by rw [cell_of_row W pp _ _ _ _ (hrw W BB)]; rfl, by rw [cell_of_row W pp _ _ _ _ (hrw W BB)]; rfl⟩⟩
  replace hsel := Lib.hid hsel
  have hbb := Lib.hid hb1
  replace hw1 := Lib.hid hw1
  clear hrow hb1 hpa hpb
  go_wp2_with fail
  refine (cPa.out w0).mono ?_
  rintro e w2 ⟨rfl, rfl⟩
  go_wp2_with fail
  refine (cPb.out w0).mono ?_
  rintro e w2 ⟨rfl, rfl⟩
  clear cPa cPb
  go_wp2_with fail
  rw [← hw1.out, ← hpp.out]
  clear hw1 hpp
  go_loopg [90] 2 (fun n iv wr => ∃ k : Nat, k + n = 2 ∧ iv = .int .i64 k ∧ Below w1.heap.size w1 wr)
  case atStart => exact ⟨0, rfl, rfl, Below.refl _ _⟩
  case round =>
    obtain ⟨k, hk, rfl, hb⟩ := hrel
    obtain ⟨wo, rfl⟩ : ∃ x, x = wr := ⟨_, rfl⟩
    have hB := Lib.hid hb
    have hB0 := Lib.hid (hbb.out.trans (hb.mono hbb.out.size))
    cases gk with
    | zero =>
      have i1 : ¬ (k : Int) < 2 := by omega
      clear hk hb hsel
      go_wp2_with fail
      refine hK9.out _ _ ?_
      refine fm_views _ _ _ _ _ _ _ _ _ _ _ _ _ _ _ _ _ _ _ _ _ _ _ _ _ _ _ _ _ _ _ _ _ _ _ _ _ _ _ _ _ _ _ _ _ _ _ _ _ _ _ _ _ _ _ _ _ _ _ _ _ _ _ _ _ _ _ _ _ _ _ _ _ _ _ _ _ _ _ _ _ _ _ _ _ _ _ _ _ _ _ _ _ _ _ _ _ _ _ _ _ _ _ _ _ _ _ _ _ _ _ _ _ _ _ _ _ _ _ _ _ _ _ _ _ _ _ _ _ _ _ _ _ _ _ _ _ _ _ _ _ _ _ _ _ _ _ _ _ _ _ _ _ _ _ _ _ _ _ _ _ _ _ _ _ _ _ _ _ _ _ _ _ _ _ _ _ _ _ _ _ _ _ _ _ _ _ _ _ _ _ _ _ _ _ _ _ _ _ _ _ _ _ _ _ _ _ _ _ _ _ _ _ _ _ _ _ _ _ _ _ _ _ _ _ _ _ _ _ _ _ _ _ _ _ _ _ _ _ _ _ _ _ _ _ _ _ _ _ _ _ _ _ _ _ _ _ _ _ _ _ wo a p22 p19 C a1 a3 a5 e1 a2 e2 a4 e3 a6 la LN lc LL xv xs n0 sd0 d1 v1 l1 d2 d3 V1 v2 LZ l2 es0 L0 hF (Lib.hid fun W BB => hg.out W (hB0.out.trans (BB.mono hB0.out.size))) (Lib.hid fun W BB => hL.out W (hB0.out.trans (BB.mono hB0.out.size))) hLb (Lib.hid fun W BB => hx.out W (hB0.out.trans (BB.mono hB0.out.size))) hxb ha (Lib.hid fun W BB => hv.out W (hB0.out.trans (BB.mono hB0.out.size))) hvb (fun _ _ _ _ _ _ _ _ _ _ _ _ _ _ _ _ _ _ _ _ _ _ _ _ _ _ _ _ _ _ _ _ _ _ _ W BB => ?_)
      exact hK1.out _ _ _ _ _ _ _ _ _ _ _ _ _ _ _ _ _ _ _ _ _ _ _ _ _ _ _ _ _ _ _ _ _ _ _ _ _ _ _ _ _ _ _ _ _ _ _ _ _ _ _ _ _ _ _ _ _ _ _ _ _ _ _ _ _ _ _ _ _ _ _ _ _ _ _ _ _ _ _ _ _ _ _ _ _ _ _ _ _ _ _ _ _ _ _ _ _ _ _ _ _ _ _ _ _ _ _ _ _ _ _ _ _ _ _ _ _ _ _ _ _ _ _ _ _ _ _ _ _ _ _ _ _ _ _ _ _ _ _ _ _ _ _ _ _ _ _ _ _ _ _ _ _ _ _ _ _ _ _ _ _ _ _ _ _ _ _ _ _ _ _ _ _ _ _ _ _ _ _ _ _ _ _ _ _ _ _ _ _ _ _ _ _ _ _ _ _ _ _ _ _ _ (hB0.out.trans (BB.mono hB0.out.size))
    | succ ga =>
      have i0 : (0 : Int) ≤ (k : Int) := by omega
      have i1 : (k : Int) < 2 := by omega
      have hle : Hid (k + 1 + ga = 2) := by show _ = _; omega
      obtain ⟨c, d, hcd⟩ := hsel.out k (by omega)
      obtain ⟨u0, u1⟩ := hcd wo hb
      obtain ⟨w2, hw2⟩ : ∃ W, W = wo.alloc (.cells #[.int .i64 c, .int .i64 d] 61) := ⟨_, rfl⟩
      have hb2 : Below wo.heap.size wo w2 := by rw [hw2]; exact (Below.refl _ wo).alloc (Nat.le_refl _) _
      have hrow : w2.heap[wo.heap.size]? = some (.cells #[.int .i64 c, .int .i64 d] 61 (0, 0)) := by rw [hw2]; exact heap_alloc_new wo _
      have hB2 := Lib.hid (hB.out.trans (hb2.mono hB.out.size))
      have hB02 := Lib.hid (hB0.out.trans (hb2.mono hB0.out.size))
      obtain ⟨p28, hp28⟩ : ∃ p, Hid (p = wo.heap.size) := ⟨_, rfl⟩
      rw [← hp28.out] at hrow
      have hgp := Lib.hid (fun W (BB : Below w2.heap.size w2 W) => (show (W.cell? ⟨p22, 0, none⟩ = some (.slice a1 e1 a2) ∧ W.cell? ⟨p22, 1, none⟩ = some (.slice a3 e2 a4) ∧ W.cell? ⟨p22, 2, none⟩ = some (.slice a5 e3 a6)) ∧ GV W (.agg #[.slice a1 e1 a2, .slice a3 e2 a4, .slice a5 e3 a6]) C ∧ (W.cell? ⟨p28, 0, none⟩ = some (.int .i64 c) ∧ W.cell? ⟨p28, 1, none⟩ = some (.int .i64 d)) from by
        have h1 := hg.out W (hB02.out.trans (BB.mono hB02.out.size))
        have h2 := (BB.block p28 (Array.getElem?_eq_some_iff.1 hrow).1).trans hrow
        exact ⟨h1.1, h1.2, by rw [cell_of_row W p28 _ _ _ _ h2]; rfl, by rw [cell_of_row W p28 _ _ _ _ h2]; rfl⟩))
      have hs2 := Lib.hid (fun W (BB : Below w2.heap.size w2 W) => hs.out W (hB02.out.trans (BB.mono hB02.out.size)))
      have ht2 := Lib.hid (fun W (BB : Below w2.heap.size w2 W) => ht.out W (hB02.out.trans (BB.mono hB02.out.size)))
      replace hw2 := Lib.hid hw2
      clear hcd hk hb hb2 hrow hsel hK9 hg hL hx hv hs ht
      go_upto_region 12 with (fail)
      rename_i K0 hK0
      replace hK0 := Lib.hid hK0
      go_wp2_with fail
      rw [← hw2.out, ← hp28.out]
      refine hK0.out _ _ ?_
      refine wp_eq (D := pB 1) (by kernel_rfl) (wp_Qn ?_)
      refine fm_pair _ _ _ _ _ _ _ _ _ _ _ _ _ _ _ _ _ _ _ _ _ _ _ _ _ _ _ _ _ _ _ _ _ _ _ _ _ _ _ _ _ _ _ _ _ _ _ _ _ _ _ _ _ _ _ _ _ _ _ _ _ _ _ _ _ _ _ _ _ _ _ _ _ _ _ _ _ _ _ _ _ _ _ _ _ _ _ _ _ _ _ _ _ _ _ _ _ _ _ _ _ _ _ _ _ _ _ _ _ _ _ _ _ _ _ _ _ _ _ _ _ _ _ _ _ _ _ _ _ _ _ _ _ _ _ _ _ _ _ _ _ _ _ _ _ _ _ _ _ _ _ _ _ _ _ _ _ _ _ _ _ _ _ _ _ _ _ _ _ _ _ _ _ _ _ _ _ _ _ _ _ _ _ _ _ _ _ _ _ _ _ _ _ _ _ _ _ _ _ _ _ _ _ _ _ _ _ _ _ _ _ _ _ _ _ _ _ _ _ _ _ _ _ _ _ _ _ _ _ _ _ _ _ _ _ _ _ _ _ _ _ _ _ _ _ _ _ _ _ _ _ _ _ _ _ _ _ _ _ _ _ _ w2 c d p22 p28 C a1 a3 a5 e1 a2 e2 a4 e3 a6 hF hgp sa ta SN sc TN tc side path hs2 ht2 (fun _ _ _ _ _ _ _ _ _ _ _ _ _ _ _ _ _ _ _ _ _ _ _ _ _ _ _ _ _ _ _ _ _ _ _ _ _ _ _ _ _ _ _ _ _ _ _ _ _ _ _ _ _ _ _ _ _ _ _ _ _ _ _ _ _ _ _ _ _ _ _ _ _ _ _ _ _ _ _ _ _ _ _ _ _ _ _ _ _ _ _ _ _ _ _ _ _ _ _ _ _ _ _ _ _ _ _ _ _ _ _ _ _ _ _ _ _ _ _ _ _ _ _ _ _ _ _ _ _ _ _ _ _ _ _ _ _ _ _ _ _ _ _ _ _ _ _ _ _ _ _ W BB => ?_)
      have hend := Lib.hid (hB2.out.trans (BB.mono hB2.out.size))
      show Exit.inBlock _ _ _ _ _
      dsimp only [Exit.inBlock, Exit.then]
      clear hgp hs2 ht2 hK0 BB u0 u1
      go_wp2_with fail
      go_roundg ga
      case measure => omega
      case rel => exact ⟨k + 1, hle.out, by go_num, hend.out⟩

end Go.Proofs.Ytlnbobclbaieoaa
