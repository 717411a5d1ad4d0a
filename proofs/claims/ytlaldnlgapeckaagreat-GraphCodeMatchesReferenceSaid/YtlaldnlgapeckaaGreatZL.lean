/- GraphCodeMatchesReference, the last part: whatever is decoded, both decode alike. -/
import Derived.Test.YtlaldnlgapeckaaGreatZK
import Derived.Test.YtlaldnlgapeckaaGreatZJ
import Derived.Test.YtlaldnlgapeckaaGreatZI
set_option linter.unusedSimpArgs false
set_option maxRecDepth 1000000
set_option maxHeartbeats 8000000
namespace Go.Proofs.YtlaldnlgapeckaaGreat
open Go.RowKit
noncomputable def sfx4 (n : Nat) : Code := dropC n (Tryz.f4.body.getD .skip)
theorem sameC_refl (c : Ch) : sameC c c = true := (sameC_iff c c).2 rfl
theorem sameG_refl (c : Gr) : sameG c c = true := (sameG_iff c c).2 rfl
theorem agg_ok {L : List UInt8} {a : Int} {G : Gr} {m : Nat} (h : rGr L a = some (G, m)) : Hid (G.vs.length ≤ 1000 ∧ G.es.length ≤ 1000 ∧ G.ds.length ≤ 1000) := by
 show _ ∧ _
 have hok := (ok_iff G).1 ((agr_g L a).1 G m h).2
 have h1 := hok.vlen
 have h2 := hok.elen
 have h3 := hok.dlen
 exact ⟨by omega, by omega, by omega⟩
theorem aggC_ok {L : List UInt8} {a : Int} {C : Ch} {m : Nat} (h : rCh L a = some (C, m)) : Hid (C.ends.length ≤ 1000 ∧ C.deps.length ≤ 1000) := by
 show _ ∧ _
 have h1 := (agr_c L).some_ a C m h
 have h2 : C = (stC L (a, true)).1 := by rw [h1]
 rw [h2]
 unfold stC
 refine ⟨?_, ?_⟩
 · have := stM_len (stI L) L 80 (stI L (stI L (stE L (stV L (stI L (a, true)).2).2).2).2).2; simp only at this ⊢; omega
 · have := stM_len (stI L) L 3 (stM (stI L) L 80 (stI L (stI L (stE L (stV L (stI L (a, true)).2).2).2).2).2).2; simp only at this ⊢; omega
theorem dec_uni (s : ByteArray) (a : Int) (hs : s.size ≤ 1000000) (h : inI a) : ∃ (G : Gr) (M E : Int), Hid (G.vs.length ≤ 1000 ∧ G.es.length ≤ 1000 ∧ G.ds.length ≤ 1000) ∧ ∀ f, f = 38 ∨ f = 39 → ∀ W, Calls Tryz.prog f #[.string s, .int .i64 a] W fun e w' =>
  ∃ a1 a2 b1 b2 c1 c2, ∃ n1 n2 n3 : Nat, e = .returned (.tuple #[.agg #[.slice a1 n1 a2, .slice b1 n2 b2, .slice c1 n3 c2], .int .i64 M, .int .i64 E]) ∧ GV w' (.agg #[.slice a1 n1 a2, .slice b1 n2 b2, .slice c1 n3 c2]) G ∧ Below W.heap.size W w' := by
 have key : ∀ f, f = 38 ∨ f = 39 → ∀ W, Calls Tryz.prog f #[.string s, .int .i64 a] W (DPost s a W) := fun f hf W => by
  rcases hf with rfl | rfl
  · exact Decode_any s a W (by unfold maxLen; omega) h.1 h.2
  · exact DecodeR_any s a W hs h
 cases hr : rGr s.data.toList a with
 | none =>
  refine ⟨⟨[], [], []⟩, 0, 30, ⟨Nat.zero_le _, Nat.zero_le _, Nat.zero_le _⟩, fun f hf W => (key f hf W).mono fun e w' q => ?_⟩
  unfold DPost at q
  rw [hr] at q
  exact ⟨none, 0, none, 0, none, 0, 0, 0, 0, q.1, ⟨_, _, _, rfl, .inl ⟨rfl, _, _, rfl⟩, .inl ⟨rfl, _, _, rfl⟩, .inl ⟨rfl, _, _, rfl⟩⟩, q.2⟩
 | some p =>
  obtain ⟨G, m⟩ := p
  have hg := (agg_ok hr)
  refine ⟨G, m, 0, hg, fun f hf W => (key f hf W).mono fun e w' q => ?_⟩
  unfold DPost at q
  rw [hr] at q
  obtain ⟨x, y, z, he, o1, o2, o3, hb⟩ := q
  obtain ⟨a1, a2, rfl⟩ := o1.VL.shape
  obtain ⟨b1, b2, rfl⟩ := o2.EL.shape
  obtain ⟨c1, c2, rfl⟩ := o3.DL.shape
  exact ⟨_, _, _, _, _, _, _, _, _, he, ⟨_, _, _, rfl, o1.VL, o2.EL, o3.DL⟩, hb⟩
theorem decC_uni (s : ByteArray) (a : Int) (hs : s.size ≤ 1000000) (h : inI a) : ∃ (C : Ch) (M E : Int), Hid (C.ends.length ≤ 1000 ∧ C.deps.length ≤ 1000) ∧ ∀ f, f = 36 ∨ f = 37 → ∀ W, Calls Tryz.prog f #[.string s, .int .i64 a] W fun e w' =>
  ∃ x1 x2 x3 x4, ∃ n1 n2 : Nat, e = .returned (.tuple #[.agg (chCells C (.slice x1 n1 x2) (.slice x3 n2 x4)), .int .i64 M, .int .i64 E]) ∧ CV w' (.agg (chCells C (.slice x1 n1 x2) (.slice x3 n2 x4))) C ∧ Below W.heap.size W w' := by
 have key : ∀ f, f = 36 ∨ f = 37 → ∀ W, Calls Tryz.prog f #[.string s, .int .i64 a] W (DCPost s a W) := fun f hf W => by
  rcases hf with rfl | rfl
  · exact DecodeChange_any s a W (by unfold maxLen; omega) h.1 h.2
  · exact DecodeChangeR_any s a W hs h
 cases hr : rCh s.data.toList a with
 | none =>
  refine ⟨zC, 0, 30, ⟨Nat.zero_le _, Nat.zero_le _⟩, fun f hf W => (key f hf W).mono fun e w' q => ?_⟩
  unfold DCPost at q
  rw [hr] at q
  exact ⟨none, 0, none, 0, 0, 0, q.1, ⟨_, _, rfl, .inl ⟨rfl, _, _, rfl⟩, .inl ⟨rfl, _, _, rfl⟩⟩, q.2⟩
 | some p =>
  obtain ⟨C, m⟩ := p
  have hc := aggC_ok hr
  refine ⟨C, m, 0, hc, fun f hf W => (key f hf W).mono fun e w' q => ?_⟩
  unfold DCPost at q
  rw [hr] at q
  obtain ⟨x, y, he, o1, o2, hb⟩ := q
  obtain ⟨a1, a2, rfl⟩ := o1.DL.shape
  obtain ⟨b1, b2, rfl⟩ := o2.DL.shape
  exact ⟨_, _, _, _, _, _, he, ⟨_, _, rfl, o1.DL, o2.DL⟩, hb⟩
theorem gcm4 (q0 q1 q2 q3 q4 q5 q7 q8 q9 q10 q11 q12 q13 q14 q15 q16 q18 q20 q21 q22 q23 q24 q25 q26 q27 q28 q29 q30 q31 q32 q33 q34 q35 q36 q37 q38 q39 q40 q41 q42 q43 q44 q45 q46 q47 q48 q49 q50 q51 q52 q53 q54 q55 q56 q57 q58 q59 q60 q61 q62 q63 q64 q65 q66 q67 q68 q69 q70 q71 q72 q73 q74 q75 q76 q77 q78 q79 q80 q81 q82 q83 q84 q85 q86 q87 q88 q89 q90 q91 q92 q93 q94 q95 q96 q97 q98 q99 q100 q101 q102 q103 q104 q105 q106 q107 q108 q109 q110 q111 q112 q113 q114 q115 q116 q117 q118 q119 q120 q121 q122 q123 q124 q125 q126 q127 q128 q129 q130 q131 q132 q133 q134 q135 q136 q137 q138 q139 q140 q141 q142 q143 q144 q145 q146 q147 q148 q149 q150 q151 q152 q153 q154 q155 q156 q157 q158 q159 q160 q161 q162 q163 q164 q165 q166 q167 q168 q169 q170 q171 q172 q173 q174 q175 q176 q177 q178 q179 q180 q181 q182 q183 q184 q185 q186 q187 q188 q189 q190 q191 q192 q193 q194 q195 q196 q197 q198 q199 q200 q201 q202 q203 q204 q205 q206 q207 q208 q209 q210 q211 q212 q213 q214 q215 q216 q217 q218 q219 q220 q221 q222 q223 q224 q225 q226 q227 q228 q229 q230 q231 q232 q233 q234 q235 q236 q237 q238 : Value) (w w0 : World) (at_ : Int) (tb N tc : Nat) (T : List ByteArray) (hN : Hid (N = T.length)) (hT : Hid (∀ s ∈ T, s.size ≤ 1000000)) (hN2 : N ≤ 1000) (ha : Hid (inI at_))
  (hc : Hid (∀ k (hk : k < T.length) W, Below w0.heap.size w0 W → W.cell? ⟨tb, k, none⟩ = some (.string T[k]))) (hB : Hid (Below w.heap.size w w0)) :
  Code.wp Tryz.prog (sfx4 8) (bodyPost Tryz.prog Tryz.f4 fun e w' => e = .returned (.bool true) ∧ Below w.heap.size w w') ⟨(q0 :: q1 :: q2 :: q3 :: q4 :: q5 :: .int .i64 at_ :: q7 :: q8 :: q9 :: q10 :: q11 :: q12 :: q13 :: q14 :: q15 :: q16 :: .bool true :: q18 :: .slice (some ⟨tb, 0, none⟩) N tc :: q20 :: q21 :: q22 :: q23 :: q24 :: q25 :: q26 :: q27 :: q28 :: q29 :: q30 :: q31 :: q32 :: q33 :: q34 :: q35 :: q36 :: q37 :: q38 :: q39 :: q40 :: q41 :: q42 :: q43 :: q44 :: q45 :: q46 :: q47 :: q48 :: q49 :: q50 :: q51 :: q52 :: q53 :: q54 :: q55 :: q56 :: q57 :: q58 :: q59 :: q60 :: q61 :: q62 :: q63 :: q64 :: q65 :: q66 :: q67 :: q68 :: q69 :: q70 :: q71 :: q72 :: q73 :: q74 :: q75 :: q76 :: q77 :: q78 :: q79 :: q80 :: q81 :: q82 :: q83 :: q84 :: q85 :: q86 :: q87 :: q88 :: q89 :: q90 :: q91 :: q92 :: q93 :: q94 :: q95 :: q96 :: q97 :: q98 :: q99 :: q100 :: q101 :: q102 :: q103 :: q104 :: q105 :: q106 :: q107 :: q108 :: q109 :: q110 :: q111 :: q112 :: q113 :: q114 :: q115 :: q116 :: q117 :: q118 :: q119 :: q120 :: q121 :: q122 :: q123 :: q124 :: q125 :: q126 :: q127 :: q128 :: q129 :: q130 :: q131 :: q132 :: q133 :: q134 :: q135 :: q136 :: q137 :: q138 :: q139 :: q140 :: q141 :: q142 :: q143 :: q144 :: q145 :: q146 :: q147 :: q148 :: q149 :: q150 :: q151 :: q152 :: q153 :: q154 :: q155 :: q156 :: q157 :: q158 :: q159 :: q160 :: q161 :: q162 :: q163 :: q164 :: q165 :: q166 :: q167 :: q168 :: q169 :: q170 :: q171 :: q172 :: q173 :: q174 :: q175 :: q176 :: q177 :: q178 :: q179 :: q180 :: q181 :: q182 :: q183 :: q184 :: q185 :: q186 :: q187 :: q188 :: q189 :: q190 :: q191 :: q192 :: q193 :: q194 :: q195 :: q196 :: q197 :: q198 :: q199 :: q200 :: q201 :: q202 :: q203 :: q204 :: q205 :: q206 :: q207 :: q208 :: q209 :: q210 :: q211 :: q212 :: q213 :: q214 :: q215 :: q216 :: q217 :: q218 :: q219 :: q220 :: q221 :: q222 :: q223 :: q224 :: q225 :: q226 :: q227 :: q228 :: q229 :: q230 :: q231 :: q232 :: q233 :: q234 :: q235 :: q236 :: q237 :: q238 :: []).toArray, []⟩ w0 := by
 conv => arg 2; whnf
 have hlen := Hd (show ∀ ts : Unit, N ≤ 1000 from fun _ => hN2)
 go_wp2_with fail
 go_loopw [34] (fun i wr => ∃ (k : Nat), k ≤ N ∧ i = .int .i64 k ∧ Hid (Below w0.heap.size w0 wr)) (fun i _ => N - (intOf i).toNat)
 case atStart => exact ⟨0, Nat.zero_le _, rfl, Below.refl _ _⟩
 case round =>
  obtain ⟨k, hk, rfl, hb⟩ := hrel
  by_cases hlt : k < N
  · have i0' : (0 : Int) ≤ (k : Int) := by omega
    have i1 : (k : Int) < (N : Int) := by omega
    have hkT : k < T.length := by rw [← hN.out]; exact hlt
    obtain ⟨S, hS⟩ : ∃ S, Hid (S = T[k]) := ⟨T[k], Hd rfl⟩
    have hSs : S.size ≤ 1000000 := by rw [hS.out]; exact hT.out _ (List.getElem_mem hkT)
    have hcS := Hd (show ∀ W, Below w0.heap.size w0 W → W.cell? ⟨tb, k, none⟩ = some (.string S) from fun W BB => by rw [hS.out]; exact hc.out k hkT W BB)
    have hSs := Hd hSs
    obtain ⟨wI, hwI⟩ : ∃ W, W = wr.alloc (.cells #[.int .i64 0, .int .i64 at_] 3) := ⟨_, rfl⟩
    obtain ⟨bI, hbI⟩ : ∃ b, Hid (b = wr.heap.size) := ⟨_, rfl⟩
    have hBI := Hd (show Below w0.heap.size w0 wI by rw [hwI]; exact hb.out.alloc hb.out.size _)
    have hgI := Hd (show wI.heap[bI]? = some (.cells #[.int .i64 0, .int .i64 at_] 3 (0, 0)) by rw [hwI, hbI.out]; exact heap_alloc_new wr _)
    have hzI := Hd (show bI < wI.heap.size by rw [hwI, hbI.out]; simp)
    replace hwI := Hd hwI
    clear hS hkT
    go_wp2_with fail
    rw [← hwI.out, ← hbI.out]
    go_loopw [163] (fun j wq => ∃ (m : Nat), m ≤ 2 ∧ j = .int .i64 m ∧ Hid (Below wI.heap.size wI wq)) (fun j _ => 2 - (intOf j).toNat)
    case atStart => exact ⟨0, Nat.zero_le _, rfl, Below.refl _ _⟩
    case round =>
     obtain ⟨m, hm, rfl, hq⟩ := hrel
     by_cases hlm : m < 2
     · have j0' : (0 : Int) ≤ (m : Int) := by omega
       have j1 : (m : Int) < 2 := by omega
       obtain ⟨kv, hkv, hin⟩ : ∃ kv : Int, Hid (∀ W, Below wI.heap.size wI W → W.cell? ⟨bI, m, none⟩ = some (.int .i64 kv)) ∧ Hid (inI kv) := by
        have hcell : ∀ W, Below wI.heap.size wI W → ∀ j v, (#[.int .i64 0, .int .i64 at_] : Array Value)[j]? = some v → W.cell? ⟨bI, j, none⟩ = some v := fun W BB j v hv => by
         rw [cell_of_row W bI _ _ _ _ ((BB.block _ hzI.out).trans hgI.out)]; exact hv
        rcases (by omega : m = 0 ∨ m = 1) with rfl | rfl
        · exact ⟨0, fun W BB => hcell W BB 0 _ rfl, by show inI 0; unfold inI; omega⟩
        · exact ⟨at_, fun W BB => hcell W BB 1 _ rfl, ha⟩
       obtain ⟨C, M1, E1, hCl, kC⟩ := decC_uni S kv hSs.out hin.out
       obtain ⟨G, M2, E2, hGl, kG⟩ := dec_uni S kv hSs.out hin.out
       have k36 := Hd (kC 36 (.inl rfl))
       have k37 := Hd (kC 37 (.inr rfl))
       have k38 := Hd (kG 38 (.inl rfl))
       have k39 := Hd (kG 39 (.inr rfl))
       have u36 := hkv.out wr hq.out
       have up := Hd (fun W (BB : Below wI.heap.size wI W) => hBI.out.trans (BB.mono hBI.out.size))
       have s1 := hcS.out wr (up.out wr hq.out)
       clear kC kG
       go_wp2_with fail
       refine (k36.out _).mono ?_
       rintro e v1 ⟨x11, x12, x13, x14, n11, n12, rfl, hv1, b1⟩
       obtain ⟨w1, hwN⟩ : ∃ W, W = (v1.alloc (.cells #[.int .i64 0, .int .i64 0, .int .i64 0, .int .i64 0, .int .i64 0, .int .i64 0, .bool false, .int .i64 0, .int .i64 0, .int .i64 0, .int .i64 0, .slice none 0 0, .slice none 0 0] 33)).setRow v1.heap.size (chCells C (.slice x11 n11 x12) (.slice x13 n12 x14)) := ⟨_, rfl⟩
       obtain ⟨g1, hg1⟩ : ∃ g, Hid (g = v1.heap.size) := ⟨_, rfl⟩
       have ha1 : Below v1.heap.size v1 w1 := by rw [hwN]; exact below_setRow' ((Below.refl _ _).alloc (Nat.le_refl _) _) (Nat.le_refl _) _
       have c1 := Hd (b1.trans (ha1.mono b1.size))
       have q1 := Hd (show Below wI.heap.size wI w1 from ((hq.out).trans (b1.mono (hq.out).size)).trans (ha1.mono (((hq.out).trans (b1.mono (hq.out).size)).size)))
       have gv1 := Hd (hv1.below ha1)
       have bx1 := Hd (show w1.heap[g1]? = some (.cells (chCells C (.slice x11 n11 x12) (.slice x13 n12 x14)) 33 (0, 0)) by rw [hwN, hg1.out]; exact setRow_heap _ _ _ _ _ _ (heap_alloc_new v1 _))
       have hz1 := Hd (show g1 < w1.heap.size by rw [hwN, hg1.out]; simp)
       have hw1 := Hd hwN
       clear hwN ha1 b1 hv1
       have s2 := hcS.out w1 (up.out _ q1.out)
       clear s1
       go_upto_region 38 with (refine wpList_store_row rfl 33 (.tmp 37) (.tmp 174) rfl v1.heap.size (chCells C (.slice x11 n11 x12) (.slice x13 n12 x14)) rfl rfl 33 _ (heap_alloc_new v1 _) (info33 _ _ _) rfl (ch_all _ _ _ _ _ _ _) ?_)
       rw [← hw1.out, ← hg1.out]
       go_wp2_with fail
       refine (k37.out _).mono ?_
       rintro e v2 ⟨x21, x22, x23, x24, n21, n22, rfl, hv2, b2⟩
       obtain ⟨w2, hwN⟩ : ∃ W, W = (v2.alloc (.cells #[.int .i64 0, .int .i64 0, .int .i64 0, .int .i64 0, .int .i64 0, .int .i64 0, .bool false, .int .i64 0, .int .i64 0, .int .i64 0, .int .i64 0, .slice none 0 0, .slice none 0 0] 33)).setRow v2.heap.size (chCells C (.slice x21 n21 x22) (.slice x23 n22 x24)) := ⟨_, rfl⟩
       obtain ⟨g2, hg2⟩ : ∃ g, Hid (g = v2.heap.size) := ⟨_, rfl⟩
       have ha2 : Below v2.heap.size v2 w2 := by rw [hwN]; exact below_setRow' ((Below.refl _ _).alloc (Nat.le_refl _) _) (Nat.le_refl _) _
       have c2 := Hd (b2.trans (ha2.mono b2.size))
       have q2 := Hd (show Below wI.heap.size wI w2 from ((q1.out).trans (b2.mono (q1.out).size)).trans (ha2.mono (((q1.out).trans (b2.mono (q1.out).size)).size)))
       have gv2 := Hd (hv2.below ha2)
       have bx2 := Hd (show w2.heap[g2]? = some (.cells (chCells C (.slice x21 n21 x22) (.slice x23 n22 x24)) 33 (0, 0)) by rw [hwN, hg2.out]; exact setRow_heap _ _ _ _ _ _ (heap_alloc_new v2 _))
       have hz2 := Hd (show g2 < w2.heap.size by rw [hwN, hg2.out]; simp)
       have hw2 := Hd hwN
       clear hwN ha2 b2 hv2
       have s3 := hcS.out w2 (up.out _ q2.out)
       clear s2
       go_upto_region 39 with (refine wpList_store_row rfl 33 (.tmp 40) (.tmp 184) rfl v2.heap.size (chCells C (.slice x21 n21 x22) (.slice x23 n22 x24)) rfl rfl 33 _ (heap_alloc_new v2 _) (info33 _ _ _) rfl (ch_all _ _ _ _ _ _ _) ?_)
       rw [← hw2.out, ← hg2.out]
       go_wp2_with fail
       refine (k38.out _).mono ?_
       rintro e v3 ⟨x31, x32, x33, x34, x35, x36, n31, n32, n33, rfl, hv3, b3⟩
       obtain ⟨w3, hwN⟩ : ∃ W, W = (v3.alloc (.cells #[.slice none 0 0, .slice none 0 0, .slice none 0 0] 26)).setRow v3.heap.size #[.slice x31 n31 x32, .slice x33 n32 x34, .slice x35 n33 x36] := ⟨_, rfl⟩
       obtain ⟨g3, hg3⟩ : ∃ g, Hid (g = v3.heap.size) := ⟨_, rfl⟩
       have ha3 : Below v3.heap.size v3 w3 := by rw [hwN]; exact below_setRow' ((Below.refl _ _).alloc (Nat.le_refl _) _) (Nat.le_refl _) _
       have c3 := Hd (b3.trans (ha3.mono b3.size))
       have q3 := Hd (show Below wI.heap.size wI w3 from ((q2.out).trans (b3.mono (q2.out).size)).trans (ha3.mono (((q2.out).trans (b3.mono (q2.out).size)).size)))
       have gv3 := Hd (hv3.below ha3)
       have bx3 := Hd (show w3.heap[g3]? = some (.cells #[.slice x31 n31 x32, .slice x33 n32 x34, .slice x35 n33 x36] 26 (0, 0)) by rw [hwN, hg3.out]; exact setRow_heap _ _ _ _ _ _ (heap_alloc_new v3 _))
       have hz3 := Hd (show g3 < w3.heap.size by rw [hwN, hg3.out]; simp)
       have hw3 := Hd hwN
       clear hwN ha3 b3 hv3
       have s4 := hcS.out w3 (up.out _ q3.out)
       clear s3
       go_upto_region 40 with (refine wpList_store_row rfl 26 (.tmp 43) (.tmp 194) rfl v3.heap.size #[.slice x31 n31 x32, .slice x33 n32 x34, .slice x35 n33 x36] rfl rfl 26 _ (heap_alloc_new v3 _) (size26b _ _ _) rfl (by simp [Value.oneCell']) ?_)
       rw [← hw3.out, ← hg3.out]
       go_wp2_with fail
       refine (k39.out _).mono ?_
       rintro e v4 ⟨x41, x42, x43, x44, x45, x46, n41, n42, n43, rfl, hv4, b4⟩
       obtain ⟨w4, hwN⟩ : ∃ W, W = (v4.alloc (.cells #[.slice none 0 0, .slice none 0 0, .slice none 0 0] 26)).setRow v4.heap.size #[.slice x41 n41 x42, .slice x43 n42 x44, .slice x45 n43 x46] := ⟨_, rfl⟩
       obtain ⟨g4, hg4⟩ : ∃ g, Hid (g = v4.heap.size) := ⟨_, rfl⟩
       have ha4 : Below v4.heap.size v4 w4 := by rw [hwN]; exact below_setRow' ((Below.refl _ _).alloc (Nat.le_refl _) _) (Nat.le_refl _) _
       have c4 := Hd (b4.trans (ha4.mono b4.size))
       have q4 := Hd (show Below wI.heap.size wI w4 from ((q3.out).trans (b4.mono (q3.out).size)).trans (ha4.mono (((q3.out).trans (b4.mono (q3.out).size)).size)))
       have gv4 := Hd (hv4.below ha4)
       have bx4 := Hd (show w4.heap[g4]? = some (.cells #[.slice x41 n41 x42, .slice x43 n42 x44, .slice x45 n43 x46] 26 (0, 0)) by rw [hwN, hg4.out]; exact setRow_heap _ _ _ _ _ _ (heap_alloc_new v4 _))
       have hz4 := Hd (show g4 < w4.heap.size by rw [hwN, hg4.out]; simp)
       have hw4 := Hd hwN
       clear hwN ha4 b4 hv4
       have s5 := hcS.out w4 (up.out _ q4.out)
       clear s4 s5
       go_upto_region 41 with (refine wpList_store_row rfl 26 (.tmp 46) (.tmp 204) rfl v4.heap.size #[.slice x41 n41 x42, .slice x43 n42 x44, .slice x45 n43 x46] rfl rfl 26 _ (heap_alloc_new v4 _) (size26b _ _ _) rfl (by simp [Value.oneCell']) ?_)
       rw [← hw4.out, ← hg4.out]
       have d1 := Hd ((c2.out.trans (c3.out.mono c2.out.size)).trans (c4.out.mono (Nat.le_trans c2.out.size c3.out.size)))
       have d2 := Hd (c3.out.trans (c4.out.mono c3.out.size))
       have y1 := Hd (fun W (BB : Below w4.heap.size w4 W) => ((d1.out.trans (BB.mono d1.out.size)).block _ hz1.out).trans bx1.out)
       have y2 := Hd (fun W (BB : Below w4.heap.size w4 W) => ((d2.out.trans (BB.mono d2.out.size)).block _ hz2.out).trans bx2.out)
       have y3 := Hd (fun W (BB : Below w4.heap.size w4 W) => ((c4.out.trans (BB.mono c4.out.size)).block _ hz3.out).trans bx3.out)
       have y4 := Hd (fun W (BB : Below w4.heap.size w4 W) => (BB.block _ hz4.out).trans bx4.out)
       have kS := SameChange_any _ _ C C w4 (gv1.out.below d1.out) (gv2.out.below d2.out) ⟨by have := hCl.out; omega, by have := hCl.out; omega⟩ ⟨by have := hCl.out; omega, by have := hCl.out; omega⟩
       rw [sameC_refl] at kS
       have kR := Hd (fun W (BB : Below w4.heap.size w4 W) => (show Calls Tryz.prog 18 #[.agg #[.slice x31 n31 x32, .slice x33 n32 x34, .slice x35 n33 x36], .agg #[.slice x41 n41 x42, .slice x43 n42 x44, .slice x45 n43 x46]] W fun e w' => e = .returned (.bool true) ∧ Below W.heap.size W w' from by
        have h := SameR_any _ _ G G W (gv3.out.below (c4.out.trans (BB.mono c4.out.size))) (gv4.out.below BB) ⟨by have := hGl.out; omega, by have := hGl.out; omega, by have := hGl.out; omega⟩ ⟨by have := hGl.out; omega, by have := hGl.out; omega, by have := hGl.out; omega⟩
        rw [sameG_refl] at h
        exact h))
       simp only [chCells] at kS
       replace kS := Hd kS
       clear gv1 gv2 gv3 gv4 bx1 bx2 bx3 bx4 d1 d2 c1 c2 c3 c4 k36 k37 k38 k39 u36 hw1 hw2 hw3 hw4 q1 q2 q3
       obtain ⟨a0, a1, a2, a3, a4, a5, a6, a7, a8, a9, aa, ab, ac⟩ := ch_cells (y1.out w4 (Below.refl _ _))
       obtain ⟨p0, p1, p2, p3, p4, p5, p6, p7, p8, p9, pa, pb, pc⟩ := ch_cells (y2.out w4 (Below.refl _ _))
       go_wp2_with fail
       refine kS.out.mono ?_
       rintro e w5 ⟨rfl, b5⟩
       obtain ⟨⟨r0, r1, r2⟩, _⟩ := box3c (y3.out w5 b5)
       obtain ⟨⟨t0, t1, t2⟩, _⟩ := box3c (y4.out w5 b5)
       have kR5 := Hd (kR.out w5 b5)
       have q5 := Hd (q4.out.trans (b5.mono q4.out.size))
       clear a0 a1 a2 a3 a4 a5 a6 a7 a8 a9 aa ab ac p0 p1 p2 p3 p4 p5 p6 p7 p8 p9 pa pb pc b5 kS kR
       go_wp2_with fail
       refine kR5.out.mono ?_
       rintro e w6 ⟨rfl, b6⟩
       have q6 := Hd (q5.out.trans (b6.mono q5.out.size))
       clear b6 kR5 r0 r1 r2 t0 t1 t2
       go_wp2_with fail
       go_roundw
       case rel => exact ⟨m + 1, by omega, by go_num, q6⟩
       case measure => simp [intOf]; omega
     · have j1 : ¬ (m : Int) < 2 := by omega
       have hf := Hd (hBI.out.trans (hq.out.mono hBI.out.size))
       go_wp2_with fail
       go_roundw
       case rel => exact ⟨k + 1, by omega, by go_num, hf⟩
       case measure => simp [intOf]; omega
  · have i1 : ¬ (k : Int) < (N : Int) := by omega
    have hF := Hd (hB.out.trans (hb.out.mono hB.out.size))
    go_wp2_with fail
    go_ret
    exact ⟨rfl, hF.out⟩
end Go.Proofs.YtlaldnlgapeckaaGreat
