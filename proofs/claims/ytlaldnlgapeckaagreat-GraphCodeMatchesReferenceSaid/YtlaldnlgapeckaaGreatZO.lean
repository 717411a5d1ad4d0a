/- GraphCodeMatchesReference, the second part: the encodings of the two changes. -/
import Derived.Test.YtlaldnlgapeckaaGreatZM
import Derived.Test.YtlaldnlgapeckaaGreatZX
set_option linter.unusedSimpArgs false
set_option maxRecDepth 1000000
set_option maxHeartbeats 8000000
namespace Go.Proofs.YtlaldnlgapeckaaGreat
open Go.RowKit
theorem encC_uni (c : Ch) (hr : ∀ n ∈ chN c, inI n) (hn : c.ends.length ≤ 1000 ∧ c.deps.length ≤ 100000) : ∃ (S : ByteArray) (E : Int), Hid (S.size ≤ 1000000) ∧ ∀ f, f = 34 ∨ f = 35 → ∀ vc W, CV W vc c → Calls Tryz.prog f #[vc] W fun e w' => e = .returned (.tuple #[.string S, .int .i64 E]) ∧ Below W.heap.size W w' := by
 have key : ∀ f, f = 34 ∨ f = 35 → ∀ vc W, CV W vc c → Calls Tryz.prog f #[vc] W (EncCPost c W) := fun f hf vc W h => by
  rcases hf with rfl | rfl
  · exact EncodeChange_any vc c W h hr ⟨by omega, by omega⟩
  · exact EncodeChangeR_any vc c W h hr ⟨by omega, by omega⟩
 cases he : encCOk c with
 | false =>
  refine ⟨⟨#[]⟩, 30, by show _ ≤ _; decide, fun f hf vc W h => (key f hf vc W h).mono fun e w' q => ?_⟩
  unfold EncCPost at q
  rw [he] at q
  exact q
 | true =>
  refine ⟨⟨((chN c).flatMap putL).toArray⟩, 0, ?_, fun f hf vc W h => (key f hf vc W h).mono fun e w' q => ?_⟩
  · show ((chN c).flatMap putL).toArray.size ≤ _
    have h1 := flat_len (chN c) putL 9 (fun x => (putL_len x).2) (chN c).length
    rw [List.take_length] at h1
    have h2 : (chN c).length ≤ 101100 := by simp [chN, edN]; omega
    rw [List.size_toArray]; omega
  · unfold EncCPost at q
    rw [he] at q
    exact q
theorem DL.upto' {W : World} {a : Option Addr} {n c : Nat} {l : List Int} (h : DL W (.slice a n c) l) (hn : n = l.length) (m : Nat) : DL W (.slice a (min n m) c) (l.take m) := by
 subst hn; exact (h.upto m).1
theorem cut_in {c : Ch} (h : ∀ n ∈ chN c, inI n) : ∀ n ∈ chN (cutC c), inI n := by
 intro n hn
 unfold chN cutC at hn
 simp only [List.mem_append, List.mem_singleton, List.length_take] at hn
 have hm : ∀ n, (n ∈ [c.kind] ∨ n ∈ [c.v.id, c.v.side] ∨ n ∈ edN c.e ∨ n ∈ [c.id, c.n] ∨ n ∈ c.ends ∨ n ∈ c.deps) → inI n := fun n hq => h n (by
  unfold chN
  simp only [List.mem_append]
  rcases hq with h | h | h | h | h | h
  · exact .inl (.inl (.inl (.inl (.inl (.inl (.inl h))))))
  · exact .inl (.inl (.inl (.inl (.inl (.inl (.inr h))))))
  · exact .inl (.inl (.inl (.inl (.inl (.inr h)))))
  · exact .inl (.inl (.inl (.inl (.inr h))))
  · exact .inl (.inl (.inr h))
  · exact .inr h)
 rcases hn with ((((((rfl | hn) | hn) | hn) | rfl) | hn) | rfl) | hn
 · exact hm _ (.inl (List.mem_singleton.2 rfl))
 · exact hm _ (.inr (.inl hn))
 · exact hm _ (.inr (.inr (.inl hn)))
 · exact hm _ (.inr (.inr (.inr (.inl hn))))
 · unfold inI; omega
 · exact hm _ (.inr (.inr (.inr (.inr (.inl (List.mem_of_mem_take hn))))))
 · unfold inI; omega
 · exact hm _ (.inr (.inr (.inr (.inr (.inr (List.mem_of_mem_take hn))))))
/-- the two changes in a row -/
structure TwoC (W : World) (B gb : Nat) (c d : Ch) (x1 x2 y1 y2 : Value) : Prop where
 row : W.heap[gb]? = some (.cells (chCells c x1 x2 ++ chCells d y1 y2) 33 (0, 0))
 own1 : OwnI W B y1 d.ends
 own2 : OwnI W B y2 d.deps
theorem TwoC.below {W W' : World} {B gb : Nat} {c d : Ch} {x1 x2 y1 y2 : Value} (h : TwoC W B gb c d x1 x2 y1 y2) (b : Below W.heap.size W W') : TwoC W' B gb c d x1 x2 y1 y2 :=
 ⟨(b.block _ (Array.getElem?_eq_some_iff.1 h.row).1).trans h.row, own_below h.own1 b, own_below h.own2 b⟩
theorem TwoC.grown {W W' : World} {B B' gb : Nat} {c d : Ch} {x1 x2 y1 y2 v : Value} {T : List ByteArray} {o : Obj} (h : TwoC W B gb c d x1 x2 y1 y2) (hg : (W.alloc o).grownBy W' v.ownBlock) (ho : OwnT W B' v T) (h1 : W.ownsRow B 9 1 v T.length (T.map Value.string)) : TwoC W' B gb c d x1 x2 y1 y2 :=
 ⟨(grown_keep hg ho gb (Array.getElem?_eq_some_iff.1 h.row).1 (fun _ => ⟨_, h.row, fun cs e => by cases e⟩)).trans h.row, own_grown hg h1 h.own1 (by decide), own_grown hg h1 h.own2 (by decide)⟩
theorem OwnT.snoc' {W : World} {B : Nat} {v : Value} {T : List ByteArray} (h : OwnT W B v T) (X : ByteArray) (hl : T.length ≤ 1000) (hB : B ≤ W.heap.size) : ∃ g cap w', (Builtin.append_ #[58, 58] 58 #[v, .slice (some ⟨W.heap.size, 0, none⟩) 1 1]).run Tryz.prog (W.alloc (.cells #[.string X] 9)) = .ok (.slice (some ⟨g, 0, none⟩) (T.length + 1) cap) w' ∧ OwnT w' B (.slice (some ⟨g, 0, none⟩) (T.length + 1) cap) (T ++ [X]) ∧ (∀ K w0, K ≤ B → Below K w0 W → Below K w0 w') ∧ (W.alloc (.cells #[.string X] 9)).grownBy w' v.ownBlock := by
 obtain ⟨i9, hi, hz0, hz1, hz2⟩ := info_parts info9
 obtain ⟨g, cap, w', hr, ho, hg⟩ := snocX B 58 9 i9 _ 1 16 Tryz.underlying58 hi hz0 hz1 hz2 rfl (by omega) (by omega) W v T.length (T.map Value.string) #[.string X] rfl (by simp [Value.oneCell']) h (by omega) hB
 refine ⟨g, cap, w', hr, ?_, fun K w0 hK hb => (hb.alloc (by have := hb.size; omega) _).grown hg (by simp; omega) (fun j hj => ?_), hg⟩
 · unfold OwnT
   rw [List.length_append, List.map_append]
   simpa using ho
 · have := (own_row h j hj).1
   omega
theorem gcm2 (q0 q1 q2 q3 q4 q5 q8 q9 q10 q13 q14 q15 q16 q20 q21 q22 q23 q24 q25 q26 q27 q28 q29 q30 q31 q32 q33 q34 q35 q36 q37 q38 q39 q40 q41 q42 q43 q44 q45 q46 q47 q48 q49 q50 q51 q52 q53 q54 q55 q56 q57 q58 q59 q60 q61 q62 q63 q64 q65 q66 q67 q68 q69 q70 q71 q72 q73 q74 q75 q76 q77 q78 q79 q80 q81 q82 q83 q84 q85 q86 q87 q88 q89 q90 q91 q92 q93 q94 q95 q96 q97 q98 q99 q100 q101 q102 q103 q104 q105 q106 q107 q108 q109 q110 q111 q112 q113 q114 q115 q116 q117 q118 q119 q120 q121 q122 q123 q124 q125 q126 q127 q128 q129 q130 q131 q132 q133 q134 q135 q136 q137 q138 q139 q140 q141 q142 q143 q144 q145 q146 q147 q148 q149 q150 q151 q152 q153 q154 q155 q156 q157 q158 q159 q160 q161 q162 q163 q164 q165 q166 q167 q168 q169 q170 q171 q172 q173 q174 q175 q176 q177 q178 q179 q180 q181 q182 q183 q184 q185 q186 q187 q188 q189 q190 q191 q192 q193 q194 q195 q196 q197 q198 q199 q200 q201 q202 q203 q204 q205 q206 q207 q208 q209 q210 q211 q212 q213 q214 q215 q216 q217 q218 q219 q220 q221 q222 q223 q224 q225 q226 q227 q228 q229 q230 q231 q232 q233 q234 q235 q236 q237 q238 : Value) (w w0 : World) (at_ : Int) (cb tb tc B p11 p12 p18 : Nat) (T : List ByteArray) (odd : Ch) (oa ob g1 g3 g5 : Option Addr) (n1 oc n2 od m1 g2 m2 g4 m3 g6 : Nat) (x : F6) (G : Gr) (hN : Hid (T.length = 3)) (hT : Hid (∀ s ∈ T, s.size ≤ 1000000)) (ha : Hid (inI at_)) (hcb : Hid (cb < 256)) (ho : Hid (OwnT w0 B (.slice (some ⟨tb, 0, none⟩) 3 tc) T))
  (hB : Hid (Below w.heap.size w w0)) (hwB : Hid (w.heap.size ≤ B ∧ B ≤ w0.heap.size)) (hn : Hid (n1 = odd.ends.length ∧ n2 = odd.deps.length)) (hcap : n1 ≤ oc ∧ n2 ≤ od ∧ n1 ≤ 9223372036854775807 ∧ n2 ≤ 9223372036854775807)
  (hodd : Hid (∀ W, Below B w0 W → W.heap[p11]? = some (.cells (chCells odd (.slice oa n1 oc) (.slice ob n2 od)) 33 (0, 0)))) (hoA : Hid (∀ W, Below B w0 W → DL W (.slice oa n1 oc) odd.ends)) (hoB : Hid (∀ W, Below B w0 W → DL W (.slice ob n2 od) odd.deps)) (hri : Hid (∀ n ∈ chN odd, inI n))
  (hx : Hid (∀ W, Below B w0 W → W.heap[p12]? = some (.cells x.cells 42 (0, 0)))) (hxB : Hid x.inB)
  (hG : Hid (∀ W, Below B w0 W → W.heap[p18]? = some (.cells #[.slice g1 m1 g2, .slice g3 m2 g4, .slice g5 m3 g6] 26 (0, 0)) ∧ GV W (.agg #[.slice g1 m1 g2, .slice g3 m2 g4, .slice g5 m3 g6]) G)) (hok : Hid (Ok G)) :
  Code.wp Tryz.prog (sfx4 6) (bodyPost Tryz.prog Tryz.f4 fun e w' => e = .returned (.bool true) ∧ Below w.heap.size w w') ⟨(q0 :: q1 :: q2 :: q3 :: q4 :: q5 :: .int .i64 at_ :: .int .u8 (cb : Int) :: q8 :: q9 :: q10 :: .pointer (some ⟨p11, 0, none⟩) :: .pointer (some ⟨p12, 0, none⟩) :: q13 :: q14 :: q15 :: q16 :: .bool true :: .pointer (some ⟨p18, 0, none⟩) :: .slice (some ⟨tb, 0, none⟩) 3 tc :: q20 :: q21 :: q22 :: q23 :: q24 :: q25 :: q26 :: q27 :: q28 :: q29 :: q30 :: q31 :: q32 :: q33 :: q34 :: q35 :: q36 :: q37 :: q38 :: q39 :: q40 :: q41 :: q42 :: q43 :: q44 :: q45 :: q46 :: q47 :: q48 :: q49 :: q50 :: q51 :: q52 :: q53 :: q54 :: q55 :: q56 :: q57 :: q58 :: q59 :: q60 :: q61 :: q62 :: q63 :: q64 :: q65 :: q66 :: q67 :: q68 :: q69 :: q70 :: q71 :: q72 :: q73 :: q74 :: q75 :: q76 :: q77 :: q78 :: q79 :: q80 :: q81 :: q82 :: q83 :: q84 :: q85 :: q86 :: q87 :: q88 :: q89 :: q90 :: q91 :: q92 :: q93 :: q94 :: q95 :: q96 :: q97 :: q98 :: q99 :: q100 :: q101 :: q102 :: q103 :: q104 :: q105 :: q106 :: q107 :: q108 :: q109 :: q110 :: q111 :: q112 :: q113 :: q114 :: q115 :: q116 :: q117 :: q118 :: q119 :: q120 :: q121 :: q122 :: q123 :: q124 :: q125 :: q126 :: q127 :: q128 :: q129 :: q130 :: q131 :: q132 :: q133 :: q134 :: q135 :: q136 :: q137 :: q138 :: q139 :: q140 :: q141 :: q142 :: q143 :: q144 :: q145 :: q146 :: q147 :: q148 :: q149 :: q150 :: q151 :: q152 :: q153 :: q154 :: q155 :: q156 :: q157 :: q158 :: q159 :: q160 :: q161 :: q162 :: q163 :: q164 :: q165 :: q166 :: q167 :: q168 :: q169 :: q170 :: q171 :: q172 :: q173 :: q174 :: q175 :: q176 :: q177 :: q178 :: q179 :: q180 :: q181 :: q182 :: q183 :: q184 :: q185 :: q186 :: q187 :: q188 :: q189 :: q190 :: q191 :: q192 :: q193 :: q194 :: q195 :: q196 :: q197 :: q198 :: q199 :: q200 :: q201 :: q202 :: q203 :: q204 :: q205 :: q206 :: q207 :: q208 :: q209 :: q210 :: q211 :: q212 :: q213 :: q214 :: q215 :: q216 :: q217 :: q218 :: q219 :: q220 :: q221 :: q222 :: q223 :: q224 :: q225 :: q226 :: q227 :: q228 :: q229 :: q230 :: q231 :: q232 :: q233 :: q234 :: q235 :: q236 :: q237 :: q238 :: []).toArray, []⟩ w0 := by
 obtain ⟨hc1, hc2, hc3, hc4⟩ := hcap
 have hlow := Hd (fun W (BB : Below w0.heap.size w0 W) => (BB.mono hwB.out.2 : Below B w0 W))
 have hl33 := Hd (fun W (BB : Below w0.heap.size w0 W) => ch_cells (hodd.out W (hlow.out W BB)))
 have hl26 := Hd (fun W (BB : Below w0.heap.size w0 W) => (box3c (hG.out W (hlow.out W BB)).1).1)
 have hl42 := Hd (fun W (BB : Below w0.heap.size w0 W) => (by
  have h := hx.out W (hlow.out W BB)
  refine ⟨?_, ?_, ?_, ?_, ?_, ?_⟩ <;> (rw [cell_of_row W p12 _ _ _ _ h]; rfl) : W.cell? ⟨p12, 0, none⟩ = some (.int .i64 x.a) ∧ W.cell? ⟨p12, 1, none⟩ = some (.int .i64 x.b) ∧ W.cell? ⟨p12, 2, none⟩ = some (.int .i64 x.c) ∧ W.cell? ⟨p12, 3, none⟩ = some (.int .i64 x.d) ∧ W.cell? ⟨p12, 4, none⟩ = some (.int .i64 x.e) ∧ W.cell? ⟨p12, 5, none⟩ = some (.int .i64 x.f)))
 have kcut := Hd (fun W => cut_x odd oa ob n1 oc n2 od W hc1 hc2 ⟨hc3, hc4⟩)
 have hv := hok.out.vlen
 have he := hok.out.elen
 have hd := hok.out.dlen
 have kch := Hd (fun W (h : GV W (.agg #[.slice g1 m1 g2, .slice g3 m2 g4, .slice g5 m3 g6]) G) => ChangedO_any _ G x W h ⟨by omega, by omega, by omega⟩ hxB.out)
 clear hv he hd
 conv => arg 2; whnf
 go_upto_region 15 with (fail)
 go_cut [98, 99, 100] from 93 to 100 (fun s l z wx => Hid (∃ gb y1 y2 y3 y4, ∃ k1 k2 : Nat, s = .slice (some ⟨gb, 0, none⟩) 2 2 ∧ l = .int .i64 2 ∧ z = .int .i64 0 ∧ Hid (TwoC wx B gb (cutC odd) (changedC G x) (.slice oa (min n1 82) oc) (.slice ob (min n2 5) od) (.slice y1 k1 y2) (.slice y3 k2 y4)) ∧ Hid (OwnT wx B (.slice (some ⟨tb, 0, none⟩) 3 tc) T) ∧ Hid (Below w0.heap.size w0 wx)))
 case first =>
  refine wp_region_F (fun W => Below w0.heap.size w0 W) 999 (by kernel_rfl) (Below.refl _ w0).drew (fun hHeld => ?_)
  refine tkP 0 rfl ?_ (by (intro w h; obtain ⟨u0, u1, u2, u3, u4, u5, u6, u7, u8, u9, u10, u11, u12⟩ := hl33.out w h; clear h; go_simp) <;> with_reducible rfl)
  refine tkP 2 rfl ?_ (by (intro w h; obtain ⟨u0, u1, u2⟩ := hl26.out w h; clear h; go_simp) <;> with_reducible rfl)
  refine tkP 3 rfl ?_ (by (intro w h; obtain ⟨u0, u1, u2, u3, u4, u5⟩ := hl42.out w h; clear h; go_simp) <;> with_reducible rfl)
  refine tkP 7 rfl ?_
  refine rdy [1] ?_
  refine arC rfl (fun K hK => ?_) AllReadyF.nil
  go_simp
  refine (kcut.out _).mono ?_
  rintro e w1 ⟨rfl, b1⟩
  have hb1 : Below w0.heap.size w0 w1 := (Below.refl _ w0).drew.trans b1
  go_wp2_with fail
  refine hK.out _ _ hb1 (fun hHeld => ?_)
  clear hK K
  try simp only [Act.put, zT, z0, zS]
  refine rdy [4] ?_
  refine arC rfl (fun K hK => ?_) AllReadyF.nil
  go_simp
  refine (kch.out w1 (hG.out w1 (hlow.out w1 hb1)).2).mono ?_
  rintro e w2 ⟨r, rfl, hr, b2⟩
  obtain ⟨y, y', rfl, o1, o2⟩ := hr
  obtain ⟨y1, y2, rfl⟩ := o1.DL.shape
  obtain ⟨y3, y4, rfl⟩ := o2.DL.shape
  have hb2 : Below w0.heap.size w0 w2 := hb1.trans (b2.mono hb1.size)
  go_wp2_with fail
  refine hK.out _ _ hb2 (fun hHeld => ?_)
  clear hK K
  try simp only [Act.put, zT, z0, zS]
  refine rdy [5] ?_
  refine arC rfl (fun K hK => ?_) AllReadyF.nil
  unfold chCells
  go_simp
  go_wp2_with fail
  have hA : Below w2.heap.size w2 (w2.alloc (.cells (chCells odd (.slice oa (min n1 82) oc) (.slice ob (min n2 5) od) ++ chCells (changedC G x) (.slice y1 (changedC G x).ends.length y2) (.slice y3 (changedC G x).deps.length y4)) 33)) := (Below.refl _ _).alloc (Nat.le_refl _) _
  have hb3 := hb2.trans (hA.mono hb2.size)
  have hle : B ≤ w1.heap.size := Nat.le_trans hwB.out.2 hb1.size
  have hTw := Hd (show TwoC (w2.alloc (.cells (chCells odd (.slice oa (min n1 82) oc) (.slice ob (min n2 5) od) ++ chCells (changedC G x) (.slice y1 (changedC G x).ends.length y2) (.slice y3 (changedC G x).deps.length y4)) 33)) B w2.heap.size (cutC odd) (changedC G x) (.slice oa (min n1 82) oc) (.slice ob (min n2 5) od) (.slice y1 (changedC G x).ends.length y2) (.slice y3 (changedC G x).deps.length y4) from ⟨heap_alloc_new w2 _, own_below (own_low o1 hle) hA, own_below (own_low o2 hle) hA⟩)
  refine hK.out _ _ hb3 (fun hHeld => ?_)
  clear hK K
  try simp only [Act.put, zT, z0, zS]
  refine tkP 6 rfl ?_
  refine wpAnyF_done (by kernel_rfl) ?_ _
  have hb3 := Hd hb3
  have hO3 := Hd (own_below ho.out hb3.out)
  clear hA hb2 hb1 b1 b2 o1 o2 hHeld
  go_wp2_with fail
  go_meet
  case rel => exact ⟨_, _, _, _, _, _, _, rfl, rfl, rfl, hTw, hO3, hb3⟩
 case rest =>
 obtain ⟨gb, y1, y2, y3, y4, k1, k2, rfl, rfl, rfl, hTw, hO, hb⟩ := hcut.out
 obtain ⟨wx, rfl⟩ : ∃ w', w' = wc := ⟨_, rfl⟩
 clear hcut kcut kch hl33 hl26 hl42
 obtain ⟨D, hD⟩ : ∃ D, Hid (D = changedC G x) := ⟨_, rfl⟩
 rw [← hD.out] at hTw
 have hDk : Hid (okCh D) := by show okCh D; rw [hD.out]; exact changed_okCh G x hok.out
 obtain ⟨S1, E1, hS1, kE1⟩ := encC_uni (cutC odd) (fun n h => cut_in hri.out n h) ⟨by simp [cutC]; omega, by simp [cutC]; omega⟩
 obtain ⟨S2, E2, hS2, kE2⟩ := encC_uni D (okCh_I hDk.out) (by have h := hDk.out.2.2.2.2.2; exact ⟨by have := h.1.1; omega, by have := h.2.1; omega⟩)
 have hsel : ∀ k, k < 2 → ∃ (C : Ch) (S : ByteArray) (E : Int) (a1 a2 a3 a4 : _) (e1 e3 : Nat), Hid (∀ W, Below B w0 W → TwoC W B gb (cutC odd) D (.slice oa (min n1 82) oc) (.slice ob (min n2 5) od) (.slice y1 k1 y2) (.slice y3 k2 y4) → ChAt W gb (k * 13) C (.slice a1 e1 a2) (.slice a3 e3 a4) ∧ DL W (.slice a1 e1 a2) C.ends ∧ DL W (.slice a3 e3 a4) C.deps) ∧ Hid (S.size ≤ 1000000) ∧ Hid (∀ f, f = 34 ∨ f = 35 → ∀ vc W, CV W vc C → Calls Tryz.prog f #[vc] W fun e w' => e = .returned (.tuple #[.string S, .int .i64 E]) ∧ Below W.heap.size W w') := by
  intro k hk
  rcases (by omega : k = 0 ∨ k = 1) with rfl | rfl
  · refine ⟨cutC odd, S1, E1, _, _, _, _, _, _, fun W BB h => ⟨fun i u hu => ?_, (by have := (hoA.out W BB).upto' hn.out.1 82; exact this), (by have := (hoB.out W BB).upto' hn.out.2 5; exact this)⟩, hS1, kE1⟩
    rw [Nat.zero_mul, Nat.zero_add, cell_of_row _ _ _ _ _ _ h.row]
    have hi : i < 13 := (Array.getElem?_eq_some_iff.1 hu).1
    rw [← hu, Array.getElem?_append_left (by exact hi)]
  · refine ⟨D, S2, E2, _, _, _, _, _, _, fun W BB h => ⟨fun i u hu => ?_, h.own1.DL, h.own2.DL⟩, hS2, kE2⟩
    rw [Nat.one_mul, cell_of_row _ _ _ _ _ _ h.row]
    have hi : i < 13 := (Array.getElem?_eq_some_iff.1 hu).1
    rw [← hu, Array.getElem?_append_right (by show 13 ≤ 13 + i; omega)]
    congr 1
    show 13 + i - 13 = i
    omega
 replace hsel := Hd hsel
 clear hodd hoA hoB hri hx hxB hG hok hD hDk hS1 hS2 kE1 kE2 hn
 go_wp2_with fail
 go_loopw [19, 100] (fun lv i wr => ∃ (k : Nat) (T' : List ByteArray), k ≤ 2 ∧ i = .int .i64 k ∧ Hid (T'.length = 3 + k) ∧ Hid (OwnT wr B lv T') ∧ Hid (∀ s ∈ T', s.size ≤ 1000000) ∧ Hid (Below B w0 wr) ∧ Hid (TwoC wr B gb (cutC odd) D (.slice oa (min n1 82) oc) (.slice ob (min n2 5) od) (.slice y1 k1 y2) (.slice y3 k2 y4))) (fun _ i _ => 2 - (intOf i).toNat)
 case atStart => exact ⟨0, T, Nat.zero_le _, rfl, hN, by show OwnT _ _ _ _; exact hO.out, hT, hlow.out _ hb.out, hTw⟩
 case round =>
  obtain ⟨k, T', hk, rfl, hl, hO', hS', hbB, hTw'⟩ := hrel
  obtain ⟨xb, xc, ex, -⟩ := hO'.out.at_ (fun e => by have := hl.out; rw [e] at this; simp at this; omega)
  obtain ⟨M, hM⟩ : ∃ M, Hid (M = T'.length) := ⟨_, rfl⟩
  rw [← hM.out] at ex
  subst ex
  by_cases hlt : k < 2
  · have i0' : (0 : Int) ≤ (k : Int) := by omega
    have i1 : (k : Int) < 2 := by omega
    obtain ⟨C, S, E, a1, a2, a3, a4, e1, e3, hat, hSz, kE⟩ := hsel.out k hlt
    have hCC := Hd (hat.out wr hbB.out hTw'.out)
    obtain ⟨u0, u1, u2, u3, u4, u5, u6, u7, u8, u9, u10, u11, u12⟩ := hCC.out.1.cells
    obtain ⟨w1, hw1⟩ : ∃ W, W = wr.alloc (.cells (chCells C (.slice a1 e1 a2) (.slice a3 e3 a4)) 33) := ⟨_, rfl⟩
    obtain ⟨pb, hpb⟩ : ∃ p, Hid (p = wr.heap.size) := ⟨_, rfl⟩
    have hA1 := Hd (show Below wr.heap.size wr w1 by rw [hw1]; exact (Below.refl _ _).alloc (Nat.le_refl _) _)
    have hx1 := Hd (show w1.heap[pb]? = some (.cells (chCells C (.slice a1 e1 a2) (.slice a3 e3 a4)) 33 (0, 0)) by rw [hw1, hpb.out]; exact heap_alloc_new wr _)
    have hpz := Hd (show pb < w1.heap.size by rw [hw1, hpb.out]; simp)
    have hcv := Hd (fun W (BB : Below w1.heap.size w1 W) => (⟨_, _, rfl, (hCC.out.2.1.below hA1.out).below BB, (hCC.out.2.2.below hA1.out).below BB⟩ : CV W (.agg (chCells C (.slice a1 e1 a2) (.slice a3 e3 a4))) C))
    have hbx := Hd (fun W (BB : Below w1.heap.size w1 W) => ch_cells ((BB.block _ hpz.out).trans hx1.out))
    simp only [chCells] at hw1
    replace hw1 := Hd hw1
    have hle := Hd (show B ≤ wr.heap.size from Nat.le_trans (Nat.le_trans hwB.out.2 (Nat.le_refl _)) hbB.out.size)
    have c34 := kE.out 34 (.inl rfl) _ w1 (hcv.out w1 (Below.refl _ _))
    have c35 := Hd (fun W (BB : Below w1.heap.size w1 W) => kE.out 35 (.inr rfl) _ W (hcv.out W BB))
    simp only [chCells] at c34 c35
    replace c34 := Hd c34
    clear hCC hcv hx1
    go_upto_region 18 with (fail)
    rw [← hw1.out, ← hpb.out]
    clear u0 u1 u2 u3 u4 u5 u6 u7 u8 u9 u10 u11 u12
    obtain ⟨u0, u1, u2, u3, u4, u5, u6, u7, u8, u9, u10, u11, u12⟩ := hbx.out w1 (Below.refl _ _)
    go_wp2_with fail
    refine c34.out.mono ?_
    rintro e w2 ⟨rfl, b2⟩
    have b2 := Hd b2
    clear u0 u1 u2 u3 u4 u5 u6 u7 u8 u9 u10 u11 u12 c34
    obtain ⟨u0, u1, u2, u3, u4, u5, u6, u7, u8, u9, u10, u11, u12⟩ := hbx.out w2 b2.out
    go_wp2_with fail
    refine (c35.out w2 b2.out).mono ?_
    rintro e w3 ⟨rfl, b3⟩
    have hA3 := Hd ((hA1.out.trans (b2.out.mono hA1.out.size)).trans (b3.mono (Nat.le_trans hA1.out.size b2.out.size)))
    clear u0 u1 u2 u3 u4 u5 u6 u7 u8 u9 u10 u11 u12 b3 b2 c35 hbx hA1
    have hO3 : OwnT w3 B (.slice (some ⟨xb, 0, none⟩) M xc) T' := own_below hO'.out hA3.out
    obtain ⟨ga, cap, w5, hr5, ho5, hb5, hg5⟩ := hO3.snoc' S (by have := hl.out; omega) (Nat.le_trans hle.out hA3.out.size)
    have hT5 := Hd ((hTw'.out.below hA3.out).grown hg5 hO3 hO3)
    rw [← hM.out] at hr5 ho5
    have ho5 := Hd ho5
    have hb6 := Hd (hb5 B w0 (Nat.le_refl _) (hbB.out.trans (hA3.out.mono hle.out)))
    have hS5 : Hid (∀ s ∈ T' ++ [S], s.size ≤ 1000000) := by
     show ∀ s ∈ _, _
     intro s hs
     rcases List.mem_append.1 hs with h | h
     · exact hS'.out s h
     · rw [List.mem_singleton.1 h]; exact hSz.out
    clear hO3 hb5 hg5
    go_wp2_with (at_builtin; refine wpList_append_runB rfl (.tmp 122) (.tmp 124) 58 rfl _ _ rfl rfl _ _ hr5 ?_)
    go_roundw
    case rel => exact ⟨k + 1, T' ++ [S], by omega, by go_num, by show _ = _; rw [List.length_append, List.length_singleton]; have := hl.out; omega, ho5, hS5, hb6, hT5⟩
    case measure => simp [intOf]; omega
  · have i1 : ¬ (k : Int) < 2 := by omega
    have hk2 : k = 2 := by omega
    rename_i K0 hK0
    have hK1 := Hd hK0
    have hl5 := Hd (show T'.length = 5 by have := hl.out; omega)
    have hbw := Hd (hB.out.trans (hbB.out.mono hwB.out.1))
    have hwB2 := Hd (And.intro hwB.out.1 (show B ≤ wr.heap.size from Nat.le_trans hwB.out.2 hbB.out.size))
    clear hK0 hlt hk2
    go_wp2_with fail
    rw [hM.out]
    rw [hM.out] at hO'
    refine hK1.out _ _ ?_
    refine wp_eq (D := sfx4 7) (by kernel_rfl) ?_
    exact gcm3 _ _ _ _ _ _ _ _ _ _ _ _ _ _ _ _ _ _ _ _ _ _ _ _ _ _ _ _ _ _ _ _ _ _ _ _ _ _ _ _ _ _ _ _ _ _ _ _ _ _ _ _ _ _ _ _ _ _ _ _ _ _ _ _ _ _ _ _ _ _ _ _ _ _ _ _ _ _ _ _ _ _ _ _ _ _ _ _ _ _ _ _ _ _ _ _ _ _ _ _ _ _ _ _ _ _ _ _ _ _ _ _ _ _ _ _ _ _ _ _ _ _ _ _ _ _ _ _ _ _ _ _ _ _ _ _ _ _ _ _ _ _ _ _ _ _ _ _ _ _ _ _ _ _ _ _ _ _ _ _ _ _ _ _ _ _ _ _ _ _ _ _ _ _ _ _ _ _ _ _ _ _ _ _ _ _ _ _ _ _ _ _ _ _ _ _ _ _ _ _ _ _ _ _ _ _ _ _ _ _ _ _ _ _ _ _ _ _ _ _ _ _ _ _ _ _ _ _ _ _ _ _ _ _ _ w wr at_ cb xb xc B T' hl5 hS' ha hcb hO' hbw hwB2
end Go.Proofs.YtlaldnlgapeckaaGreat
