/- Contracts and facts. -/
import Derived.Deep.LoopGhost
import Derived.Handy
import Derived.WalkMore
import Derived.BigRegion
import Derived.Laws.EntriesVeiled
import Derived.Test.YtlnbobclbaieoaaUHG
set_option linter.unusedSimpArgs false
set_option maxRecDepth 100000
set_option maxHeartbeats 4000000
namespace Go.Proofs.Ytlnbobclbaieoaa
open Go.RowKit

def nxF (a x : Int) (l : List Ed) : Int := l.foldl (fun acc e => if e.id = x then otherI e a else acc) (-1)
theorem nxF_snoc (a x : Int) (l : List Ed) (e : Ed) : nxF a x (l ++ [e]) = if e.id = x then otherI e a else nxF a x l := by
  unfold nxF; rw [List.foldl_append]; rfl
theorem nxF_of {a x : Int} {e : Ed} : ∀ (l : List Ed) (acc : Int), (∀ f ∈ l, f.id = x → f = e) → (e ∈ l ∨ acc = otherI e a) → e.id = x → l.foldl (fun acc e => if e.id = x then otherI e a else acc) acc = otherI e a := by
  intro l
  induction l with
  | nil => intro acc _ h _; rcases h with h | h; exact absurd h (by simp); exact h
  | cons f l ih =>
    intro acc hu h he
    rw [List.foldl_cons]
    refine ih _ (fun g hg => hu g (by simp [hg])) ?_ he
    by_cases hf : f.id = x
    · have := hu f (by simp) hf
      subst this
      rw [if_pos he]; exact .inr rfl
    · rw [if_neg hf]
      rcases h with h | h
      · rcases List.mem_cons.1 h with rfl | h
        · exact absurd he hf
        · exact .inl h
      · exact .inr h
/-- what the loop of ForestEquivalence walks over -/
structure EW (G : Gr) (P : List Int) (pv : Nat → Int) (p q : Int) : Prop where
  zero : pv 0 = p
  last : pv P.length = q
  nn : ∀ i, i ≤ P.length → 0 ≤ pv i
  nx : ∀ i x, P[i]? = some x → nxF (pv i) x (atF G.es (pv i)) = pv (i + 1)
  inj : ∀ i j, i ≤ P.length → j ≤ P.length → pv i = pv j → i = j
theorem ew_of {G : Gr} {p q : Int} (ho : G.ok = true) (hp : p ∈ keysV G.vs) (hq : q ∈ keysV G.vs) (hr : (gp (mF G) p).root = (gp (mF G) q).root) : EW G (pathF G.es (mF G) p q) (pvF G.es (mF G) p q) p q := by
  obtain ⟨h1, h2, h3, h4, h5⟩ := good_of ho
  have W := path_walk h1 h2 hp hq hr
  refine ⟨W.zero, W.last, fun i hi => h1.vnn _ (W.mem i hi), fun i x hx => ?_, W.inj⟩
  obtain ⟨e, he, e1, e2⟩ := W.step i x hx
  unfold nxF
  rw [nxF_of (e := e) _ _ (fun f hf hfx => h1.uniq f ((mem_atF.1 hf).1) e ((mem_atF.1 he).1) (by rw [hfx, e1])) (.inl he) e1, e2]
noncomputable def sfxE (n : Nat) : Code := dropC n (Try.f3.body.getD .skip)
def seenF (pv : Nat → Int) (k : Nat) : List Int := (List.range k).map pv
theorem seenF_succ (pv : Nat → Int) (k : Nat) : seenF pv (k + 1) = seenF pv k ++ [pv k] := by unfold seenF; rw [List.range_succ, List.map_append]; rfl
theorem seenF_len (pv : Nat → Int) (k : Nat) : (seenF pv k).length = k := by simp [seenF]
theorem seenF_at (pv : Nat → Int) (k i : Nat) (h : i < k) : (seenF pv k)[i]? = some (pv i) := by simp [seenF, h]
set_option maxRecDepth 1000000 in
set_option maxHeartbeats 16000000 in
theorem equiv_loop (q0 q1 q2 q3 q4 q5 q6 q7 q8 q9 q10 q11 q12 q16 q17 q18 q19 q20 q21 q22 q23 q24 q25 q26 q28 q30 q33 q34 q35 q36 q37 q38 q39 q40 q41 q42 q43 q44 q45 q46 q47 q48 q49 q50 q51 q52 q53 q54 q55 q56 q57 q58 q59 q60 q61 q62 q63 q64 q65 q66 q67 q68 q69 q70 q71 q72 q73 q74 q75 q76 q77 q78 q79 q80 q81 q82 q83 q84 q85 q86 q87 q88 q89 q90 q91 q92 q93 q94 q95 q96 q97 q98 q99 q100 q101 q102 q103 q104 q105 q106 q107 q108 q109 q110 q111 q112 q113 q114 q115 q116 q117 q118 q119 q120 q121 q122 q123 q124 q125 q126 q127 q128 q129 q130 q131 q132 q133 q134 q135 q136 q137 q138 q139 q140 q141 q142 q143 q144 q145 q146 q147 q148 q149 q150 q151 q152 q153 q154 q155 q156 q157 q158 q159 q160 q161 q162 q163 q164 q165 q166 q167 q168 q169 q170 q171 q172 q173 q174 q175 q176 q177 q178 q179 q180 q181 q182 q183 q184 q185 q186 q187 q188 q189 q190 q191 q192 q193 q194 q195 q196 q197 q198 q199 q200 q201 q202 q203 q204 q205 q206 q207 q208 q209 q210 q211 q212 q213 q214 q215 q216 q217 q218 q219 q220 q221 q222 q223 q224 q225 q226 q227 q228 q229 q230 q231 q232 q233 q234 q235 q236 q237 q238 q239 q240 q241 q242 q243 q244 q245 : Value) (w w3 wS wA : World) (G : Gr) (p q : Int) (P : List Int) (pv : Nat → Int) (M fc tc : Nat) (fa ta : Option Addr) (sv : Value) (bg vb vo N1 a2 N2 b2 N3 c2 : Nat) (b1 c1 : Option Addr)
    (hL : Hid (LB w3 G bg vb vo N1 a2 N2 b2 N3 c2 b1 c1)) (hB : Hid (Below w3.heap.size w3 wS)) (hBA : Hid (Below wS.heap.size wS wA)) (hBB : Hid (Below w.heap.size w w3)) (hM : Hid (M = P.length)) (hM9 : M ≤ 1000) (hP : Hid (DL wS (.slice fa M fc) P)) (hR : Hid (DL wS (.slice ta M tc) P.reverse))
    (hS : Hid (OwnI wA wS.heap.size sv [p])) (hE : Hid (EW G P pv p q)) :
    Code.wp Try.prog (sfxE 18) (bodyPost Try.prog Try.f3 fun e w' => e = .returned (.bool true) ∧ Below w.heap.size w w') ⟨(q0 :: q1 :: q2 :: q3 :: q4 :: q5 :: q6 :: q7 :: q8 :: q9 :: q10 :: q11 :: q12 :: .pointer (some ⟨bg, 0, none⟩) :: .int .i64 p :: .int .i64 q :: q16 :: q17 :: q18 :: q19 :: q20 :: q21 :: q22 :: q23 :: q24 :: q25 :: q26 :: .slice fa M fc :: q28 :: .slice ta M tc :: q30 :: .int .i64 p :: sv :: q33 :: q34 :: q35 :: q36 :: q37 :: q38 :: q39 :: q40 :: q41 :: q42 :: q43 :: q44 :: q45 :: q46 :: q47 :: q48 :: q49 :: q50 :: q51 :: q52 :: q53 :: q54 :: q55 :: q56 :: q57 :: q58 :: q59 :: q60 :: q61 :: q62 :: q63 :: q64 :: q65 :: q66 :: q67 :: q68 :: q69 :: q70 :: q71 :: q72 :: q73 :: q74 :: q75 :: q76 :: q77 :: q78 :: q79 :: q80 :: q81 :: q82 :: q83 :: q84 :: q85 :: q86 :: q87 :: q88 :: q89 :: q90 :: q91 :: q92 :: q93 :: q94 :: q95 :: q96 :: q97 :: q98 :: q99 :: q100 :: q101 :: q102 :: q103 :: q104 :: q105 :: q106 :: q107 :: q108 :: q109 :: q110 :: q111 :: q112 :: q113 :: q114 :: q115 :: q116 :: q117 :: q118 :: q119 :: q120 :: q121 :: q122 :: q123 :: q124 :: q125 :: q126 :: q127 :: q128 :: q129 :: q130 :: q131 :: q132 :: q133 :: q134 :: q135 :: q136 :: q137 :: q138 :: q139 :: q140 :: q141 :: q142 :: q143 :: q144 :: q145 :: q146 :: q147 :: q148 :: q149 :: q150 :: q151 :: q152 :: q153 :: q154 :: q155 :: q156 :: q157 :: q158 :: q159 :: q160 :: q161 :: q162 :: q163 :: q164 :: q165 :: q166 :: q167 :: q168 :: q169 :: q170 :: q171 :: q172 :: q173 :: q174 :: q175 :: q176 :: q177 :: q178 :: q179 :: q180 :: q181 :: q182 :: q183 :: q184 :: q185 :: q186 :: q187 :: q188 :: q189 :: q190 :: q191 :: q192 :: q193 :: q194 :: q195 :: q196 :: q197 :: q198 :: q199 :: q200 :: q201 :: q202 :: q203 :: q204 :: q205 :: q206 :: q207 :: q208 :: q209 :: q210 :: q211 :: q212 :: q213 :: q214 :: q215 :: q216 :: q217 :: q218 :: q219 :: q220 :: q221 :: q222 :: q223 :: q224 :: q225 :: q226 :: q227 :: q228 :: q229 :: q230 :: q231 :: q232 :: q233 :: q234 :: q235 :: q236 :: q237 :: q238 :: q239 :: q240 :: q241 :: q242 :: q243 :: q244 :: q245 :: []).toArray, []⟩ wA := by
  conv => arg 2; whnf
  have hfb := Lib.hid hL.out.fb
  have cA := Lib.hid (fun W (B : Below w3.heap.size w3 W) x => At_any _ G x W (hL.out.fG W B) (by have := hL.out.n2'; have := hL.out.n2; omega))
  have cO := Lib.hid (fun (e : Ed) x W => Other_any e x W)
  have cP := Lib.hid hP.out.cells
  have cR := Lib.hid hR.out.cells
  have hz : Hid (pv 0 = p) := hE.out.zero
  have hle0 := Lib.hid hBA.out.size
  go_wp2_with fail
  go_loopg [31, 32, 33] M (fun gq av sv kv wr => ∃ k : Nat, k + gq = M ∧ kv = .int .i64 k ∧ av = .int .i64 (pv k) ∧ OwnI wr wS.heap.size sv (seenF pv (k + 1)) ∧ Below wS.heap.size wS wr)
  case atStart => exact ⟨0, by omega, rfl, by rw [hz.out], by rw [show seenF pv (0 + 1) = [p] from by rw [seenF_succ, hz.out]; rfl]; exact hS.out, hBA.out⟩
  case round =>
  obtain ⟨k, hk, rfl, rfl, hS1, hBk⟩ := hrel
  obtain ⟨wo, rfl⟩ : ∃ x, x = wr := ⟨_, rfl⟩
  clear hS hz hBA
  cases gk with
  | zero =>
    have hk2 : M = k := by omega
    have i1 : ¬ (k : Int) < (M : Int) := by omega
    have hq : Hid (pv k = q) := by show _ = _; rw [← hk2, hM.out]; exact hE.out.last
    have hF := Lib.hid (hBB.out.trans ((hB.out.trans (hBk.mono hB.out.size)).mono hBB.out.size))
    rw [hq.out]
    clear hk hk2 hS1 hBk
    go_wp2_with fail
    go_ret
    exact ⟨rfl, hF.out⟩
  | succ ga =>
    have hkM : k < M := by omega
    have hkl : k < P.length := by rw [← hM.out]; exact hkM
    obtain ⟨jr, hjr⟩ : ∃ j, j = M - 1 - k := ⟨_, rfl⟩
    have hjl : jr < P.reverse.length := by rw [List.length_reverse, ← hM.out]; omega
    obtain ⟨pb, po, rfl, cp⟩ := cP.out k hkl
    obtain ⟨rb, ro, rfl, cr⟩ := cR.out jr hjl
    have hrev : P.reverse[jr] = P[k] := by
      rw [List.getElem_reverse]
      congr 1
      rw [hjr, ← hM.out]; omega
    rw [hrev] at cr
    have hnx := hE.out.nx k P[k] (List.getElem?_eq_getElem hkl)
    have hnn := hE.out.nn (k + 1) (by omega)
    have hinj := Lib.hid (fun i (hi : i ≤ k) => (show (pv i == pv (k + 1)) = false from by
      rw [beq_eq_false_iff_ne]
      intro e
      have := hE.out.inj i (k + 1) (by omega) (by omega) e
      omega))
    have i0 : (0 : Int) ≤ (k : Int) := by omega
    have i1 : (k : Int) < (M : Int) := by omega
    have j0 : (0 : Int) ≤ (jr : Int) := by omega
    have j1 : (jr : Int) < (M : Int) := by omega
    have hle : Hid (k + 1 + ga = M) := by show _ = _; omega
    have hkk : Hid (k ≤ 1000) := by show _ ≤ _; omega
    have m1 : IntKind.i64.wrap ((M : Int) - 1) = (M : Int) - 1 := IntWalk.i64_in _ (by omega)
    have m2 : IntKind.i64.wrap ((M : Int) - 1 - (k : Int)) = (jr : Int) := by rw [IntWalk.i64_in _ (by omega)]; omega
    have fW := Lib.hid (fun W (qq : Below wo.heap.size wo W) => (show W.cell? ⟨pb, po + k, none⟩ = some (.int .i64 P[k]) ∧ W.cell? ⟨rb, ro + jr, none⟩ = some (.int .i64 P[k]) from ⟨cp W (hBk.trans (qq.mono hBk.size)), cr W (hBk.trans (qq.mono hBk.size))⟩))
    have hS1l := seenF_len pv (k + 1)
    generalize P[k] = x at *
    obtain ⟨s1, s2, rfl⟩ := (OwnI.DL hS1).shape
    rw [hS1l] at *
    have hS2 := Lib.hid hS1
    have hB2 := Lib.hid hBk
    replace hS1l := Lib.hid hS1l
    clear hrev cp cr hS1 hBk hk hkM hkl hjr hjl cP cR
    go_upto_region 25 with (fail)
    refine q_region (fun W => Below wo.heap.size wo W) (by kernel_rfl) (by kernel_rfl) ((Below.refl _ wo).drew) ?_
    repeat (first | (refine q_skip (by rfl) ?_; try simp only [Act.put, zT, z0, zS]) | (refine q_take (v := ?_) (by rfl) ?_ ?_; rotate_left; (first | ((intro w h; clear h; go_simp) <;> with_reducible rfl) | ((intro w h; obtain ⟨y0, y1⟩ := fW.out w h; clear h; go_simp) <;> with_reducible rfl)); try simp only [Act.put, zT, z0, zS]))
    refine q_nil ?_
    intro w4 k4
    have K4 := Lib.hid k4
    clear k4 m1 m2
    have KB4 := Lib.hid (hB.out.trans ((hB2.out.trans (K4.out.mono hB2.out.size)).mono hB.out.size))
    obtain ⟨g0, g1, g2⟩ := hfb.out w4 KB4.out
    have hxx : (x != x) = false := by simp
    go_upto_region 28 with (fail)
    go_wp2_with fail
    refine (cA.out w4 KB4.out (pv k)).mono ?_
    rintro e w5 ⟨ev, rfl, hev, q5⟩
    have K5 := Lib.hid (K4.out.trans (q5.mono K4.out.size))
    obtain ⟨e1, e2, rfl⟩ := hev.shape
    obtain ⟨K, hK⟩ : ∃ K, Hid (K = (atF G.es (pv k)).length) := ⟨_, rfl⟩
    have cE := Lib.hid hev.cells
    rw [← hK.out]
    clear g0 g1 g2 q5 hev hxx
    have hKl : K ≤ 1000 := by
      rw [hK.out]
      unfold atF
      exact Nat.le_trans (List.length_filter_le _ _) (by have := hL.out.n2'; have := hL.out.n2; omega)
    generalize hes : atF G.es (pv k) = es at *
    clear hes
    go_wp2_with fail
    go_loopg [34, 36] K (fun gq nv tv wr => ∃ t : Nat, t + gq = K ∧ tv = .int .i64 t ∧ nv = .int .i64 (nxF (pv k) x (es.take t)) ∧ Below w5.heap.size w5 wr)
    case atStart => exact ⟨0, by omega, rfl, rfl, Below.refl _ _⟩
    case round =>
    obtain ⟨t, ht, rfl, rfl, hBt⟩ := hrel
    obtain ⟨wi, rfl⟩ : ∃ x, x = wr := ⟨_, rfl⟩
    cases gk with
    | zero =>
      have ht2 : K = t := by omega
      have l1 : ¬ (t : Int) < (K : Int) := by omega
      rw [List.take_of_length_le (by rw [← ht2, hK.out]; exact Nat.le_refl _), hnx]
      have hBi := Lib.hid (K5.out.trans (hBt.mono K5.out.size))
      have hS3 := Lib.hid (own_below hS2.out hBi.out)
      have hWi := Lib.hid (hB2.out.trans (hBi.out.mono hB2.out.size))
      have hcs := Lib.hid (fun (i : Nat) (hi : i ≤ k) => (show ∃ sb, s1 = some ⟨sb, 0, none⟩ ∧ wi.cell? ⟨sb, i, none⟩ = some (.int .i64 (pv i)) from by
        obtain ⟨_, _, hf0, _, hsb⟩ := OwnI.form hS3.out
        injection hf0 with hf0 _ _
        obtain ⟨sb, hsb⟩ := hsb (by rw [seenF_len]; omega)
        rw [← hf0] at hsb
        subst hsb
        exact ⟨sb, rfl, (OwnI.at_ hS3.out i _ (seenF_at pv (k + 1) i (by omega))).1⟩))
      generalize hy : pv (k + 1) = y at *
      obtain ⟨v', w', hr, ho2, hb2, _⟩ := snocI wi wS.heap.size _ _ y hS3.out (by rw [seenF_len]; have := hkk.out; omega) hWi.out.size
      have hb3 := Lib.hid (hb2 wS hWi.out (Nat.le_refl _) (Nat.le_refl _))
      rw [show seenF pv (k + 1) ++ [y] = seenF pv (k + 1 + 1) from by rw [seenF_succ pv (k + 1), hy]] at ho2
      replace ho2 := Lib.hid ho2
      have hny : ¬ y < 0 := by omega
      replace hy := Lib.hid hy
      clear hb2 ht ht2 hBt hBi hnx cE hnn
      go_wp2_with fail
      go_loopg [37] (k + 1) (fun gq tv wr => ∃ t : Nat, t + gq = k + 1 ∧ tv = .int .i64 t ∧ wr = wi)
      case atStart => exact ⟨0, by omega, rfl, rfl⟩
      case round =>
      obtain ⟨t, ht, rfl, rfl⟩ := hrel
      cases gk with
      | zero =>
        have ht2 : t = k + 1 := by omega
        have q1 : ¬ (t : Int) < ((k + 1 : Nat) : Int) := by omega
        clear ht ht2
        go_wp2_with (at_builtin; refine wpList_append_runB rfl (.tmp 239) (.tmp 241) 26 rfl (.slice s1 (k + 1) s2) (.slice (some ⟨wr.heap.size, 0, none⟩) 1 1) rfl rfl _ _ hr ?_)
        go_roundg ga
        case measure => omega
        case rel => exact ⟨k + 1, hle.out, by go_num, by rw [hy.out], ho2.out, hb3.out⟩
      | succ gb =>
        have htk : t ≤ k := by omega
        obtain ⟨sb, rfl, c0⟩ := hcs.out t htk
        have q0 : (0 : Int) ≤ (t : Int) := by omega
        have q1 : (t : Int) < ((k + 1 : Nat) : Int) := by omega
        have q2 := hinj.out t htk
        have hle2 : Hid (t + 1 + gb = k + 1) := by show _ = _; omega
        clear ht htk
        go_wp2_with fail
        go_roundg gb
        case measure => omega
        case rel => exact ⟨t + 1, hle2.out, by go_num, rfl⟩
    | succ gb =>
      have htK : t < K := by omega
      have htl : t < es.length := by rw [← hK.out]; exact htK
      have l0 : (0 : Int) ≤ (t : Int) := by omega
      have l1 : (t : Int) < (K : Int) := by omega
      have hle2 : Hid (t + 1 + gb = K) := by show _ = _; omega
      obtain ⟨eb, eo, rfl, ce⟩ := cE.out t htl
      have hst := nxF_snoc (pv k) x (es.take t) es[t]
      rw [← List.take_succ_eq_append_getElem htl] at hst
      generalize es[t] = u at *
      generalize nxF (pv k) x (es.take t) = na at *
      have hOu := Lib.hid (Other_any u (pv k))
      unfold Ed.val at hOu
      have fU := Lib.hid (fun W (qq : Below wi.heap.size wi W) => (show EdAt W eb (eo + t * 6) u ∧ W.cell? ⟨pb, po + k, none⟩ = some (.int .i64 x) from ⟨ce W (hBt.trans (qq.mono hBt.size)), (fW.out W (K5.out.trans ((hBt.trans (qq.mono hBt.size)).mono K5.out.size))).1⟩))
      unfold EdAt at fU
      have hBt2 := Lib.hid hBt
      clear ce ht htK htl hBt cE
      go_upto_region 32 with (fail)
      refine q_region (fun W => Below wi.heap.size wi W) (by kernel_rfl) (by kernel_rfl) ((Below.refl _ wi).drew) ?_
      repeat (first | (refine q_skip (by rfl) ?_; try simp only [Act.put, zT, z0, zS]) | (refine q_take (v := ?_) (by rfl) ?_ ?_; rotate_left; (first | ((intro w h; clear h; go_simp) <;> with_reducible rfl) | ((intro w h; obtain ⟨⟨y0, y1, y2, y3, y4, y5⟩, y6⟩ := fU.out w h; clear h; go_simp) <;> with_reducible rfl)); try simp only [Act.put, zT, z0, zS]))
      refine q_nil ?_
      intro w6 k6
      obtain ⟨⟨y0, y1, y2, y3, y4, y5⟩, y6⟩ := fU.out w6 k6
      have K6 := Lib.hid (hBt2.out.trans (k6.mono hBt2.out.size))
      clear k6
      by_cases hux : u.id = x
      · have hst2 : Hid (nxF (pv k) x (es.take (t + 1)) = otherI u (pv k)) := by show _ = _; rw [hst, if_pos hux]
        have hb1 : (u.id == x) = true := by simpa using hux
        clear hst hux
        go_wp2_with fail
        refine (hOu.out w6).mono ?_
        rintro e w7 ⟨rfl, q7⟩
        have K7 := Lib.hid (K6.out.trans (q7.mono K6.out.size))
        clear y0 y1 y2 y3 y4 y5 y6 q7
        go_wp2_with fail
        go_roundg gb
        case measure => omega
        case rel => exact ⟨t + 1, hle2.out, by go_num, by rw [hst2.out], K7.out⟩
      · have hst2 : Hid (nxF (pv k) x (es.take (t + 1)) = na) := by show _ = _; rw [hst, if_neg hux]
        have hb1 : (u.id == x) = false := by simpa using hux
        clear hst hux y0 y1 y2 y3 y4 y5 y6
        go_wp2_with fail
        go_roundg gb
        case measure => omega
        case rel => exact ⟨t + 1, hle2.out, by go_num, by rw [hst2.out], K6.out⟩

end Go.Proofs.Ytlnbobclbaieoaa
