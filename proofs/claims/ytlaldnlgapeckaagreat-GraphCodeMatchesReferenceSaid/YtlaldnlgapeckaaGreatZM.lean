/- GraphCodeMatchesReference, the third part: encodings with one byte changed. -/
import Derived.Test.YtlaldnlgapeckaaGreatZL
import Derived.Lib.ConvBytes
set_option linter.unusedSimpArgs false
set_option maxRecDepth 1000000
set_option maxHeartbeats 8000000
namespace Go.Proofs.YtlaldnlgapeckaaGreat
open Go.RowKit
def Bts (W : World) (B : Nat) (t : List UInt8) : Prop := ∀ j, j < t.length → W.cell? ⟨B, j, none⟩ = some (.int .u8 ((t.getD j 0).toNat : Int)) ∧ W.frozen? ⟨B, j, none⟩ = false
theorem Bts.bytes {W : World} {B : Nat} {l : List UInt8} (h : Bts W B l) (j : Nat) (hj : j < l.length) : W.cell? (Addr.add ⟨B, 0, none⟩ j) = some (.int .u8 (l[j].toNat : Int)) := by
 have e : (Addr.add ⟨B, 0, none⟩ j) = ⟨B, j, none⟩ := by
  unfold Addr.add
  split
  · rename_i e; rw [e]
  · simp
 rw [e, (h j hj).1]
 simp [List.getD, hj]
theorem Bts.start (w : World) (s : ByteArray) : Bts (Lib.bytesWorld w 5 s) w.heap.size s.data.toList := by
 intro j hj
 rw [Array.length_toList] at hj
 refine ⟨by rw [Lib.bytesWorld_cell w 5 s j hj], ?_⟩
 have h := Lib.bytesWorld_at_new w 5 s
 have hsz : s.size ≤ (Lib.bytesCells w 5 s).size := by unfold Lib.bytesCells; simp
 have : j < s.size := hj
 unfold World.frozen?
 simp [h]
 omega
theorem bts_below (w : World) (s : ByteArray) : Below w.heap.size w (Lib.bytesWorld w 5 s) :=
 ⟨rfl, rfl, rfl, by rw [Lib.bytesWorld_size]; omega, fun k hk => Lib.bytesWorld_at_old w 5 s k hk⟩
theorem Bts.put {W : World} {B : Nat} {t : List UInt8} (h : Bts W B t) (k c : Nat) (_hk : k < t.length) (hc : c < 256) : Bts (W.setCell ⟨B, k, none⟩ (.int .u8 (c : Int))) B (t.set k (UInt8.ofNat c)) := by
 intro j hj
 rw [List.length_set] at hj
 refine ⟨?_, by simp only [World.frozen?_setCell]; exact (h j hj).2⟩
 by_cases e : k = j
 · subst e
   rw [World.cell?_setCell_same' _ _ _ (by rw [(h _ hj).1]; rfl)]
   simp [List.getD, hj, toNat_of c hc]
 · rw [World.cell?_setCell_other _ _ _ _ (fun h => e (by cases h; rfl)), (h j hj).1]
   simp only [List.getD, List.getElem?_set, if_neg e]
theorem pick_any (c n : Int) (w : World) (h1 : -9223372036854775808 ≤ c) (h2 : c ≤ 9223372036854775807) (h3 : 1 ≤ n) (h4 : n ≤ 9223372036854775807) :
    Calls Tryz.prog 26 #[.int .i64 c, .int .i64 n] w fun e w' => e = .returned (.int .i64 (pk c n)) ∧ w = w' := by
  by_cases h : c < 0
  · go_enter Tryz.func26, Tryz.ntmps26
    go_wp2
    go_ret
    exact ⟨ret_int (by rw [pk, if_pos h, ← Int.neg_tmod]; exact Int.tmod_eq_emod_of_nonneg (by omega)), rfl⟩
  · go_enter Tryz.func26, Tryz.ntmps26
    go_wp2
    go_ret
    exact ⟨ret_int (by rw [pk, if_neg (by omega)]), rfl⟩
theorem info9 : (Tryz.prog.info? 9).map (fun i => (i.zero, i.size, i.bytes)) = some (some (.string ⟨#[]⟩), 1, 16) := by kernel_rfl
/-- texts in a row of the call's own -/
def OwnT (W : World) (B : Nat) (v : Value) (T : List ByteArray) : Prop := W.ownsRow B 9 1 v T.length (T.map Value.string)
theorem OwnT.at_ {W : World} {B : Nat} {v : Value} {T : List ByteArray} (h : OwnT W B v T) (hT : T ≠ []) : ∃ tb tc, v = .slice (some ⟨tb, 0, none⟩) T.length tc ∧ ∀ k (hk : k < T.length) W', Below W.heap.size W W' → W'.cell? ⟨tb, k, none⟩ = some (.string T[k]) := by
 rcases h.2 with ⟨_, h0⟩ | ⟨g, cap, cur, rfl, _, hg, hcap, _, hs, ht⟩
 · exact absurd (List.length_eq_zero_iff.1 h0) hT
 · refine ⟨g, cap, rfl, fun k hk W' B' => ?_⟩
   rw [cell_of_row W' g k cur 9 (0, 0) ((B'.block g (Array.getElem?_eq_some_iff.1 hg).1).trans hg)]
   have h2 : (T.map Value.string)[k]? = some (.string T[k]) := by simp [hk]
   rw [← ht, List.getElem?_take_of_lt (by omega)] at h2
   simpa using h2
theorem OwnT.snoc {W : World} {B : Nat} {v : Value} {T : List ByteArray} (h : OwnT W B v T) (X : ByteArray) (hl : T.length ≤ 1000) (hB : B ≤ W.heap.size) : ∃ g cap w', (Builtin.append_ #[58, 58] 58 #[v, .slice (some ⟨W.heap.size, 0, none⟩) 1 1]).run Tryz.prog (W.alloc (.cells #[.string X] 9)) = .ok (.slice (some ⟨g, 0, none⟩) (T.length + 1) cap) w' ∧ OwnT w' B (.slice (some ⟨g, 0, none⟩) (T.length + 1) cap) (T ++ [X]) ∧ (∀ K w0, K ≤ B → Below K w0 W → Below K w0 w') := by
 obtain ⟨i9, hi, hz0, hz1, hz2⟩ := info_parts info9
 obtain ⟨g, cap, w', hr, ho, hg⟩ := snocX B 58 9 i9 _ 1 16 Tryz.underlying58 hi hz0 hz1 hz2 rfl (by omega) (by omega) W v T.length (T.map Value.string) #[.string X] rfl (by simp [Value.oneCell']) h (by omega) hB
 refine ⟨g, cap, w', hr, ?_, fun K w0 hK hb => (hb.alloc (by have := hb.size; omega) _).grown hg (by simp; omega) (fun j hj => ?_)⟩
 · unfold OwnT
   rw [List.length_append, List.map_append]
   simpa using ho
 · have := (own_row h j hj).1
   omega
theorem gcm3 (q0 q1 q2 q3 q4 q5 q8 q9 q10 q11 q12 q13 q14 q15 q16 q18 q20 q21 q22 q23 q24 q25 q26 q27 q28 q29 q30 q31 q32 q33 q34 q35 q36 q37 q38 q39 q40 q41 q42 q43 q44 q45 q46 q47 q48 q49 q50 q51 q52 q53 q54 q55 q56 q57 q58 q59 q60 q61 q62 q63 q64 q65 q66 q67 q68 q69 q70 q71 q72 q73 q74 q75 q76 q77 q78 q79 q80 q81 q82 q83 q84 q85 q86 q87 q88 q89 q90 q91 q92 q93 q94 q95 q96 q97 q98 q99 q100 q101 q102 q103 q104 q105 q106 q107 q108 q109 q110 q111 q112 q113 q114 q115 q116 q117 q118 q119 q120 q121 q122 q123 q124 q125 q126 q127 q128 q129 q130 q131 q132 q133 q134 q135 q136 q137 q138 q139 q140 q141 q142 q143 q144 q145 q146 q147 q148 q149 q150 q151 q152 q153 q154 q155 q156 q157 q158 q159 q160 q161 q162 q163 q164 q165 q166 q167 q168 q169 q170 q171 q172 q173 q174 q175 q176 q177 q178 q179 q180 q181 q182 q183 q184 q185 q186 q187 q188 q189 q190 q191 q192 q193 q194 q195 q196 q197 q198 q199 q200 q201 q202 q203 q204 q205 q206 q207 q208 q209 q210 q211 q212 q213 q214 q215 q216 q217 q218 q219 q220 q221 q222 q223 q224 q225 q226 q227 q228 q229 q230 q231 q232 q233 q234 q235 q236 q237 q238 : Value) (w w0 : World) (at_ : Int) (cb tb tc B : Nat) (T : List ByteArray) (hN : Hid (T.length = 5)) (hT : Hid (∀ s ∈ T, s.size ≤ 1000000)) (ha : Hid (inI at_)) (hcb : Hid (cb < 256)) (ho : Hid (OwnT w0 B (.slice (some ⟨tb, 0, none⟩) T.length tc) T))
  (hB : Hid (Below w.heap.size w w0)) (hwB : Hid (w.heap.size ≤ B ∧ B ≤ w0.heap.size)) :
  Code.wp Tryz.prog (sfx4 7) (bodyPost Tryz.prog Tryz.f4 fun e w' => e = .returned (.bool true) ∧ Below w.heap.size w w') ⟨(q0 :: q1 :: q2 :: q3 :: q4 :: q5 :: .int .i64 at_ :: .int .u8 (cb : Int) :: q8 :: q9 :: q10 :: q11 :: q12 :: q13 :: q14 :: q15 :: q16 :: .bool true :: q18 :: .slice (some ⟨tb, 0, none⟩) T.length tc :: q20 :: q21 :: q22 :: q23 :: q24 :: q25 :: q26 :: q27 :: q28 :: q29 :: q30 :: q31 :: q32 :: q33 :: q34 :: q35 :: q36 :: q37 :: q38 :: q39 :: q40 :: q41 :: q42 :: q43 :: q44 :: q45 :: q46 :: q47 :: q48 :: q49 :: q50 :: q51 :: q52 :: q53 :: q54 :: q55 :: q56 :: q57 :: q58 :: q59 :: q60 :: q61 :: q62 :: q63 :: q64 :: q65 :: q66 :: q67 :: q68 :: q69 :: q70 :: q71 :: q72 :: q73 :: q74 :: q75 :: q76 :: q77 :: q78 :: q79 :: q80 :: q81 :: q82 :: q83 :: q84 :: q85 :: q86 :: q87 :: q88 :: q89 :: q90 :: q91 :: q92 :: q93 :: q94 :: q95 :: q96 :: q97 :: q98 :: q99 :: q100 :: q101 :: q102 :: q103 :: q104 :: q105 :: q106 :: q107 :: q108 :: q109 :: q110 :: q111 :: q112 :: q113 :: q114 :: q115 :: q116 :: q117 :: q118 :: q119 :: q120 :: q121 :: q122 :: q123 :: q124 :: q125 :: q126 :: q127 :: q128 :: q129 :: q130 :: q131 :: q132 :: q133 :: q134 :: q135 :: q136 :: q137 :: q138 :: q139 :: q140 :: q141 :: q142 :: q143 :: q144 :: q145 :: q146 :: q147 :: q148 :: q149 :: q150 :: q151 :: q152 :: q153 :: q154 :: q155 :: q156 :: q157 :: q158 :: q159 :: q160 :: q161 :: q162 :: q163 :: q164 :: q165 :: q166 :: q167 :: q168 :: q169 :: q170 :: q171 :: q172 :: q173 :: q174 :: q175 :: q176 :: q177 :: q178 :: q179 :: q180 :: q181 :: q182 :: q183 :: q184 :: q185 :: q186 :: q187 :: q188 :: q189 :: q190 :: q191 :: q192 :: q193 :: q194 :: q195 :: q196 :: q197 :: q198 :: q199 :: q200 :: q201 :: q202 :: q203 :: q204 :: q205 :: q206 :: q207 :: q208 :: q209 :: q210 :: q211 :: q212 :: q213 :: q214 :: q215 :: q216 :: q217 :: q218 :: q219 :: q220 :: q221 :: q222 :: q223 :: q224 :: q225 :: q226 :: q227 :: q228 :: q229 :: q230 :: q231 :: q232 :: q233 :: q234 :: q235 :: q236 :: q237 :: q238 :: []).toArray, []⟩ w0 := by
 rw [hN.out] at ho ⊢
 conv => arg 2; whnf
 go_wp2_with fail
 go_loopw [19, 32] (fun lv i wr => ∃ (k : Nat) (T' : List ByteArray), k ≤ 5 ∧ i = .int .i64 k ∧ Hid (5 ≤ T'.length ∧ T'.length ≤ 5 + k) ∧ Hid (OwnT wr B lv T') ∧ Hid (∀ s ∈ T', s.size ≤ 1000000) ∧ Hid (Below w.heap.size w wr) ∧ Hid (B ≤ wr.heap.size)) (fun _ i _ => 5 - (intOf i).toNat)
 case atStart => exact ⟨0, T, Nat.zero_le _, rfl, by show _ ∧ _; rw [hN.out]; omega, by show OwnT _ _ _ _; exact ho.out, hT, hB, hwB.out.2⟩
 case round =>
  obtain ⟨k, T', hk, rfl, hl, hO, hS, hb, hBs⟩ := hrel
  obtain ⟨xb, xc, ex, hcell⟩ := hO.out.at_ (fun e => by have := hl.out.1; rw [e] at this; simp at this)
  obtain ⟨M, hM⟩ : ∃ M, Hid (M = T'.length) := ⟨_, rfl⟩
  rw [← hM.out] at ex
  subst ex
  replace hcell := Hd hcell
  by_cases hlt : k < 5
  · have i0' : (0 : Int) ≤ (k : Int) := by omega
    have i1 : (k : Int) < 5 := by omega
    have hMk : k < M := by have := hl.out.1; have := hM.out; omega
    have i2 : (k : Int) < (M : Int) := by omega
    have hkT : k < T'.length := by rw [← hM.out]; exact hMk
    obtain ⟨S, hSd⟩ : ∃ S, Hid (S = T'[k]) := ⟨T'[k], Hd rfl⟩
    have hSs := Hd (show S.size ≤ 1000000 by rw [hSd.out]; exact hS.out _ (List.getElem_mem hkT))
    have c1 := hcell.out k hkT wr (Below.refl _ _)
    rw [← hSd.out] at c1
    clear hkT hSd hcell
    by_cases h0 : S.size = 0
    · have z0 : ¬ (0 : Int) < (S.size : Int) := by omega
      clear h0
      go_wp2_with fail
      go_roundw
      case rel => exact ⟨k + 1, T', by omega, by go_num, by show _ ∧ _; have := hl.out; omega, hO, hS, hb, hBs⟩
      case measure => simp [intOf]; omega
    · have z0 : (0 : Int) < (S.size : Int) := by omega
      have hz := Hd h0
      obtain ⟨n, hn⟩ : ∃ n, Hid (n = S.size) := ⟨_, rfl⟩
      rw [← hn.out] at z0
      have hn1 : 1 ≤ n := by omega
      have hn2 : n ≤ 1000000 := by rw [hn.out]; exact hSs.out
      have hcv : (convert 9 62 (.string S)).run Tryz.prog wr = .ok (.slice (some ⟨wr.heap.size, 0, none⟩) n (grownCap wr n 0 5)) (Lib.bytesWorld wr 5 S) := by
       have := Lib.run_convert_string_bytes (P := Tryz.prog) wr 9 62 5 S Tryz.underlying9 Tryz.underlying62 Tryz.underlying5
       rw [← hn.out] at this
       exact this
      have hb0 := Hd (Bts.start wr S)
      have hbl := Hd (bts_below wr S)
      have hsl : Hid (S.data.toList.length = n) := by show _ = _; rw [Array.length_toList, hn.out]; rfl
      obtain ⟨gc, hgc⟩ : ∃ g, Hid (g = grownCap wr n 0 5) := ⟨_, rfl⟩
      obtain ⟨w2, hw2⟩ : ∃ W, Hid (W = Lib.bytesWorld wr 5 S) := ⟨_, rfl⟩
      rw [← hgc.out, ← hw2.out] at hcv
      rw [← hw2.out] at hb0 hbl
      obtain ⟨p, hp⟩ := Int.eq_ofNat_of_zero_le (pk_lo at_ (n : Int) (by omega))
      have hpn := pk_lt at_ (n : Int) (by omega)
      rw [hp] at hpn
      have hp := Hd hp
      have kp := Hd (fun W => pick_any at_ (n : Int) W ha.out.1 ha.out.2 (by omega) (by omega))
      rw [hp.out] at kp
      have p0 : (0 : Int) ≤ (p : Int) := by omega
      have p1 : (p : Int) < (n : Int) := by omega
      have hpl : p < S.data.toList.length := by rw [hsl.out]; omega
      obtain ⟨f1, f2⟩ := hb0.out p hpl
      have hput := Hd (hb0.out.put p cb hpl hcb.out)
      have hpl := Hd hpl
      have sN : (S.size : Int) = (n : Int) := by rw [hn.out]
      clear hw2 hgc
      go_upto_region 29 with (fail)
      clear hcv
      go_wp2_with fail
      refine (kp.out _).mono ?_
      rintro e w3 ⟨rfl, rfl⟩
      go_upto_region 30 with (fail)
      obtain ⟨w4, hw4⟩ : ∃ W, Hid (W = w2.setCell ⟨wr.heap.size, p, none⟩ (.int .u8 (cb : Int))) := ⟨_, rfl⟩
      rw [← hw4.out] at hput ⊢
      obtain ⟨L, hL⟩ : ∃ L, Hid (L = S.data.toList.set p (UInt8.ofNat cb)) := ⟨_, rfl⟩
      rw [← hL.out] at hput
      have hLn : Hid (L.length = n) := by show _ = _; rw [hL.out, List.length_set]; exact hsl.out
      have hB4 := Hd (show Below wr.heap.size wr w4 by rw [hw4.out]; exact hbl.out.setCell (p := ⟨wr.heap.size, p, none⟩) (Nat.le_refl _) _)
      have hO4 : OwnT w4 B (.slice (some ⟨xb, 0, none⟩) M xc) T' := own_below hO.out hB4.out
      have hcv := run_convert_bytes_back (P := Tryz.prog) w4 62 9 5 ⟨wr.heap.size, 0, none⟩ gc L Tryz.underlying62 Tryz.underlying5 Tryz.underlying9 (fun j hj => hput.out.bytes j hj)
      rw [hLn.out] at hcv
      obtain ⟨ga, cap, w5, hr5, ho5, hb5⟩ := hO4.snoc ⟨L.toArray⟩ (by have := hl.out; omega) (Nat.le_trans hBs.out hB4.out.size)
      rw [← hM.out] at hr5 ho5
      have ho5 := Hd ho5
      have hb6 := Hd (hb5 w.heap.size w hwB.out.1 (hb.out.trans (hB4.out.mono hb.out.size)))
      have hb7 := Hd (Nat.le_trans hBs.out (Nat.le_trans hB4.out.size (hb5 0 w4 (Nat.zero_le _) (Below.refl _ _)).size))
      have hS5 : Hid (∀ s ∈ T' ++ [⟨L.toArray⟩], s.size ≤ 1000000) := by
       show ∀ s ∈ _, _
       intro s hs
       rcases List.mem_append.1 hs with h | h
       · exact hS.out s h
       · rw [List.mem_singleton.1 h]
         show L.toArray.size ≤ _
         rw [List.size_toArray, hLn.out]; omega
      clear hO4 hb5 f1 f2 sN c1 z0
      go_wp2_with (at_builtin; refine wpList_append_runB rfl (.tmp 149) (.tmp 152) 58 rfl _ _ rfl rfl _ _ hr5 ?_)
      go_roundw
      case rel => exact ⟨k + 1, T' ++ [⟨L.toArray⟩], by omega, by go_num, by show _ ∧ _; rw [List.length_append, List.length_singleton]; have := hl.out; omega, ho5, hS5, hb6, hb7⟩
      case measure => simp [intOf]; omega
  · have i1 : ¬ (k : Int) < 5 := by omega
    rename_i K0 hK0
    have hK1 := Hd hK0
    have hMl := Hd (show M ≤ 1000 by have := hl.out; have := hM.out; omega)
    have hc4 := Hd (show ∀ k (hk : k < T'.length) W, Below wr.heap.size wr W → W.cell? ⟨xb, k, none⟩ = some (.string T'[k]) from hcell.out)
    clear hK0 hlt hcell
    go_wp2_with fail
    refine hK1.out _ _ ?_
    refine wp_eq (D := sfx4 8) (by kernel_rfl) ?_
    exact gcm4 _ _ _ _ _ _ _ _ _ _ _ _ _ _ _ _ _ _ _ _ _ _ _ _ _ _ _ _ _ _ _ _ _ _ _ _ _ _ _ _ _ _ _ _ _ _ _ _ _ _ _ _ _ _ _ _ _ _ _ _ _ _ _ _ _ _ _ _ _ _ _ _ _ _ _ _ _ _ _ _ _ _ _ _ _ _ _ _ _ _ _ _ _ _ _ _ _ _ _ _ _ _ _ _ _ _ _ _ _ _ _ _ _ _ _ _ _ _ _ _ _ _ _ _ _ _ _ _ _ _ _ _ _ _ _ _ _ _ _ _ _ _ _ _ _ _ _ _ _ _ _ _ _ _ _ _ _ _ _ _ _ _ _ _ _ _ _ _ _ _ _ _ _ _ _ _ _ _ _ _ _ _ _ _ _ _ _ _ _ _ _ _ _ _ _ _ _ _ _ _ _ _ _ _ _ _ _ _ _ _ _ _ _ _ _ _ _ _ _ _ _ _ _ _ _ _ _ _ _ _ _ _ _ _ _ _ w wr at_ xb M xc T' hM hS hMl.out ha hc4 hb
end Go.Proofs.YtlaldnlgapeckaaGreat
