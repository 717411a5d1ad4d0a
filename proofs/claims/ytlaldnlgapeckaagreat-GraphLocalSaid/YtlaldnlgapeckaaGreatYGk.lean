/- Contracts and facts. -/
import Derived.Test.YtlaldnlgapeckaaGreatYGv
import Derived.Deep.QuietTactic
import Derived.BigQuiet
namespace Go.Proofs.YtlaldnlgapeckaaGreat
open Go.RowKit
def hasLoop : Code → Bool
 | .loop _ => true
 | .seq a b => hasLoop a || hasLoop b
 | .block _ c => hasLoop c
 | .scope c => hasLoop c
 | .cond _ a b => hasLoop a || hasLoop b
 | _ => false
/-- what stands behind the first of two loops -/
def behind : Code → Option Code
 | .seq a b => match hasLoop a, hasLoop b with
  | true, true => some b
  | false, true => behind b
  | true, false => behind a
  | false, false => none
 | .block _ c => behind c
 | .scope c => behind c
 | _ => none
noncomputable def rest6 : Code := (Tryz.f6.body.bind behind).getD .skip
set_option maxRecDepth 1000000 in
set_option maxHeartbeats 8000000 in
theorem half2 (qq0 qq1 qq2 qq3 qq4 qq5 qq6 qq7 qq8 qq13 qq14 qq15 qq16 qq17 qq18 qq19 qq20 qq21 qq22 qq23 qq24 qq25 qq26 qq27 qq28 qq29 qq30 qq31 qq32 qq33 qq34 qq35 qq36 qq37 qq38 qq39 qq40 qq41 qq42 qq43 qq44 qq45 qq46 qq47 qq48 qq49 qq50 qq51 qq52 qq53 qq54 qq55 qq56 qq57 qq58 qq59 qq60 qq61 qq62 qq63 qq64 qq65 qq66 qq67 qq68 qq69 qq70 qq71 qq72 qq73 qq74 qq75 qq76 qq77 qq78 qq79 qq80 qq81 qq82 qq83 qq84 qq85 qq86 qq87 qq88 qq89 qq90 qq91 qq92 qq93 qq94 qq95 qq96 qq97 qq98 qq99 qq100 qq101 qq102 qq103 qq104 qq105 qq106 qq107 qq108 qq109 qq110 qq111 qq112 qq113 qq114 qq115 qq116 qq117 qq118 qq119 qq120 qq121 qq122 qq123 qq124 qq125 qq126 qq127 qq128 qq129 qq130 qq131 qq132 qq133 qq134 qq135 qq136 qq137 qq138 qq139 qq140 qq141 qq142 qq143 qq144 qq145 qq146 qq147 qq148 qq149 qq150 qq151 qq152 qq153 qq154 qq155 qq156 qq157 qq158 qq159 qq160 qq161 qq162 qq163 qq164 qq165 qq166 qq167 qq168 qq169 qq170 qq171 qq172 qq173 qq174 qq175 qq176 qq177 qq178 qq179 qq180 qq181 qq182 qq183 qq184 qq185 qq186 qq187 qq188 qq189 qq190 qq191 qq192 qq193 qq194 qq195 qq196 qq197 qq198 qq199 qq200 qq201 qq202 qq203 qq204 qq205 qq206 qq207 qq208 qq209 qq210 qq211 qq212 qq213 qq214 qq215 qq216 qq217 qq218 qq219 qq220 qq221 qq222 qq223 qq224 qq225 qq226 qq227 qq228 qq229 qq230 qq231 qq232 qq233 qq234 qq235 qq236 qq237 qq238 qq239 qq240 qq241 qq242 qq243 qq244 qq245 qq246 qq247 qq248 qq249 qq250 qq251 qq252 qq253 qq254 qq255 qq256 qq257 qq258 qq259 qq260 : Value) (pt pc ps : Nat) (c : Ch) (a1 b1 cc1 s1 s3 s5 : Option Addr) (N1 a2 N2 b2 N3 c2 M1 s2 M2 s4 M3 s6 : Nat) (G g' : Gr) (w wf wr : World)
  (hsz : Hid (G.vs.length ≤ 24 ∧ G.es.length ≤ 40 ∧ G.ds.length ≤ 3)) (hsz' : Hid (g'.vs.length ≤ 24 ∧ g'.es.length ≤ 40 ∧ g'.ds.length ≤ 3)) (hN1 : Hid (N1 = G.vs.length)) (hM1 : Hid (M1 = g'.vs.length))
  (hLV : Hid (∀ i, ¬ ((c.kind = 2 ∨ c.kind = 7 ∨ c.kind = 9) ∧ i = c.id) → ¬ ((c.kind = 1 ∨ c.kind = 8) ∧ i = c.v.id) → (i ∈ keysV G.vs ↔ i ∈ keysV g'.vs) ∧ (i ∈ keysV G.vs → getV G.vs i = getV g'.vs i)))
  (hLD : Hid (c.kind = 10 ∨ G.ds = g'.ds))
  (hGw : Hid (∀ W, Below wf.heap.size wf W → GV W (.agg #[.slice a1 N1 a2, .slice b1 N2 b2, .slice cc1 N3 c2]) G)) (hSw : Hid (∀ W, Below wf.heap.size wf W → GV W (.agg #[.slice s1 M1 s2, .slice s3 M2 s4, .slice s5 M3 s6]) g'))
  (ht : Hid (∀ W, Below wf.heap.size wf W → W.cell? ⟨pt, 0, none⟩ = some (.slice a1 N1 a2) ∧ W.cell? ⟨pt, 1, none⟩ = some (.slice b1 N2 b2) ∧ W.cell? ⟨pt, 2, none⟩ = some (.slice cc1 N3 c2)))
  (hs : Hid (∀ W, Below wf.heap.size wf W → W.cell? ⟨ps, 0, none⟩ = some (.slice s1 M1 s2) ∧ W.cell? ⟨ps, 1, none⟩ = some (.slice s3 M2 s4) ∧ W.cell? ⟨ps, 2, none⟩ = some (.slice s5 M3 s6)))
  (hch : Hid (∀ W, Below wf.heap.size wf W → W.cell? ⟨pc, 0, none⟩ = some (.int .i64 c.kind) ∧ W.cell? ⟨pc, 1, none⟩ = some (.int .i64 c.v.id) ∧ W.cell? ⟨pc, 9, none⟩ = some (.int .i64 c.id)))
  (hfin : Hid (∀ W, Below wf.heap.size wf W → Below w.heap.size w W)) (kr : Hid (Below wf.heap.size wf wr)) :
  Code.wp Tryz.prog rest6 (bodyPost Tryz.prog Tryz.f6 fun e w' => e = .returned (.bool true) ∧ Below w.heap.size w w') ⟨(qq0 :: qq1 :: qq2 :: qq3 :: qq4 :: qq5 :: qq6 :: qq7 :: qq8 :: .bool true :: .pointer (some ⟨pt, 0, none⟩) :: .pointer (some ⟨pc, 0, none⟩) :: .pointer (some ⟨ps, 0, none⟩) :: qq13 :: qq14 :: qq15 :: qq16 :: qq17 :: qq18 :: qq19 :: qq20 :: qq21 :: qq22 :: qq23 :: qq24 :: qq25 :: qq26 :: qq27 :: qq28 :: qq29 :: qq30 :: qq31 :: qq32 :: qq33 :: qq34 :: qq35 :: qq36 :: qq37 :: qq38 :: qq39 :: qq40 :: qq41 :: qq42 :: qq43 :: qq44 :: qq45 :: qq46 :: qq47 :: qq48 :: qq49 :: qq50 :: qq51 :: qq52 :: qq53 :: qq54 :: qq55 :: qq56 :: qq57 :: qq58 :: qq59 :: qq60 :: qq61 :: qq62 :: qq63 :: qq64 :: qq65 :: qq66 :: qq67 :: qq68 :: qq69 :: qq70 :: qq71 :: qq72 :: qq73 :: qq74 :: qq75 :: qq76 :: qq77 :: qq78 :: qq79 :: qq80 :: qq81 :: qq82 :: qq83 :: qq84 :: qq85 :: qq86 :: qq87 :: qq88 :: qq89 :: qq90 :: qq91 :: qq92 :: qq93 :: qq94 :: qq95 :: qq96 :: qq97 :: qq98 :: qq99 :: qq100 :: qq101 :: qq102 :: qq103 :: qq104 :: qq105 :: qq106 :: qq107 :: qq108 :: qq109 :: qq110 :: qq111 :: qq112 :: qq113 :: qq114 :: qq115 :: qq116 :: qq117 :: qq118 :: qq119 :: qq120 :: qq121 :: qq122 :: qq123 :: qq124 :: qq125 :: qq126 :: qq127 :: qq128 :: qq129 :: qq130 :: qq131 :: qq132 :: qq133 :: qq134 :: qq135 :: qq136 :: qq137 :: qq138 :: qq139 :: qq140 :: qq141 :: qq142 :: qq143 :: qq144 :: qq145 :: qq146 :: qq147 :: qq148 :: qq149 :: qq150 :: qq151 :: qq152 :: qq153 :: qq154 :: qq155 :: qq156 :: qq157 :: qq158 :: qq159 :: qq160 :: qq161 :: qq162 :: qq163 :: qq164 :: qq165 :: qq166 :: qq167 :: qq168 :: qq169 :: qq170 :: qq171 :: qq172 :: qq173 :: qq174 :: qq175 :: qq176 :: qq177 :: qq178 :: qq179 :: qq180 :: qq181 :: qq182 :: qq183 :: qq184 :: qq185 :: qq186 :: qq187 :: qq188 :: qq189 :: qq190 :: qq191 :: qq192 :: qq193 :: qq194 :: qq195 :: qq196 :: qq197 :: qq198 :: qq199 :: qq200 :: qq201 :: qq202 :: qq203 :: qq204 :: qq205 :: qq206 :: qq207 :: qq208 :: qq209 :: qq210 :: qq211 :: qq212 :: qq213 :: qq214 :: qq215 :: qq216 :: qq217 :: qq218 :: qq219 :: qq220 :: qq221 :: qq222 :: qq223 :: qq224 :: qq225 :: qq226 :: qq227 :: qq228 :: qq229 :: qq230 :: qq231 :: qq232 :: qq233 :: qq234 :: qq235 :: qq236 :: qq237 :: qq238 :: qq239 :: qq240 :: qq241 :: qq242 :: qq243 :: qq244 :: qq245 :: qq246 :: qq247 :: qq248 :: qq249 :: qq250 :: qq251 :: qq252 :: qq253 :: qq254 :: qq255 :: qq256 :: qq257 :: qq258 :: qq259 :: qq260 :: []).toArray, []⟩ wr := by
 conv => arg 2; whnf
 go_wp2_with fail
 go_loopw [21] (fun i wr => ∃ k : Nat, k ≤ 24 ∧ i = .int .i64 k ∧ Hid (Below wf.heap.size wf wr)) (fun i _ => 24 - (intOf i).toNat)
 case atStart => exact ⟨0, by omega, rfl, kr.out⟩
 case round =>
 clear kr
 obtain ⟨k, hk24, rfl, kr⟩ := hrel
 have i0 : (0 : Int) ≤ (k : Int) := by omega
 by_cases hlt : k < 24
 ·have i1 : (k : Int) < 24 := by omega
  obtain ⟨q0, q1, q2⟩ := ht.out wr kr.out
  have hf1 := Lib.hid (PlaceR_any (.agg #[.slice a1 N1 a2, .slice b1 N2 b2, .slice cc1 N3 c2]) G (k : Int) wr (hGw.out wr kr.out) (by have := hsz.out.1; omega))
  go_wp2_with fail
  with_reducible refine hf1.out.mono ?_
  rintro e w5 ⟨rfl, b5⟩
  have k5 := Lib.hid (kr.out.trans (b5.mono kr.out.size))
  clear q0 q1 q2 b5 hf1
  obtain ⟨r0, r1, r2⟩ := hs.out w5 k5.out
  have hf2 := Lib.hid (PlaceR_any (.agg #[.slice s1 M1 s2, .slice s3 M2 s4, .slice s5 M3 s6]) g' (k : Int) w5 (hSw.out w5 k5.out) (by have := hsz'.out.1; omega))
  go_wp2_with fail
  with_reducible refine hf2.out.mono ?_
  rintro e w6 ⟨rfl, b6⟩
  have k6 := Lib.hid (k5.out.trans (b6.mono k5.out.size))
  clear r0 r1 r2 b6 hf2
  go_upto_region 33 with (fail)
  obtain ⟨vn, hvn⟩ : ∃ vn : Bool, Hid (vn = (((decide (c.kind = 2) || decide (c.kind = 7) || decide (c.kind = 9)) && decide ((k : Int) = c.id)) || ((decide (c.kind = 1) || decide (c.kind = 8)) && decide ((k : Int) = c.v.id)))) := ⟨_, rfl⟩
  go_cut [24] from 181 to 247 (fun s24 wx => s24 = .bool vn ∧ wx = w6)
  case first =>
   obtain ⟨p0, p1, p9⟩ := hch.out w6 k6.out
   generalize plI (keysV G.vs) (k : Int) = A1 at *
   generalize plI (keysV g'.vs) (k : Int) = A2 at *
   by_cases k2 : c.kind = 2
   ·by_cases hid : (k : Int) = c.id
    ·have hv2 : Hid (vn = true) := by show _ = _; rw [hvn.out]; simp [k2, hid]
     have e1 : ((k : Int) == c.id) = true := by simpa using hid
     rw [k2] at p0
     clear hid hvn k2
     go_wp2_with fail
     go_meet
     case rel => exact ⟨by rw [hv2.out], rfl⟩
    ·have hv2 : Hid (vn = false) := by show _ = _; rw [hvn.out]; simp [k2, hid]
     have e1 : ((k : Int) == c.id) = false := by simpa using hid
     rw [k2] at p0
     clear hid hvn k2
     go_wp2_with fail
     go_meet
     case rel => exact ⟨by rw [hv2.out], rfl⟩
   ·have e2 : (c.kind == 2) = false := by simpa using k2
    by_cases k7 : c.kind = 7
    ·by_cases hid : (k : Int) = c.id
     ·have hv2 : Hid (vn = true) := by show _ = _; rw [hvn.out]; simp [k7, hid]
      have e1 : ((k : Int) == c.id) = true := by simpa using hid
      rw [k7] at p0
      clear hid hvn k7 k2
      go_wp2_with fail
      go_meet
      case rel => exact ⟨by rw [hv2.out], rfl⟩
     ·have hv2 : Hid (vn = false) := by show _ = _; rw [hvn.out]; simp [k7, hid]
      have e1 : ((k : Int) == c.id) = false := by simpa using hid
      rw [k7] at p0
      clear hid hvn k7 k2
      go_wp2_with fail
      go_meet
      case rel => exact ⟨by rw [hv2.out], rfl⟩
    ·have e7 : (c.kind == 7) = false := by simpa using k7
     by_cases k9 : c.kind = 9
     ·by_cases hid : (k : Int) = c.id
      ·have hv2 : Hid (vn = true) := by show _ = _; rw [hvn.out]; simp [k9, hid]
       have e1 : ((k : Int) == c.id) = true := by simpa using hid
       rw [k9] at p0
       clear hid hvn k9 k2 k7
       go_wp2_with fail
       go_meet
       case rel => exact ⟨by rw [hv2.out], rfl⟩
      ·have hv2 : Hid (vn = false) := by show _ = _; rw [hvn.out]; simp [k9, hid]
       have e1 : ((k : Int) == c.id) = false := by simpa using hid
       rw [k9] at p0
       clear hid hvn k9 k2 k7
       go_wp2_with fail
       go_meet
       case rel => exact ⟨by rw [hv2.out], rfl⟩
     ·have e9 : (c.kind == 9) = false := by simpa using k9
      by_cases k1 : c.kind = 1
      ·have hv2 : Hid (vn = decide ((k : Int) = c.v.id)) := by show _ = _; rw [hvn.out]; simp [k1]
       rw [k1] at p0
       clear hvn k1 e2 e7 e9 k2 k7 k9
       go_wp2_with fail
       go_meet
       case rel => exact ⟨by first | (rw [hv2.out]; done) | (rw [hv2.out]; rfl), rfl⟩
      ·have e1 : (c.kind == 1) = false := by simpa using k1
       by_cases k8 : c.kind = 8
       ·have hv2 : Hid (vn = decide ((k : Int) = c.v.id)) := by show _ = _; rw [hvn.out]; simp [k8]
        rw [k8] at p0
        clear hvn k8 e2 e7 e9 k2 k7 k9 k1
        go_wp2_with fail
        go_meet
        case rel => exact ⟨by first | (rw [hv2.out]; done) | (rw [hv2.out]; rfl), rfl⟩
       ·have e8 : (c.kind == 8) = false := by simpa using k8
        have hv2 : Hid (vn = false) := by show _ = _; rw [hvn.out]; simp [k2, k7, k9, k1, k8]
        clear hvn k2 k7 k9 k1 k8
        go_wp2_with fail
        go_meet
        case rel => exact ⟨by rw [hv2.out], rfl⟩
  case rest =>
  obtain ⟨rfl, rfl⟩ := hcut
  obtain ⟨w6, rfl⟩ : ∃ w6', w6' = wc := ⟨_, rfl⟩
  cases vn with
  | true =>
   go_wp2_with fail
   go_roundw
   case rel => exact ⟨k + 1, by omega, by go_num, k6.out⟩
   case measure => simp [intOf]; omega
  | false =>
  have hle := hLV.out (k : Int) (fun h => by
    have e := hvn.out
    rcases h with ⟨h1 | h1 | h1, h2⟩ <;> simp [h1, h2] at e) (fun h => by
    have e := hvn.out
    rcases h with ⟨h1 | h1, h2⟩ <;> simp [h1, h2] at e)
  obtain ⟨hiff, hloc⟩ := hle
  clear hvn
  by_cases hm : (k : Int) ∈ keysV G.vs
  rotate_left
  ·rw [plI_no _ _ hm, plI_no _ _ (fun h => hm (hiff.2 h))]
   clear hm hiff hloc
   go_wp2_with fail
   go_quiet (fail)
   go_wp2_with fail
   go_roundw
   case rel => exact ⟨k + 1, by omega, by go_num, below_drewN k6.out _⟩
   case measure => simp [intOf]; omega
  ·obtain ⟨p, hp, e1, e2⟩ := plV_mem G.vs (k : Int) hm
   obtain ⟨q, hq, e3, e4⟩ := plV_mem g'.vs (k : Int) (hiff.1 hm)
   have hlo := hloc hm
   rw [← e2, ← e4] at hlo
   rw [e1, e3]
   obtain ⟨eb, eo, heb, hEd⟩ := verts_in (hGw.out w6 k6.out) p hp
   obtain ⟨fb, fo, hfb, hFd⟩ := verts_in (hSw.out w6 k6.out) q hq
   subst heb hfb
   rw [← hlo] at hFd
   obtain ⟨d0, d1⟩ := hEd w6 (Below.refl _ _)
   obtain ⟨f0, f1⟩ := hFd w6 (Below.refl _ _)
   rw [← hN1.out] at hp
   rw [← hM1.out] at hq
   clear hm hiff hloc e1 e2 e3 e4 hEd hFd hlo
   generalize G.vs[p] = y at *
   have j0 : (0 : Int) ≤ (p : Int) := by omega
   have j1 : (p : Int) < (N1 : Int) := by omega
   have j2 : (0 : Int) ≤ (q : Int) := by omega
   have j3 : (q : Int) < (M1 : Int) := by omega
   have j4 : ¬ (p : Int) < 0 := by omega
   have j5 : ¬ (q : Int) < 0 := by omega
   have j6 : decide ((0 : Int) ≤ (p : Int)) = true := decide_eq_true j0
   obtain ⟨q0, q1, q2⟩ := ht.out w6 k6.out
   obtain ⟨r0, r1, r2⟩ := hs.out w6 k6.out
   go_wp2_with fail
   go_quiet (fail)
   go_wp2_with fail
   go_roundw
   case rel => exact ⟨k + 1, by omega, by go_num, below_drewN k6.out _⟩
   case measure => simp [intOf]; omega
 ·have hk4 : k = 24 := by omega
  subst hk4
  have i1 : ¬ ((24 : Nat) : Int) < 24 := by omega
  have hints := Lib.hid (Ints_any _ _ G.ds g'.ds wr (GV.dl (hGw.out wr kr.out)) (GV.dl (hSw.out wr kr.out)) (by have := hsz.out.2.2; omega) (by have := hsz'.out.2.2; omega))
  obtain ⟨q0, q1, q2⟩ := ht.out wr kr.out
  obtain ⟨r0, r1, r2⟩ := hs.out wr kr.out
  obtain ⟨p0, p1, p9⟩ := hch.out wr kr.out
  have hBf := Lib.hid (hfin.out wr kr.out)
  clear hlt
  by_cases hk10 : c.kind = 10
  ·rw [hk10] at p0
   clear hk10
   go_wp2_with fail
   go_ret
   exact ⟨rfl, hBf.out⟩
  ·have e1 : (c.kind == 10) = false := by simpa using hk10
   have hds : G.ds = g'.ds := hLD.out.resolve_left hk10
   rw [show decide (G.ds = g'.ds) = true from decide_eq_true hds] at hints
   clear hk10 hds
   go_wp2_with fail
   with_reducible refine hints.out.mono ?_
   rintro e w5 ⟨rfl, b5⟩
   go_wp2_with fail
   go_ret
   exact ⟨rfl, hBf.out.trans (b5.mono hBf.out.size)⟩
end Go.Proofs.YtlaldnlgapeckaaGreat
