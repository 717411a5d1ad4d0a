/- SparseComplete: Read accepts what Prove returns, and shows what the map has at the keys. -/
import Derived.Test.YtegahpfmkepfmaaDoorCp
import Derived.Test.YtegahpfmkepfmaaDoorSom
import Derived.BigQuiet
namespace Go.Proofs.YtegahpfmkepfmaaDoor
open Go.RowKit
set_option maxRecDepth 100000 in
set_option maxHeartbeats 8000000 in
theorem Complete_any (v vs : Value) (x : List (Int × Int)) (sm : List Int) (w : World) (hv : ArgP w v x) (hs : ArgI w vs sm) (hT0 : Tab w) :
    Calls Tryd.prog 5 #[v, vs] w fun e w' => e = .returned (.bool true) ∧ Below w.heap.size w w' := by
  have hT := Lib.hid hT0
  have cSane := Lib.hid (show ∀ W, Below w.heap.size w W → _ from fun W B => sane_any W (hT0.below B))
  have cMade := Lib.hid (show ∀ W, Below w.heap.size w W → _ from fun W B => Made_any v x W ⟨hv.1.below B, hv.2⟩ rfl)
  have cSome := Lib.hid (show ∀ vl L W, Below w.heap.size w W → SE W vl L → Mp L → _ from fun vl L W B h1 h2 => Some_any vl vs L sm W h1 h2 ⟨hs.1.below B, hs.2⟩ rfl)
  have kw := Lib.hid (Below.refl w.heap.size w)
  clear hv hs hT0
  go_enter Tryd.func5, Tryd.ntmps5
  go_wp2_with fail
  with_reducible refine (cSane.out _ kw.out).mono ?_
  rintro e w1 ⟨rfl, b⟩
  replace kw := Lib.hid (kw.out.trans (b.mono kw.out.size))
  clear b
  go_wp2_with fail
  with_reducible refine (cMade.out _ kw.out).mono ?_
  rintro e w2 ⟨vl, L, rfl, ol, hmp, hll, b⟩
  replace kw := Lib.hid (kw.out.trans (b.mono kw.out.size))
  clear b
  obtain ⟨l1, l2, hlsh⟩ := (OwnG.SL eE_len ol).shape
  have fL := Lib.hid (fun W (B : Below w2.heap.size w2 W) => (OwnG.SL eE_len ol).below B)
  obtain ⟨nL, hnL⟩ : ∃ n, L.length = n := ⟨_, rfl⟩
  rw [hnL] at hlsh
  subst hlsh
  have hmp := Lib.hid hmp
  rename_i hmpo
  have hlh := Lib.hid hll
  clear hmpo ol hnL hll
  have kL := Lib.hid (Below.refl w2.heap.size w2)
  go_wp2_with fail
  with_reducible refine (cSome.out _ L _ kw.out (fL.out _ kL.out) hmp.out).mono ?_
  rintro e w3 ⟨vk, ks, rfl, ok, hasc, b⟩
  replace kw := Lib.hid (kw.out.trans (b.mono kw.out.size))
  replace kL := Lib.hid (kL.out.trans (b.mono kL.out.size))
  clear b
  obtain ⟨k1, k2, hksh⟩ := (OwnG.SL eI_len ok).shape
  have fK := Lib.hid (fun W (B : Below w3.heap.size w3 W) => (OwnG.SL eI_len ok).below B)
  obtain ⟨K, hK⟩ : ∃ K, Hid (K = ks.length) := ⟨_, rfl⟩
  rw [← hK.out] at hksh
  subst hksh
  have hasch := Lib.hid hasc
  clear ok hasc
  have kK := Lib.hid (Below.refl w3.heap.size w3)
  obtain ⟨RL, hRL⟩ : ∃ R, Hid (R = rootL L) := ⟨_, rfl⟩
  obtain ⟨V, hV⟩ : ∃ R, Hid (R = valsL L ks) := ⟨_, rfl⟩
  obtain ⟨P, hP⟩ : ∃ R, Hid (R = pathL L ks) := ⟨_, rfl⟩
  obtain ⟨FE, hFE⟩ : ∃ R, Hid (R = foundE L ks) := ⟨_, rfl⟩
  obtain ⟨FA, hFA⟩ : ∃ R, Hid (R = foundA L ks) := ⟨_, rfl⟩
  have cRt := Lib.hid (show ∀ W, Below w.heap.size w W → SE W (.slice l1 nL l2) L → Calls Tryd.prog 13 #[.slice l1 nL l2] W (RootPost RL 0 W) from fun W B' h => by rw [hRL.out]; exact RootC L _ W hmp.out h (hT.out.below B'))
  have cPr := Lib.hid (show ∀ W, Below w.heap.size w W → SE W (.slice l1 nL l2) L → SI W (.slice k1 K k2) ks → Calls Tryd.prog 18 #[.slice l1 nL l2, .slice k1 K k2] W (PP ks V P W) from fun W B' h1 h2 => by rw [hV.out, hP.out]; exact ProveC L _ _ _ W hmp.out hasch.out h1 h2 (hT.out.below B'))
  have cRd := Lib.hid (show ∀ vo W, Below w.heap.size w W → OpV W vo ks V P → Calls Tryd.prog 23 #[.string ⟨RL.toArray⟩, vo] W (RdYes FE FA W) from fun vo W B' h1 => by rw [hRL.out, hFE.out, hFA.out]; rw [hV.out, hP.out] at h1; exact ReadC L ks vo W hmp.out hasch.out h1 (hT.out.below B'))
  have cAt := Lib.hid (show ∀ W key, SE W (.slice l1 nL l2) L → Calls Tryd.prog 29 #[.slice l1 nL l2, .int .i64 key] W fun e w' => e = .returned (.string ⟨(lookE L key).toArray⟩) ∧ W = w' from fun W key h => At_any _ L key W h rfl (by have := hlh.out; omega))
  have hVl : Hid (V.length = K) := by show _ = _; rw [hV.out, hK.out]; simp [valsL, tN]
  have hkl := ascB_len ks (-1) (by omega) (by omega) hasch.out
  have hfl := found_len L ks
  rw [← hFE.out, ← hFA.out, ← hK.out] at hfl
  rw [← hK.out] at hkl
  have hpc := pathL_cnt L ks (fun k h => by have := ascB_bd ks (-1) (by omega) hasch.out k h; omega)
  rw [← hP.out, ← hK.out] at hpc
  have hcn := Lib.hid (fun n h he => cur_no L ks n h he)
  have hcy := Lib.hid (fun n h he => cur_yes L ks n h he)
  rw [← hFA.out] at hcn
  rw [← hFE.out] at hcy
  have hflh := Lib.hid hfl
  have hpch := Lib.hid hpc
  clear hfl hpc hRL
  go_wp2_with fail
  with_reducible refine (cRt.out _ kw.out (fL.out _ kL.out)).mono ?_
  rintro e w4 ⟨rfl, b⟩
  replace kw := Lib.hid (kw.out.trans (b.mono kw.out.size))
  replace kL := Lib.hid (kL.out.trans (b.mono kL.out.size))
  replace kK := Lib.hid (kK.out.trans (b.mono kK.out.size))
  clear b
  go_wp2_with fail
  with_reducible refine (cPr.out _ kw.out (fL.out _ kL.out) (fK.out _ kK.out)).mono ?_
  rintro e w5 ⟨vo, rfl, ho, b⟩
  replace kw := Lib.hid (kw.out.trans (b.mono kw.out.size))
  replace kL := Lib.hid (kL.out.trans (b.mono kL.out.size))
  replace kK := Lib.hid (kK.out.trans (b.mono kK.out.size))
  clear b
  obtain ⟨nP, hnP⟩ : ∃ n, Hid (P.length = n) := ⟨_, rfl⟩
  obtain ⟨p1, p2, p3, p4, p5, p6, rfl⟩ := ho.form K K nP hK.out.symm hVl.out hnP.out
  have hoh := Lib.hid ho
  clear ho
  go_upto_region 7 with (fail)
  obtain ⟨wo, hwo⟩ : ∃ W, W = w5.alloc (.cells #[.slice p1 K p2, .slice p3 K p4, .slice p5 nP p6] 37) := ⟨_, rfl⟩
  rw [← hwo]
  obtain ⟨bb, zz_, hcell⟩ := box_world w5 wo _ _ _ 37 hwo
  have owo := Lib.hid (fun W (B : Below wo.heap.size wo W) => (hoh.out.below bb).below B)
  have cwo := Lib.hid hcell
  clear hcell hwo zz_ hoh
  replace kw := Lib.hid (kw.out.trans (bb.mono kw.out.size))
  replace kL := Lib.hid (kL.out.trans (bb.mono kL.out.size))
  replace kK := Lib.hid (kK.out.trans (bb.mono kK.out.size))
  clear bb
  have ko := Lib.hid (Below.refl wo.heap.size wo)
  obtain ⟨g0, g1, g2⟩ := cwo.out wo ko.out
  go_wp2_with fail
  with_reducible refine (cRd.out _ _ kw.out (owo.out _ ko.out)).mono ?_
  rintro e w6 ⟨t, a, rfl, ht, ha, b⟩
  clear g0 g1 g2
  replace kw := Lib.hid (kw.out.trans (b.mono kw.out.size))
  replace kL := Lib.hid (kL.out.trans (b.mono kL.out.size))
  replace kK := Lib.hid (kK.out.trans (b.mono kK.out.size))
  replace ko := Lib.hid (ko.out.trans (b.mono ko.out.size))
  clear b
  obtain ⟨t1, nE, t2, rfl, hnE⟩ := ht.shape'
  obtain ⟨a1, nA, a2, rfl, hnA⟩ := ha.shape'
  have fE := Lib.hid (fun (k : Nat) (hk : k < FE.length) => SE.at ht k hk)
  have fA := Lib.hid (fun (k : Nat) (hk : k < FA.length) => SI.at ha k hk)
  have fKk := Lib.hid (fun (k : Nat) (hk : k < ks.length) => SI.at (fK.out _ kK.out) k hk)
  have fL6 := Lib.hid (fun W (B : Below w6.heap.size w6 W) => (fL.out _ kL.out).below B)
  clear ht ha
  have hfl := hflh.out
  rw [← hnE.out, ← hnA.out] at hfl
  have hpc := hpch.out
  rw [hnP.out] at hpc
  obtain ⟨M, hM⟩ : ∃ M, max 1 (6 * K) = M := ⟨_, rfl⟩
  rw [hM] at hpc
  have hmax : ∀ ts ty W, (Builtin.max_ ts ty #[.int .i64 1, .int .i64 (6 * (K : Int))]).run Tryd.prog W = .ok (.int .i64 (M : Int)) W := fun ts ty W => by rw [run_max_int2]; congr 2; split <;> omega
  have e1 : ((nE : Int) + (nA : Int) != (K : Int)) = false := by rw [bne_eq_false_iff_eq]; omega
  have e2 : ((nE : Int) + (nA : Int) == (K : Int)) = true := by rw [beq_iff_eq]; omega
  have e3 : ¬ (M : Int) < (nP : Int) := by omega
  have e4 : decide ((M : Int) < (nP : Int)) = false := by simp; omega
  have e5 : decide (M < nP) = false := by simp; omega
  have e6 : (nE + nA == K) = true := by rw [beq_iff_eq]; omega
  have e7 : (nE + nA != K) = false := by rw [bne_eq_false_iff_eq]; omega
  have b1 : nE ≤ 64 := by omega
  have b2 : nA ≤ 64 := by omega
  have b3 : K ≤ 64 := by omega
  obtain ⟨g0, g1, g2⟩ := cwo.out w6 ko.out
  clear hM hpc hfl hflh hpch hkl
  go_wp2_with fail
  clear hmax g0 g1 g2
  go_loopw [14, 15, 16] (fun iv kv nv wr => ∃ n i k : Nat, n ≤ K ∧ nv = .int .i64 n ∧ iv = .int .i64 i ∧ kv = .int .i64 k ∧ Hid (curE L ks n = i) ∧ Hid (curA L ks n = k) ∧ i ≤ n ∧ k ≤ n ∧ Below w6.heap.size w6 wr) (fun _ _ nv _ => K - (intOf nv).toNat)
  case atStart => exact ⟨0, 0, 0, by omega, rfl, rfl, rfl, rfl, rfl, by omega, by omega, Below.refl _ _⟩
  case round =>
    obtain ⟨n, i, k, hn, rfl, rfl, rfl, hi, hk, hin, hkn, B⟩ := hrel
    by_cases hlt : n < K
    · have hnk : n < ks.length := by rw [← hK.out]; exact hlt
      obtain ⟨bk, ok, ck, he, hcell⟩ := fKk.out n hnk
      injection he with he1 he2 he3
      subst he1
      have hcc := hcell wr B
      have hat := Lib.hid (cAt.out wr ks[n] (fL6.out wr B))
      have i0 : (0 : Int) ≤ (n : Int) := by omega
      have i1 : (n : Int) < (K : Int) := by omega
      have hno := Lib.hid (hcn.out n hnk)
      have hyes := Lib.hid (hcy.out n hnk)
      clear hcell he2 he3
      generalize ks[n] = y at *
      by_cases hz : lookE L y = []
      · obtain ⟨c1, c2, c3⟩ := hno.out hz
        have hat2 := hat.out
        rw [hz] at hat2
        have hat2 := Lib.hid hat2
        rename_i hx; clear hx
        rw [hk.out] at c3
        obtain ⟨hkA, hkv⟩ := List.getElem?_eq_some_iff.1 c3
        obtain ⟨ba, oa, ca, he, hcell⟩ := fA.out k hkA
        injection he with he1 he2 he3
        subst he1
        have hca := hcell wr B
        rw [hkv] at hca
        rw [← hnA.out] at hkA
        have d1 : decide ((nA : Int) ≤ (k : Int)) = false := by simp; omega
        have d2 : (y != y) = false := by simp
        have d3 : (y == y) = true := by simp
        have i2 : (0 : Int) ≤ (k : Int) := by omega
        have i3 : (k : Int) < (nA : Int) := by omega
        have r1 : Hid (curE L ks (n + 1) = i) := by show _ = _; rw [c1]; exact hi.out
        have r2 : Hid (curA L ks (n + 1) = k + 1) := by show _ = _; rw [c2, hk.out]
        clear hat hno hyes hz c1 c2 c3 hkv he2 he3 hcell hi hk
        go_wp2_with fail
        with_reducible refine (hat2.out).mono ?_
        rintro e w' ⟨rfl, rfl⟩
        clear hat2
        go_wp2_with fail
        go_quiet (fail)
        go_wp2_with fail
        go_roundw
        case rel => exact ⟨n + 1, i, k + 1, by omega, by go_num, rfl, by go_num, r1, r2, by omega, by omega, below_drewN B _⟩
        case measure => simp [intOf]; omega
      · obtain ⟨c1, c2, c3⟩ := hyes.out hz
        have hz2 := not_empty hz
        rw [hi.out] at c3
        obtain ⟨hiE, hiv⟩ := List.getElem?_eq_some_iff.1 c3
        obtain ⟨ba, oa, ca, he, hcell⟩ := fE.out i hiE
        injection he with he1 he2 he3
        subst he1
        obtain ⟨hca, hcb⟩ := hcell wr B
        rw [hiv] at hca hcb
        rw [← hnE.out] at hiE
        have r1 : Hid (curE L ks (n + 1) = i + 1) := by show _ = _; rw [c1, hi.out]
        have r2 : Hid (curA L ks (n + 1) = k) := by show _ = _; rw [c2]; exact hk.out
        clear hno hyes hz c1 c2 c3 hiv he2 he3 hcell hi hk
        dsimp only at hca hcb
        generalize lookE L y = s at *
        have d1 : decide ((nE : Int) ≤ (i : Int)) = false := by simp; omega
        have d2 : (y != y) = false := by simp
        have d3 : (y == y) = true := by simp
        have d4 : (s == s) = true := by simp
        have d5 : (s != s) = false := by simp
        have i2 : (0 : Int) ≤ (i : Int) := by omega
        have i3 : (i : Int) < (nE : Int) := by omega
        go_wp2_with fail
        with_reducible refine (hat.out).mono ?_
        rintro e w' ⟨rfl, rfl⟩
        clear hat
        go_wp2_with fail
        go_quiet (fail)
        go_wp2_with fail
        go_roundw
        case rel => exact ⟨n + 1, i + 1, k, by omega, by go_num, by go_num, rfl, r1, r2, by omega, by omega, below_drewN B _⟩
        case measure => simp [intOf]; omega
    · have i1 : ¬ (n : Int) < (K : Int) := by omega
      have hend := Lib.hid (kw.out.trans (B.mono kw.out.size))
      clear hi hk
      go_wp2_with fail
      go_ret
      exact ⟨rfl, hend.out⟩
end Go.Proofs.YtegahpfmkepfmaaDoor
