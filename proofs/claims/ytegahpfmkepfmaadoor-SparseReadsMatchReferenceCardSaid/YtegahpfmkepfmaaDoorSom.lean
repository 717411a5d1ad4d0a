/- The reference's keys that integers determine. -/
import Derived.Test.YtegahpfmkepfmaaDoorMad
import Derived.Deep.CutRange
namespace Go.Proofs.YtegahpfmkepfmaaDoor
open Go.RowKit
def KeysPost (w : World) (e : Ending) (w' : World) : Prop := ∃ v ks, e = .returned v ∧ OI w' w.heap.size v ks ∧ ascB (-1) ks = true ∧ Below w.heap.size w w'
theorem tdiv2_bd (x : Int) (h : I64 x) : -4611686018427387904 ≤ x.tdiv 2 ∧ x.tdiv 2 ≤ 4611686018427387903 := by
  obtain ⟨h1, h2⟩ := h
  rcases Int.le_total 0 x with h | h
  · rw [Int.tdiv_eq_ediv_of_nonneg h]; omega
  · obtain ⟨n, rfl⟩ : ∃ n, x = -n := ⟨-x, by omega⟩
    rw [Int.neg_tdiv, Int.tdiv_eq_ediv_of_nonneg (by omega)]; omega
theorem asc_snoc (ks : List Int) (k : Int) (h : ascB (-1) ks = true) (h0 : 0 ≤ k) (h1 : k < 64) (hl : ∀ x ∈ ks, x < k) : ascB (-1) (ks ++ [k]) = true := by
  rw [ascB_iff] at h ⊢
  refine ⟨fun x hx => ?_, ?_⟩
  · rcases List.mem_append.1 hx with hx | hx
    · exact h.1 x hx
    · simp at hx; omega
  · rw [List.pairwise_append]
    exact ⟨h.2, by simp, fun a ha b hb => by simp at hb; subst hb; exact hl a ha⟩
theorem asc_last (ks : List Int) (k : Int) (h : ascB (-1) ks = true) (hne : ks ≠ []) (hk : ks[ks.length - 1]'(by have := List.length_pos_iff.2 hne; omega) < k) : ∀ x ∈ ks, x < k := by
  rw [ascB_iff] at h
  intro x hx
  obtain ⟨i, hi, rfl⟩ := List.getElem_of_mem hx
  by_cases e : i = ks.length - 1
  · subst e; exact hk
  · have := List.pairwise_iff_getElem.1 h.2 i (ks.length - 1) hi (by omega) (by omega)
    omega

set_option maxRecDepth 100000 in
set_option maxHeartbeats 2000000 in
theorem Some_any (vl vx : Value) (L : List Ent) (x : List Int) (w : World) {W0 : World} (hvl : SE W0 vl L) (hmp : Mp L) (hvx : ArgI W0 vx x) (hW : W0 = w) : Calls Tryd.prog 17 #[vl, vx] w (KeysPost w) := by
  subst hW
  obtain ⟨hvx, hn, hb⟩ := hvx
  have hc := Lib.hid (show ∀ (k : Nat) (hk : k < x.length), _ from fun k hk => SI.at hvx k hk)
  have hcl := Lib.hid (show ∀ (k : Nat) (hk : k < L.length), _ from fun k hk => SE.at hvl k hk)
  have hml := Mp_len L hmp
  obtain ⟨a, N, c, rfl, hN⟩ := hvx.shape'
  obtain ⟨a2, M, c2, rfl, hM⟩ := hvl.shape'
  have hbh := Lib.hid hb
  rw [← hN.out] at hn
  rw [← hM.out] at hml
  clear hvx hvl hb hmp
  go_enter Tryd.func17, Tryd.ntmps17
  go_wp2_with fail
  go_loopw [5, 6] (fun ov kv wr => ∃ k : Nat, k ≤ 64 ∧ kv = .int .i64 k ∧ ∃ ks, (∃ x1 x2 x3, ov = .slice x1 x2 x3) ∧ OI wr W0.heap.size ov ks ∧ Hid (ascB (-1) ks = true) ∧ Hid (∀ y ∈ ks, y < (k : Int)) ∧ Below W0.heap.size W0 wr) (fun _ kv _ => 64 - (intOf kv).toNat)
  case atStart => exact ⟨0, by omega, rfl, [], ⟨_, _, _, rfl⟩, OwnG.nil _ _, rfl, (fun y h => by cases h), Below.refl _ _⟩
  case round =>
    obtain ⟨k, hk, rfl, ks, ⟨x1, x2, x3, rfl⟩, hown, hasc, hlt0, B⟩ := hrel
    by_cases hlt : k < 64
    · have hk6 : (k : Int) < 64 := by omega
      go_wp2_with fail
      obtain ⟨wo, rfl⟩ : ∃ wo : World, wo = wr := ⟨_, rfl⟩
      go_loopw [5, 7] (fun ov iv wr => ∃ i : Nat, i ≤ N ∧ i ≤ 6 ∧ iv = .int .i64 i ∧ ∃ ks, (∃ x1 x2 x3, ov = .slice x1 x2 x3) ∧ OI wr W0.heap.size ov ks ∧ Hid (ascB (-1) ks = true) ∧ Hid (∀ y ∈ ks, y < (k : Int) + 1) ∧ Below W0.heap.size W0 wr) (fun _ iv _ => N - (intOf iv).toNat)
      case atStart => exact ⟨0, by omega, by omega, rfl, ks, ⟨_, _, _, rfl⟩, hown, hasc, (fun y h => by have := hlt0.out y h; omega), B⟩
      case round =>
        clear hown hasc hlt0 B
        obtain ⟨i, hi, hi6, rfl, ks, ⟨x1, x2, x3, rfl⟩, hown, hasc, hle, B⟩ := hrel
        by_cases hiN : i < N
        · by_cases h6 : i < 6
          · have hil : i < x.length := by rw [← hN.out]; exact hiN
            obtain ⟨b, o, c', he, hcell⟩ := hc.out i hil
            injection he with he1 he2 he3
            subst he1
            have hcc := hcell wr B
            have hu := hbh.out x[i] (List.getElem_mem hil)
            have hq := tdiv2_bd x[i] hu
            clear hcell he2 he3
            have i0 : (0 : Int) ≤ (i : Int) := by omega
            have i1 : (i : Int) < (N : Int) := by omega
            have i2 : (i : Int) < 6 := by omega
            generalize x[i] = y at *
            obtain ⟨yb1, yb2⟩ := hu
            go_wp2_with fail
            have p1 := Lib.hid (fun W => Wr.pickR_any (y.tdiv 2) 64 W (by omega) (by omega) (by omega) (by omega))
            have p2 := Lib.hid (fun W => Wr.pickR_any y 2 W yb1 yb2 (by omega) (by omega))
            have p3 := Lib.hid (show 1 ≤ M → ∀ W, _ from fun h W => Wr.pickR_any (y.tdiv 2) (M : Int) W (by omega) (by omega) (by omega) (by omega))
            obtain ⟨aS, cS, hsh⟩ := (OwnG.SL eI_len hown).shape
            have hlen : Hid (x2 = ks.length) := by injection hsh
            clear hsh
            with_reducible refine (p1.out _).mono ?_
            rintro e w' ⟨rfl, rfl⟩
            generalize Wr.pk (y.tdiv 2) 64 = n0 at *
            go_upto_region 9 with (fail)
            go_cut [39] from 13 to 73 (fun s39 wx => ∃ bb : Bool, s39 = .bool bb ∧ (bb = true → 1 ≤ M) ∧ wr = wx)
            case first =>
              go_wp2_with fail
              with_reducible refine (p2.out _).mono ?_
              rintro e w' ⟨rfl, rfl⟩
              generalize Wr.pk y 2 = n1 at *
              by_cases hin : n1 = 0
              · subst hin
                clear p3
                have t5 : ((0 : Int) == 0) = true := rfl
                by_cases hM1 : 1 ≤ M
                · have t6 : (0 : Int) < (M : Int) := by omega
                  go_wp2_with fail
                  go_meet
                  exact ⟨_, rfl, fun _ => hM1, rfl⟩
                · have t6 : ¬ (0 : Int) < (M : Int) := by omega
                  go_wp2_with fail
                  go_meet
                  exact ⟨_, rfl, fun h => by simp at h; omega, rfl⟩
              · have t5 : (n1 == 0) = false := by rw [beq_eq_false_iff_ne]; exact hin
                clear hin p3
                go_wp2_with fail
                go_meet
                exact ⟨_, rfl, fun h => by simp at h, rfl⟩
            case rest =>
            clear p1 p2
            obtain ⟨bb, rfl, hbb, rfl⟩ := hcut
            have hbbh := Lib.hid hbb
            clear hbb
            go_upto_if 39 with (fail)
            go_cut [8] from 13 to 73 (fun s8 wx => ∃ n : Int, s8 = .int .i64 n ∧ wr = wx)
            case first =>
              cases bb
              · clear p3 hbbh
                go_wp2_with fail
                go_meet
                exact ⟨_, rfl, rfl⟩
              · have hM1 := hbbh.out rfl
                have q3 := Wr.pk_lo (y.tdiv 2) (M : Int) (by omega)
                have q4 := Wr.pk_lt (y.tdiv 2) (M : Int) (by omega)
                have p4 := Lib.hid (p3.out hM1)
                obtain ⟨j, hj⟩ : ∃ j : Nat, Wr.pk (y.tdiv 2) (M : Int) = (j : Int) := ⟨(Wr.pk (y.tdiv 2) (M : Int)).toNat, by omega⟩
                rw [hj] at p4 q3 q4
                clear hj p3 hbbh
                have hjL : j < L.length := by rw [← hM.out]; omega
                obtain ⟨bj, oj, cj, he, hcell⟩ := hcl.out j hjL
                injection he with he1 he2 he3
                subst he1
                obtain ⟨hcj1, hcj2⟩ := hcell wr B
                clear hcell he2 he3
                generalize L[j] = uj at *
                go_wp2_with fail
                with_reducible refine (p4.out _).mono ?_
                rintro e w' ⟨rfl, rfl⟩
                go_wp2_with fail
                go_meet
                exact ⟨_, rfl, rfl⟩
            case rest =>
              clear p3 hbbh hcc hq yb1 yb2
              obtain ⟨n, rfl, rfl⟩ := hcut
              have hkl : ks.length ≤ 64 := by have := ascB_len ks (-1) (by omega) (by omega) hasc.out; omega
              by_cases hnk : n = (k : Int)
              rotate_left
              · have t1 : (n == (k : Int)) = false := by rw [beq_eq_false_iff_ne]; exact hnk
                clear hnk hkl
                go_wp2_with fail
                go_roundw
                case rel => exact ⟨i + 1, by omega, by omega, by go_num, ks, ⟨_, _, _, rfl⟩, hown, hasc, hle, B⟩
                case measure => simp [intOf]; omega
              subst hnk
              have t1 : (((k : Nat) : Int) == (k : Int)) = true := by simp
              by_cases h0 : ks = []
              · have hx2 : x2 = 0 := by rw [hlen.out, h0]; rfl
                have hlk : ∀ y ∈ ks, y < (k : Int) := fun y h => by rw [h0] at h; cases h
                obtain ⟨v1, w1, hr1, o1, b1⟩ := snocI wr W0.heap.size _ ks (k : Int) hown (by omega) B.size
                obtain ⟨ya, yc, hysh⟩ := (OwnG.SL eI_len o1).shape
                have hr1 : (Builtin.append_ #[24, 24] 24 #[.slice x1 x2 x3, .slice (some ⟨wr.heap.size, 0, none⟩) 1 1]).run Tryd.prog (wr.alloc (.cells #[.int .i64 (k : Int)] 3)) = .ok v1 w1 := hr1
                have hend := Lib.hid (show OI w1 W0.heap.size v1 (ks ++ [(k : Int)]) ∧ Hid (ascB (-1) (ks ++ [(k : Int)]) = true) ∧ Hid (∀ y ∈ ks ++ [(k : Int)], y < (k : Int) + 1) ∧ Below W0.heap.size W0 w1 from ⟨o1, asc_snoc ks k hasc.out (by omega) (by omega) hlk, (fun y h => by rcases List.mem_append.1 h with h | h; exact hle.out y h; simp at h; omega), B.trans b1⟩)
                clear o1 b1 hown B hlk hasc hle
                simp only [List.length_append, List.length_singleton] at hysh
                subst hysh
                subst hx2
                have t2 : (((0 : Nat) : Int) == 0) = true := rfl
                clear h0 hkl
                go_wp2_with (at_builtin; refine wpList_append_runB rfl (.tmp 70) (.tmp 72) 24 rfl (.slice x1 0 x3) (.slice (some ⟨wr.heap.size, 0, none⟩) 1 1) rfl rfl _ _ hr1 ?_)
                go_roundw
                case rel => exact ⟨i + 1, by omega, by omega, by go_num, _, ⟨_, _, _, rfl⟩, hend.out⟩
                case measure => simp [intOf]; omega
              · obtain ⟨g, gc, hg1, hg2, hg3, hg4⟩ := OI.cellAt hown h0
                injection hg1 with hg1 e2 e3
                clear e2 e3
                subst hg1
                have hpos : 0 < ks.length := List.length_pos_iff.2 h0
                have hgc := hg4 wr rfl (ks.length - 1) (by omega)
                have hlast := asc_last ks (k : Int) hasc.out h0
                obtain ⟨m, hm⟩ : ∃ m, x2 = m + 1 := ⟨x2 - 1, by rw [hlen.out]; omega⟩
                have hm2 : ks.length - 1 = m := by rw [← hlen.out, hm]; rfl
                generalize hz : ks[ks.length - 1] = z at *
                rw [hm2] at hgc
                have t2 : (((m + 1 : Nat) : Int) == 0) = false := by rw [beq_eq_false_iff_ne]; omega
                have t3 : ((m : Int) + 1 == 0) = false := by rw [beq_eq_false_iff_ne]; omega
                have i7 : (0 : Int) ≤ (m : Int) := by omega
                have i8 : m ≤ 64 := by omega
                by_cases hzk : z < (k : Int)
                · have hlk := hlast hzk
                  obtain ⟨v1, w1, hr1, o1, b1⟩ := snocI wr W0.heap.size _ ks (k : Int) hown (by omega) B.size
                  obtain ⟨ya, yc, hysh⟩ := (OwnG.SL eI_len o1).shape
                  have hr1 : (Builtin.append_ #[24, 24] 24 #[.slice (some ⟨g, 0, none⟩) x2 x3, .slice (some ⟨wr.heap.size, 0, none⟩) 1 1]).run Tryd.prog (wr.alloc (.cells #[.int .i64 (k : Int)] 3)) = .ok v1 w1 := hr1
                  have hend := Lib.hid (show OI w1 W0.heap.size v1 (ks ++ [(k : Int)]) ∧ Hid (ascB (-1) (ks ++ [(k : Int)]) = true) ∧ Hid (∀ y ∈ ks ++ [(k : Int)], y < (k : Int) + 1) ∧ Below W0.heap.size W0 w1 from ⟨o1, asc_snoc ks k hasc.out (by omega) (by omega) hlk, (fun y h => by rcases List.mem_append.1 h with h | h; exact hle.out y h; simp at h; omega), B.trans b1⟩)
                  clear o1 b1 hown B hlk hasc hle
                  simp only [List.length_append, List.length_singleton] at hysh
                  subst hysh
                  subst hm
                  clear h0 hg2 hg3 hg4 hpos hlast hm2 hkl hz
                  go_wp2_with (at_builtin; refine wpList_append_runB rfl (.tmp 70) (.tmp 72) 24 rfl (.slice (some ⟨g, 0, none⟩) (m + 1) x3) (.slice (some ⟨wr.heap.size, 0, none⟩) 1 1) rfl rfl _ _ hr1 ?_)
                  go_roundw
                  case rel => exact ⟨i + 1, by omega, by omega, by go_num, _, ⟨_, _, _, rfl⟩, hend.out⟩
                  case measure => simp [intOf]; omega
                · subst hm
                  clear h0 hg2 hg3 hg4 hpos hlast hm2 hkl hz
                  go_wp2_with fail
                  go_roundw
                  case rel => exact ⟨i + 1, by omega, by omega, by go_num, ks, ⟨_, _, _, rfl⟩, hown, hasc, hle, B⟩
                  case measure => simp [intOf]; omega
          · have t : ¬ (i : Int) < 6 := by omega
            have t1 : (i : Int) < (N : Int) := by omega
            go_wp2_with fail
            go_roundw
            case rel => exact ⟨k + 1, by omega, by go_num, ks, ⟨_, _, _, rfl⟩, hown, hasc, (fun y h => by have := hle.out y h; omega), B⟩
            case measure => simp [intOf]; omega
        · have t : ¬ (i : Int) < (N : Int) := by omega
          go_wp2_with fail
          go_roundw
          case rel => exact ⟨k + 1, by omega, by go_num, ks, ⟨_, _, _, rfl⟩, hown, hasc, (fun y h => by have := hle.out y h; omega), B⟩
          case measure => simp [intOf]; omega
    · have t : ¬ (k : Int) < 64 := by omega
      have hasch := Lib.hid hasc.out
      clear hasc hlt0
      go_wp2_with fail
      go_ret
      exact ⟨_, ks, rfl, hown, hasch.out, B⟩
end Go.Proofs.YtegahpfmkepfmaaDoor
