import Derived.Test.YtimfhnnabocliaaDoorT
namespace Go.Proofs.YtimfhnnabocliaaDoor
open Go.RowKit

theorem unfold_odd (q : Nat) (h : q % 2 = 1) : unfoldI q = -((q : Int) / 2) - 1 := by rw [unfoldI, if_pos h]; simp
theorem unfold_even (q : Nat) (h : ¬ q % 2 = 1) : unfoldI q = (q : Int) / 2 := by rw [unfoldI, if_neg h]; simp

set_option maxRecDepth 100000 in
set_option maxHeartbeats 1000000 in
theorem RInt_none (s : ByteArray) (a : Nat) (w : World) (hs : s.size ≤ 140737488351232) (ha : a ≤ s.size) (hg : getL s.data.toList a = none) :
    Calls Tryd.prog 16 #[.string s, .int .i64 a] w fun e w' => e = .returned (.tuple #[.int .i64 0, .int .i64 0, .int .i64 10]) ∧ Below w.heap.size w w' := by
  have d1 : decide ((a : Int) < 0) = false := by simp
  have d2 : decide ((s.size : Int) < (a : Int)) = false := by simp; omega
  have d3 : decide (s.size < a) = false := by simp; omega
  have h := Lib.hid hg
  clear hg
  go_enter Tryd.func16, Tryd.ntmps16
  go_wp2
  go_loop [7, 8] (fun z i => ∃ k zn : Nat, k ≤ 9 ∧ a + k ≤ s.size ∧ i = .int .i64 k ∧ z = .int .u64 zn ∧ JI (s.data.toList.drop a) k zn) (fun _ i => 9 - (intOf i).toNat)
  case atStart => exact ⟨0, 0, by omega, by omega, rfl, rfl, JI_start _⟩
  case round =>
    obtain ⟨k, z, hk, hak, rfl, rfl, hj0⟩ := hrel
    have hj := Lib.hid hj0
    clear hj0
    by_cases hlt : k < 9 ∧ a + k < s.size
    · obtain ⟨hk9, hks⟩ := hlt
      have hd0 : (s.data.toList.drop a).drop k = s[a + k] :: s.data.toList.drop (a + k + 1) := by rw [List.drop_drop, drop_at s (a + k) hks]
      have hd := Lib.hid hd0
      clear hd0
      have hw := wrap_sum k z s[a + k].toNat hk9 hj.out.1
      have hb : (s[a + k].toNat : Int) < 256 := by have : s[a + k].toNat < 256 := s[a + k].toNat_lt; omega
      by_cases hc0 : 128 ≤ s[a + k].toNat
      · have hc := Lib.hid hc0
        have hc1 : (128 : Int) ≤ (s[a + k].toNat : Int) := by omega
        clear hc0
        go_wp2
        go_round
        case rel => exact ⟨k + 1, z + s[a + k].toNat % 128 * 128 ^ k, by omega, by omega, by go_num, by simp, JI_go _ k z _ _ hk9 hj.out hd.out (by rw [List.drop_drop]; rfl) hc.out⟩
        case measure => simp [intOf]; omega
      · have hc1 : (s[a + k].toNat : Int) < 128 := by omega
        have hst := ref_stop s.data.toList a k z _ _ hk9 hj.out hd.out (by omega)
        clear hc0
        have hq0 : ∃ q, q = z + s[a + k].toNat % 128 * 128 ^ k := ⟨_, rfl⟩
        obtain ⟨q, hq0⟩ := hq0
        rw [← hq0] at hst hw
        obtain ⟨hql, hst⟩ := hst
        rw [pow9] at hql
        have hq := Lib.hid hq0
        clear hq0
        have hst2 : q ≤ 9223372036854775806 → (s.data.toList.drop a).take (k + 1) ≠ putL (unfoldI q) := by
          rcases hst with ⟨n, m, e, _⟩ | ⟨_, e⟩
          · rw [h.out] at e; cases e
          · exact e
        have hst3 := Lib.hid hst2
        clear hst2 hst
        by_cases hqm : q ≤ 9223372036854775806
        · have hub := unfold_bd q hqm
          have hne : (putL (unfoldI q) == (s.extract a (a + k + 1)).toList) = false := by
            rw [beq_eq_false_iff_ne, Lib.toList_data, Lib.extract_data, show a + k + 1 - a = k + 1 by omega]
            exact fun e => hst3.out hqm e.symm
          have hPI := fun W => RPutInt_any (unfoldI q) W hub.1 hub.2
          by_cases hpar : q % 2 = 1
          · rw [unfold_odd q hpar] at hne hPI hub
            have t1 : ((q : Int) % 2 == 1) = true := beq_iff_eq.2 (by omega)
            have hP := Lib.hid hPI
            clear hPI hpar
            obtain ⟨hub1, hub2⟩ := hub
            go_wp2_with fail
            refine (hP.out _).mono ?_
            rintro e w2 ⟨rfl, hb2⟩
            go_wp2
            go_ret3
            exact ⟨rfl, hb2⟩
          · rw [unfold_even q hpar] at hne hPI hub
            have t1 : ((q : Int) % 2 == 1) = false := beq_eq_false_iff_ne.2 (by omega)
            have hP := Lib.hid hPI
            clear hPI hpar
            obtain ⟨hub1, hub2⟩ := hub
            go_wp2_with fail
            refine (hP.out _).mono ?_
            rintro e w2 ⟨rfl, hb2⟩
            go_wp2
            go_ret3
            exact ⟨rfl, hb2⟩
        · have t1 : ((q : Int) % 2 == 1) = true := beq_iff_eq.2 (by omega)
          have hqe : q = 9223372036854775807 := by omega
          have hPI := fun W => RPutInt_bad (-((q : Int) / 2) - 1) W (by omega) (by omega) (by omega)
          have hP := Lib.hid hPI
          have hq3 := Lib.hid hqe
          clear hPI hqe
          go_wp2_with fail
          refine (hP.out _).mono ?_
          rintro e w2 ⟨rfl, hb2⟩
          go_wp2
          go_ret3
          exact ⟨rfl, hb2⟩
    · have hge := ref_end s.data.toList a k z hj.out (by
        by_cases e : k < 9
        · right; rw [List.drop_drop]; exact List.drop_of_length_le (by rw [data_len]; omega)
        · left; omega)
      clear hge
      by_cases e : k < 9
      · have e2 : ¬ a + k < s.size := fun e2 => hlt ⟨e, e2⟩
        clear hlt
        go_wp2
        go_ret3
        exact ⟨rfl, Below.refl _ _⟩
      · clear hlt
        go_wp2
        go_ret3
        exact ⟨rfl, Below.refl _ _⟩

set_option maxRecDepth 100000 in
set_option maxHeartbeats 1000000 in
theorem RInt_ok (s : ByteArray) (a : Nat) (n : Int) (m : Nat) (w : World) (hs : s.size ≤ 140737488351232) (ha : a ≤ s.size) (hg : getL s.data.toList a = some (n, m)) :
    Calls Tryd.prog 16 #[.string s, .int .i64 a] w fun e w' => e = .returned (.tuple #[.int .i64 n, .int .i64 m, .int .i64 0]) ∧ Below w.heap.size w w' := by
  have d1 : decide ((a : Int) < 0) = false := by simp
  have d2 : decide ((s.size : Int) < (a : Int)) = false := by simp; omega
  have d3 : decide (s.size < a) = false := by simp; omega
  have h := Lib.hid hg
  clear hg
  go_enter Tryd.func16, Tryd.ntmps16
  go_wp2
  go_loop [7, 8] (fun z i => ∃ k zn : Nat, k ≤ 9 ∧ a + k ≤ s.size ∧ i = .int .i64 k ∧ z = .int .u64 zn ∧ JI (s.data.toList.drop a) k zn) (fun _ i => 9 - (intOf i).toNat)
  case atStart => exact ⟨0, 0, by omega, by omega, rfl, rfl, JI_start _⟩
  case round =>
    obtain ⟨k, z, hk, hak, rfl, rfl, hj0⟩ := hrel
    have hj := Lib.hid hj0
    clear hj0
    by_cases hlt : k < 9 ∧ a + k < s.size
    · obtain ⟨hk9, hks⟩ := hlt
      have hd0 : (s.data.toList.drop a).drop k = s[a + k] :: s.data.toList.drop (a + k + 1) := by rw [List.drop_drop, drop_at s (a + k) hks]
      have hd := Lib.hid hd0
      clear hd0
      have hw := wrap_sum k z s[a + k].toNat hk9 hj.out.1
      have hb : (s[a + k].toNat : Int) < 256 := by have : s[a + k].toNat < 256 := s[a + k].toNat_lt; omega
      by_cases hc0 : 128 ≤ s[a + k].toNat
      · have hc := Lib.hid hc0
        have hc1 : (128 : Int) ≤ (s[a + k].toNat : Int) := by omega
        clear hc0
        go_wp2
        go_round
        case rel => exact ⟨k + 1, z + s[a + k].toNat % 128 * 128 ^ k, by omega, by omega, by go_num, by simp, JI_go _ k z _ _ hk9 hj.out hd.out (by rw [List.drop_drop]; rfl) hc.out⟩
        case measure => simp [intOf]; omega
      · have hc1 : (s[a + k].toNat : Int) < 128 := by omega
        have hst := ref_stop s.data.toList a k z _ _ hk9 hj.out hd.out (by omega)
        clear hc0
        have hq0 : ∃ q, q = z + s[a + k].toNat % 128 * 128 ^ k := ⟨_, rfl⟩
        obtain ⟨q, hq0⟩ := hq0
        rw [← hq0] at hst hw
        obtain ⟨hql, hst⟩ := hst
        rw [pow9] at hql
        have hq := Lib.hid hq0
        clear hq0
        have hst2 : q ≤ 9223372036854775806 ∧ unfoldI q = n ∧ m = a + (k + 1) ∧ (s.data.toList.drop a).take (k + 1) = putL (unfoldI q) := by
          rcases hst with ⟨n', m', e, e1, e2, e3, e4⟩ | ⟨e, _⟩
          · rw [h.out] at e
            simp only [Option.some.injEq, Prod.mk.injEq] at e
            obtain ⟨rfl, rfl⟩ := e
            exact ⟨e1, e2, e3, by rw [e4, e2]⟩
          · rw [h.out] at e; cases e
        clear hst
        obtain ⟨hqm, hun, hm0, hst2⟩ := hst2
        subst hm0
        have hub := unfold_bd q hqm
        have hne : (putL (unfoldI q) == (s.extract a (a + k + 1)).toList) = true := by
          rw [Lib.toList_data, Lib.extract_data, show a + k + 1 - a = k + 1 by omega, hst2]; simp
        have hPI := fun W => RPutInt_any (unfoldI q) W hub.1 hub.2
        clear hst2
        by_cases hpar : q % 2 = 1
        · rw [unfold_odd q hpar] at hun
          have hun2 := Lib.hid hun
          clear hun
          rw [unfold_odd q hpar] at hne hPI hub
          have t1 : ((q : Int) % 2 == 1) = true := beq_iff_eq.2 (by omega)
          have hP := Lib.hid hPI
          clear hPI hpar
          obtain ⟨hub1, hub2⟩ := hub
          go_wp2_with fail
          refine (hP.out _).mono ?_
          rintro e w2 ⟨rfl, hb2⟩
          go_wp2
          go_ret3
          exact ⟨by rw [← hun2.out, Int.natCast_add]; simp [Int.add_assoc], hb2⟩
        · rw [unfold_even q hpar] at hun
          have hun2 := Lib.hid hun
          clear hun
          rw [unfold_even q hpar] at hne hPI hub
          have t1 : ((q : Int) % 2 == 1) = false := beq_eq_false_iff_ne.2 (by omega)
          have hP := Lib.hid hPI
          clear hPI hpar
          obtain ⟨hub1, hub2⟩ := hub
          go_wp2_with fail
          refine (hP.out _).mono ?_
          rintro e w2 ⟨rfl, hb2⟩
          go_wp2
          go_ret3
          exact ⟨by rw [← hun2.out, Int.natCast_add]; simp [Int.add_assoc], hb2⟩
    · have hge := ref_end s.data.toList a k z hj.out (by
        by_cases e : k < 9
        · right; rw [List.drop_drop]; exact List.drop_of_length_le (by rw [data_len]; omega)
        · left; omega)
      rw [h.out] at hge
      cases hge
end Go.Proofs.YtimfhnnabocliaaDoor
