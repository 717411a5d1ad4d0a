/- The reference's encoding of integers. -/
import Derived.Test.YtlaldnlgapeckaaGreatYW
import Derived.Test.YtlaldnlgapeckaaGreatYH
import Derived.RegionTactic
import Derived.ChangeAlike
import Derived.BigRegion
import Derived.Deep.QuietTactic
import Derived.BigQuiet
import Derived.RangeFuncBox
import Derived.Maps.AppendAt
set_option maxRecDepth 100000
set_option maxHeartbeats 4000000
namespace Go.Proofs.YtlaldnlgapeckaaGreat
open Go.RowKit
theorem jn_enc (k z : Nat) (first : Bool) (r : List UInt8) (h : z < 128 ^ (k + 1)) (hf : first = true ∨ 0 < z) : jn (k + 1) first (enc k z ++ r) = some (z, (enc k z).length) := by
 induction k generalizing z first with
 | zero =>
  have hz : z < 128 := by simpa using h
  have e := toNat_of z (by omega);simp only [enc, List.cons_append, List.nil_append, jn, e];rw [if_neg (by omega), if_neg (by rcases hf with hf | hf <;> simp [hf]; omega)];rfl
 | succ k ih =>
  unfold enc;by_cases hz : z < 128
  ·have e := toNat_of z (by omega);rw [if_pos hz];simp only [List.cons_append, List.nil_append, jn, e];rw [if_neg (by omega), if_neg (by rcases hf with hf | hf <;> simp [hf]; omega)];rfl
  ·rw [if_neg hz];have e := toNat_of (z % 128 + 128) (by omega);have h' : z / 128 < 128 ^ (k + 1) := by
    rw [Nat.pow_succ] at h;exact Nat.div_lt_of_lt_mul (by omega)
   have := ih (z / 128) false h' (.inr (by omega));simp only [List.cons_append];rw [jn, e, if_pos (by omega), this]
   simp
   omega

theorem info5 : (Tryz.prog.info? 5).map (fun i => (i.zero, i.size, i.bytes)) = some (some (.int .u8 0), 1, 1) := by kernel_rfl

theorem zigzag_any (n : Int) (w : World) (h1 : -4611686018427387903 ≤ n) (h2 : n ≤ 4611686018427387903) :
  Calls Tryz.prog 117 #[.int .i64 n] w fun e w' => e = .returned (.int .u64 (foldI n)) ∧ w = w' := by
 by_cases h : n < 0
 ·go_enter Tryz.func117, Tryz.ntmps117
  go_wp2
  go_ret;exact ⟨ret_int (by rw [foldI, if_pos h]; omega), rfl⟩
 ·go_enter Tryz.func117, Tryz.ntmps117
  go_wp2
  go_ret;exact ⟨ret_int (by rw [foldI, if_neg (by omega)]; omega), rfl⟩
theorem RPutInt_bad (x : Int) (w : World) (h : x < -4611686018427387903 ∨ 4611686018427387903 < x) (h1 : -9223372036854775808 ≤ x) (h2 : x ≤ 9223372036854775807) :
  Calls Tryz.prog 91 #[.int .i64 x] w fun e w' => e = .returned (.tuple #[.string ⟨#[]⟩, .int .i64 10]) ∧ Below w.heap.size w w' := by
 by_cases hc : x < -4611686018427387903
 ·go_enter Tryz.func91, Tryz.ntmps91
  go_wp2
  go_ret2;exact ⟨rfl, Below.refl _ _⟩
 ·have hc' : 4611686018427387903 < x := by omega
  go_enter Tryz.func91, Tryz.ntmps91
  go_wp2
  go_ret2;exact ⟨rfl, Below.refl _ _⟩
/-- the slice v holds the numbers l, as bytes -/
def OwnB (W : World) (base : Nat) (v : Value) (l : List Int) : Prop := W.ownsRow base 5 1 v l.length (l.map (Value.int .u8))
theorem OwnB.string {W : World} {base : Nat} {v : Value} {x : Int} {g cap k : Nat} (h : OwnB W base v (encI 8 (foldI x))) (hv : v = .slice (some ⟨g, 0, none⟩) k cap) (hk : k = (putL x).length) :
  (convert 62 9 (.slice (some ⟨g, 0, none⟩) k cap)).run Tryz.prog W = .ok (.string ⟨(putL x).toArray⟩) W := by
 subst hv hk;unfold OwnB at h;rw [enc_lens] at h;refine run_convert_bytes_back (P := Tryz.prog) W 62 9 5 ⟨g, 0, none⟩ cap (putL x) Tryz.underlying62 Tryz.underlying5 Tryz.underlying9 (fun j hj => ?_);have e : (Addr.add ⟨g, 0, none⟩ j) = ⟨g, j, none⟩ := by
  unfold Addr.add
  split
  ·rename_i e; rw [e]
  ·simp
 rw [e, h.cellAt j (by omega)];have e2 : (encI 8 (foldI x))[j]? = some ((putL x)[j].toNat : Int) := by
  unfold encI;rw [List.getElem?_map];show ((putL x)[j]?).map _ = _;rw [List.getElem?_eq_getElem hj]; rfl
 rw [List.getElem?_map, e2]; rfl

theorem own_base {W : World} {base n : Nat} {e : TypeId} {size : Nat} {v : Value} {xs : List Value} (h : W.ownsRow base e size v n xs) (k : Nat) (hk : v.ownBlock = some k) : base ≤ k := by
 rcases h.2 with ⟨rfl, _⟩ | ⟨g, cap, cur, rfl, hg, _⟩
 ·simp [Value.ownBlock] at hk
 ·simp [Value.ownBlock] at hk; omega

theorem RPutInt_any (x : Int) (w : World) (h1 : -4611686018427387903 ≤ x) (h2 : x ≤ 4611686018427387903) :
  Calls Tryz.prog 91 #[.int .i64 x] w fun e w' => e = .returned (.tuple #[.string ⟨(putL x).toArray⟩, .int .i64 0]) ∧ Below w.heap.size w w' := by
 have hz := lt_pow9 _ (fold_lt x h1 h2);have hz := Lib.hid hz;obtain ⟨i0, hi, hz0, hz1, hz2⟩ := info_parts info5;have d1 : decide (x < -4611686018427387903) = false := by simp; omega
 have d2 : decide (4611686018427387903 < x) = false := by simp; omega
 go_enter Tryz.func91, Tryz.ntmps91;go_wp2_with fail;refine (zigzag_any _ _ h1 h2).mono ?_;rintro e w1 ⟨rfl, rfl⟩;go_wp2_with fail
 go_loopw [4, 5] (fun zv v wr => ∃ (pre : List Int) (r : Nat), zv = .int .u64 r ∧ Hid (pre ++ encI (8 - pre.length) r = encI 8 (foldI x)) ∧ pre.length ≤ 8 ∧ Hid (r < 128 ^ (9 - pre.length)) ∧ OwnB wr w.heap.size v pre ∧ Below w.heap.size w wr) (fun zv _ _ => (intOf zv).toNat)
 case atStart => exact ⟨[], foldI x, rfl, rfl, by simp, hz.out, World.ownsRow_nil _ _ _ _, Below.refl _ _⟩
 case round =>
  obtain ⟨pre, r, rfl, hx, hl, hr, hown, B⟩ := hrel;have hrb : r < 9223372036854775808 := by
   have h1 := hr.out;have h2 : 128 ^ (9 - pre.length) ≤ 128 ^ 9 := Nat.pow_le_pow_right (by omega) (by omega);rw [pow9] at h2;omega
  have Bs := B.size;unfold OwnB at hown;by_cases hc : 128 ≤ r
  ·have hlen : pre.length < 8 := by
    have h1 := hr.out;have : pre.length ≠ 8 := fun e => by rw [e] at h1; omega
    omega
   go_wp2_with (at_builtin; refine wpList_append_own _ rfl _ _ 62 rfl w.heap.size 5 i0 (.int .u8 0) 1 1 Tryz.underlying62 hi hz0 hz1 hz2 rfl (by decide) _ _ _ rfl (hown.alloc _) ⟨wr.heap.size, 0, none⟩ 1 1 [.int .u8 ((r : Int) % 128 + 128)] rfl rfl ?c1 ?c2 ?c3 ?c4 ?c5 ?_)
   case c1 => exact cell_one_new _ _ _
   case c2 => simp [Value.oneCell']
   case c3 => unfold maxLen; omega
   case c4 => omega
   case c5 => simp; omega
   intro v' w1 hown1 hgrow _
   go_wp2
   go_roundw
   case rel =>
    refine ⟨pre ++ [(r : Int) % 128 + 128], r / 128, by go_num, ?_, by simp; omega, ?_, ?_, ((B.alloc Bs _).grown hgrow (by simp; omega) (own_base hown))⟩
    ·have h1 := hx.out;rw [show 8 - pre.length = (8 - (pre ++ [(r : Int) % 128 + 128]).length) + 1 by simp; omega, encI_large _ r hc] at h1;show _ = _;rw [← h1]; simp
    ·have h1 := hr.out;rw [show 9 - pre.length = (9 - (pre ++ [(r : Int) % 128 + 128]).length) + 1 by simp; omega, Nat.pow_succ] at h1;exact Nat.div_lt_of_lt_mul (by omega)
    ·unfold OwnB;rw [List.length_append, List.map_append];exact hown1
   case measure => simp [intOf]; omega
  ·have hfin : encI 8 (foldI x) = pre ++ [(r : Int)] := by rw [← hx.out, encI_small _ r (by omega)]
   have hfin := Lib.hid hfin;have hlen : (putL x).length = pre.length + 1 := by
    have := enc_lens x;rw [hfin.out, List.length_append] at this;exact this.symm
   have hlen := Lib.hid hlen
   go_wp2_with (at_builtin; refine wpList_append_own _ rfl _ _ 62 rfl w.heap.size 5 i0 (.int .u8 0) 1 1 Tryz.underlying62 hi hz0 hz1 hz2 rfl (by decide) _ _ _ rfl (hown.alloc _) ⟨wr.heap.size, 0, none⟩ 1 1 [.int .u8 (r : Int)] rfl rfl ?c1 ?c2 ?c3 ?c4 ?c5 ?_)
   case c1 => exact cell_one_new _ _ _
   case c2 => simp [Value.oneCell']
   case c3 => unfold maxLen; omega
   case c4 => omega
   case c5 => simp; omega
   intro v' w1 hown1 hgrow _;obtain ⟨g, cap, rfl⟩ := ownsRow_succ hown1;have hO : OwnB w1 w.heap.size (.slice (some ⟨g, 0, none⟩) (pre.length + 1) cap) (encI 8 (foldI x)) := by
    unfold OwnB;rw [hfin.out, List.length_append, List.map_append];exact hown1
   have hcv := hO.string rfl hlen.out.symm;have hO := Lib.hid hO
   go_wp2
   go_ret2;exact ⟨rfl, ((B.alloc Bs _).grown hgrow (by simp; omega) (own_base hown))⟩

theorem RInt_arg (s : ByteArray) (at_ : Int) (w : World) (_hs : s.size ≤ maxLen) (h : at_ < 0 ∨ (s.size : Int) < at_) (h1 : -9223372036854775808 ≤ at_) (h2 : at_ ≤ 9223372036854775807) :
  Calls Tryz.prog 97 #[.string s, .int .i64 at_] w fun e w' => e = .returned (.tuple #[.int .i64 0, .int .i64 0, .int .i64 2]) ∧ w = w' := by
 unfold maxLen at _hs;by_cases hc : at_ < 0
 ·go_enter Tryz.func97, Tryz.ntmps97
  go_wp2
  go_ret3;exact ⟨rfl, rfl⟩
 ·have hc' : (s.size : Int) < at_ := by omega
  go_enter Tryz.func97, Tryz.ntmps97
  go_wp2
  go_ret3;exact ⟨rfl, rfl⟩

theorem getL_jr (l : List UInt8) (a : Nat) (p : Nat × Nat) (h : jn 9 true (l.drop a) = some p) : getL l a = if p.1 ≤ 9223372036854775806 then some (unfoldI p.1, a + p.2) else none := by
 unfold getL; rw [h]
theorem JI_jn (L : List UInt8) (k z : Nat) (c : UInt8) (r : List UInt8) (hk : k < 9) (h : JI L k z) (hd : L.drop k = c :: r) (hc : c.toNat < 128) :
  jn 9 true L = if c.toNat = 0 ∧ 0 < k then none else some (z + c.toNat % 128 * 128 ^ k, k + 1) := by
 rw [JI_open L k z c r hk h hd, if_neg (by omega)];by_cases h0 : c.toNat = 0 ∧ 0 < k
 ·rw [if_pos h0, if_pos ⟨h0.1, by simp; omega⟩]; rfl
 ·rw [if_neg h0, if_neg (by rintro ⟨a, b⟩; exact h0 ⟨a, by simp at b; omega⟩)]
  simp
  rw [Nat.mod_eq_of_lt hc, Nat.mul_comm]
/-- Where the groups end: what the number is, and what the reference compares. -/
theorem ref_stop (L : List UInt8) (a k z : Nat) (c : UInt8) (r : List UInt8) (hk : k < 9) (h : JI (L.drop a) k z) (hd : (L.drop a).drop k = c :: r) (hc : c.toNat < 128) :
  z + c.toNat % 128 * 128 ^ k < 128 ^ 9 ∧
  ((∃ n m, getL L a = some (n, m) ∧ z + c.toNat % 128 * 128 ^ k ≤ 9223372036854775806 ∧ unfoldI (z + c.toNat % 128 * 128 ^ k) = n ∧ m = a + (k + 1) ∧ (L.drop a).take (k + 1) = putL n) ∨
     (getL L a = none ∧ (z + c.toNat % 128 * 128 ^ k ≤ 9223372036854775806 → (L.drop a).take (k + 1) ≠ putL (unfoldI (z + c.toNat % 128 * 128 ^ k))))) := by
 have hlt : z + c.toNat % 128 * 128 ^ k < 128 ^ 9 := by
  have h1 := h.1;have h2 : c.toNat % 128 * 128 ^ k ≤ 127 * 128 ^ k := Nat.mul_le_mul_right _ (by omega);have h3 : 128 ^ (k + 1) ≤ 128 ^ 9 := Nat.pow_le_pow_right (by omega) (by omega);rw [Nat.pow_succ] at h3;omega
 refine ⟨hlt, ?_⟩;have hj := JI_jn _ k z c r hk h hd hc;generalize z + c.toNat % 128 * 128 ^ k = q at *
 by_cases h0 : c.toNat = 0 ∧ 0 < k
 ·rw [if_pos h0] at hj
  right
  refine ⟨by unfold getL; rw [hj], fun hq he => ?_⟩;have e : L.drop a = putL (unfoldI q) ++ (L.drop a).drop (k + 1) := by rw [← he, List.take_append_drop]
  unfold putL at e;rw [fold_unfold] at e;have := jn_enc 8 q true ((L.drop a).drop (k + 1)) hlt (.inl rfl);rw [← e, hj] at this;cases this
 ·rw [if_neg h0] at hj;have hg := getL_jr L a _ hj;by_cases hq : q ≤ 9223372036854775806
  ·left
   rw [if_pos hq] at hg;obtain ⟨s1, s2, s3, s4, _⟩ := jn_sound 8 true _ _ _ hj;exact ⟨_, _, hg, hq, rfl, rfl, by rw [s3, putL, fold_unfold]⟩
  ·right
   rw [if_neg hq] at hg;exact ⟨hg, fun h => absurd h hq⟩
theorem ref_end (L : List UInt8) (a k z : Nat) (h : JI (L.drop a) k z) (he : k = 9 ∨ (L.drop a).drop k = []) : getL L a = none := by
 have : jn 9 true (L.drop a) = none := by
  rw [h.2];rcases he with rfl | he
  ·simp [jn]
  ·rw [he];cases h : 9 - k <;> simp [jn]
 unfold getL; rw [this]
theorem data_len (s : ByteArray) : s.data.toList.length = s.size := by simp

theorem unfold_odd (q : Nat) (h : q % 2 = 1) : unfoldI q = -((q : Int) / 2) - 1 := by rw [unfoldI, if_pos h]; simp
theorem unfold_even (q : Nat) (h : ¬ q % 2 = 1) : unfoldI q = (q : Int) / 2 := by rw [unfoldI, if_neg h]; simp

theorem RInt_none (s : ByteArray) (a : Nat) (w : World) (hs : s.size ≤ 140737488351232) (ha : a ≤ s.size) (hg : getL s.data.toList a = none) :
  Calls Tryz.prog 97 #[.string s, .int .i64 a] w fun e w' => e = .returned (.tuple #[.int .i64 0, .int .i64 0, .int .i64 10]) ∧ Below w.heap.size w w' := by
 have d1 : decide ((a : Int) < 0) = false := by simp
 have d2 : decide ((s.size : Int) < (a : Int)) = false := by simp; omega
 have d3 : decide (s.size < a) = false := by simp; omega
 have h := Lib.hid hg;clear hg;go_enter Tryz.func97, Tryz.ntmps97
 go_wp2
 go_loop [7, 8] (fun z i => ∃ k zn : Nat, k ≤ 9 ∧ a + k ≤ s.size ∧ i = .int .i64 k ∧ z = .int .u64 zn ∧ JI (s.data.toList.drop a) k zn) (fun _ i => 9 - (intOf i).toNat)
 case atStart => exact ⟨0, 0, by omega, by omega, rfl, rfl, JI_start _⟩
 case round =>
  obtain ⟨k, z, hk, hak, rfl, rfl, hj0⟩ := hrel;have hj := Lib.hid hj0;clear hj0;by_cases hlt : k < 9 ∧ a + k < s.size
  ·obtain ⟨hk9, hks⟩ := hlt;have hd0 : (s.data.toList.drop a).drop k = s[a + k] :: s.data.toList.drop (a + k + 1) := by rw [List.drop_drop, drop_at s (a + k) hks]
   have hd := Lib.hid hd0;clear hd0;have hw := wrap_sum k z s[a + k].toNat hk9 hj.out.1;have hb : (s[a + k].toNat : Int) < 256 := by have : s[a + k].toNat < 256 := s[a + k].toNat_lt; omega
   by_cases hc0 : 128 ≤ s[a + k].toNat
   ·have hc := Lib.hid hc0;have hc1 : (128 : Int) ≤ (s[a + k].toNat : Int) := by omega
    clear hc0
    go_wp2
    go_round
    case rel => exact ⟨k + 1, z + s[a + k].toNat % 128 * 128 ^ k, by omega, by omega, by go_num, by simp, JI_go _ k z _ _ hk9 hj.out hd.out (by rw [List.drop_drop]; rfl) hc.out⟩
    case measure => simp [intOf]; omega
   ·have hc1 : (s[a + k].toNat : Int) < 128 := by omega
    have hst := ref_stop s.data.toList a k z _ _ hk9 hj.out hd.out (by omega);clear hc0;have hq0 : ∃ q, q = z + s[a + k].toNat % 128 * 128 ^ k := ⟨_, rfl⟩;obtain ⟨q, hq0⟩ := hq0;rw [← hq0] at hst hw;obtain ⟨hql, hst⟩ := hst;rw [pow9] at hql;have hq := Lib.hid hq0;clear hq0;have hst2 : q ≤ 9223372036854775806 → (s.data.toList.drop a).take (k + 1) ≠ putL (unfoldI q) := by
     rcases hst with ⟨n, m, e, _⟩ | ⟨_, e⟩
     ·rw [h.out] at e; cases e
     ·exact e
    have hst3 := Lib.hid hst2;clear hst2 hst;by_cases hqm : q ≤ 9223372036854775806
    ·have hub := unfold_bd q hqm;have hne : (putL (unfoldI q) == (s.extract a (a + k + 1)).toList) = false := by
      rw [beq_eq_false_iff_ne, Lib.toList_data, Lib.extract_data, show a + k + 1 - a = k + 1 by omega];exact fun e => hst3.out hqm e.symm
     have hPI := fun W => RPutInt_any (unfoldI q) W hub.1 hub.2;by_cases hpar : q % 2 = 1
     ·rw [unfold_odd q hpar] at hne hPI hub;have t1 : ((q : Int) % 2 == 1) = true := beq_iff_eq.2 (by omega);have hP := Lib.hid hPI;clear hPI hpar;obtain ⟨hub1, hub2⟩ := hub;go_wp2_with fail;refine (hP.out _).mono ?_;rintro e w2 ⟨rfl, hb2⟩
      go_wp2
      go_ret3;exact ⟨rfl, hb2⟩
     ·rw [unfold_even q hpar] at hne hPI hub;have t1 : ((q : Int) % 2 == 1) = false := beq_eq_false_iff_ne.2 (by omega);have hP := Lib.hid hPI;clear hPI hpar;obtain ⟨hub1, hub2⟩ := hub;go_wp2_with fail;refine (hP.out _).mono ?_;rintro e w2 ⟨rfl, hb2⟩
      go_wp2
      go_ret3;exact ⟨rfl, hb2⟩
    ·have t1 : ((q : Int) % 2 == 1) = true := beq_iff_eq.2 (by omega);have hqe : q = 9223372036854775807 := by omega
     have hPI := fun W => RPutInt_bad (-((q : Int) / 2) - 1) W (by omega) (by omega) (by omega);have hP := Lib.hid hPI;have hq3 := Lib.hid hqe;clear hPI hqe;go_wp2_with fail;refine (hP.out _).mono ?_;rintro e w2 ⟨rfl, hb2⟩
     go_wp2
     go_ret3;exact ⟨rfl, hb2⟩
  ·have hge := ref_end s.data.toList a k z hj.out (by
    by_cases e : k < 9
    ·right; rw [List.drop_drop]; exact List.drop_of_length_le (by rw [data_len]; omega)
    ·left; omega)
   clear hge;by_cases e : k < 9
   ·have e2 : ¬ a + k < s.size := fun e2 => hlt ⟨e, e2⟩;clear hlt
    go_wp2
    go_ret3;exact ⟨rfl, Below.refl _ _⟩
   ·clear hlt
    go_wp2
    go_ret3;exact ⟨rfl, Below.refl _ _⟩

theorem RInt_ok (s : ByteArray) (a : Nat) (n : Int) (m : Nat) (w : World) (hs : s.size ≤ 140737488351232) (ha : a ≤ s.size) (hg : getL s.data.toList a = some (n, m)) :
  Calls Tryz.prog 97 #[.string s, .int .i64 a] w fun e w' => e = .returned (.tuple #[.int .i64 n, .int .i64 m, .int .i64 0]) ∧ Below w.heap.size w w' := by
 have d1 : decide ((a : Int) < 0) = false := by simp
 have d2 : decide ((s.size : Int) < (a : Int)) = false := by simp; omega
 have d3 : decide (s.size < a) = false := by simp; omega
 have h := Lib.hid hg;clear hg;go_enter Tryz.func97, Tryz.ntmps97
 go_wp2
 go_loop [7, 8] (fun z i => ∃ k zn : Nat, k ≤ 9 ∧ a + k ≤ s.size ∧ i = .int .i64 k ∧ z = .int .u64 zn ∧ JI (s.data.toList.drop a) k zn) (fun _ i => 9 - (intOf i).toNat)
 case atStart => exact ⟨0, 0, by omega, by omega, rfl, rfl, JI_start _⟩
 case round =>
  obtain ⟨k, z, hk, hak, rfl, rfl, hj0⟩ := hrel;have hj := Lib.hid hj0;clear hj0;by_cases hlt : k < 9 ∧ a + k < s.size
  ·obtain ⟨hk9, hks⟩ := hlt;have hd0 : (s.data.toList.drop a).drop k = s[a + k] :: s.data.toList.drop (a + k + 1) := by rw [List.drop_drop, drop_at s (a + k) hks]
   have hd := Lib.hid hd0;clear hd0;have hw := wrap_sum k z s[a + k].toNat hk9 hj.out.1;have hb : (s[a + k].toNat : Int) < 256 := by have : s[a + k].toNat < 256 := s[a + k].toNat_lt; omega
   by_cases hc0 : 128 ≤ s[a + k].toNat
   ·have hc := Lib.hid hc0;have hc1 : (128 : Int) ≤ (s[a + k].toNat : Int) := by omega
    clear hc0
    go_wp2
    go_round
    case rel => exact ⟨k + 1, z + s[a + k].toNat % 128 * 128 ^ k, by omega, by omega, by go_num, by simp, JI_go _ k z _ _ hk9 hj.out hd.out (by rw [List.drop_drop]; rfl) hc.out⟩
    case measure => simp [intOf]; omega
   ·have hc1 : (s[a + k].toNat : Int) < 128 := by omega
    have hst := ref_stop s.data.toList a k z _ _ hk9 hj.out hd.out (by omega);clear hc0;have hq0 : ∃ q, q = z + s[a + k].toNat % 128 * 128 ^ k := ⟨_, rfl⟩;obtain ⟨q, hq0⟩ := hq0;rw [← hq0] at hst hw;obtain ⟨hql, hst⟩ := hst;rw [pow9] at hql;have hq := Lib.hid hq0;clear hq0;have hst2 : q ≤ 9223372036854775806 ∧ unfoldI q = n ∧ m = a + (k + 1) ∧ (s.data.toList.drop a).take (k + 1) = putL (unfoldI q) := by
     rcases hst with ⟨n', m', e, e1, e2, e3, e4⟩ | ⟨e, _⟩
     ·rw [h.out] at e;simp only [Option.some.injEq, Prod.mk.injEq] at e;obtain ⟨rfl, rfl⟩ := e;exact ⟨e1, e2, e3, by rw [e4, e2]⟩
     ·rw [h.out] at e; cases e
    clear hst;obtain ⟨hqm, hun, hm0, hst2⟩ := hst2;subst hm0;have hub := unfold_bd q hqm;have hne : (putL (unfoldI q) == (s.extract a (a + k + 1)).toList) = true := by
     rw [Lib.toList_data, Lib.extract_data, show a + k + 1 - a = k + 1 by omega, hst2]; simp
    have hPI := fun W => RPutInt_any (unfoldI q) W hub.1 hub.2;clear hst2;by_cases hpar : q % 2 = 1
    ·rw [unfold_odd q hpar] at hun;have hun2 := Lib.hid hun;clear hun;rw [unfold_odd q hpar] at hne hPI hub;have t1 : ((q : Int) % 2 == 1) = true := beq_iff_eq.2 (by omega);have hP := Lib.hid hPI;clear hPI hpar;obtain ⟨hub1, hub2⟩ := hub;go_wp2_with fail;refine (hP.out _).mono ?_;rintro e w2 ⟨rfl, hb2⟩
     go_wp2
     go_ret3;exact ⟨by rw [← hun2.out, Int.natCast_add]; simp [Int.add_assoc], hb2⟩
    ·rw [unfold_even q hpar] at hun;have hun2 := Lib.hid hun;clear hun;rw [unfold_even q hpar] at hne hPI hub;have t1 : ((q : Int) % 2 == 1) = false := beq_eq_false_iff_ne.2 (by omega);have hP := Lib.hid hPI;clear hPI hpar;obtain ⟨hub1, hub2⟩ := hub;go_wp2_with fail;refine (hP.out _).mono ?_;rintro e w2 ⟨rfl, hb2⟩
     go_wp2
     go_ret3;exact ⟨by rw [← hun2.out, Int.natCast_add]; simp [Int.add_assoc], hb2⟩
  ·have hge := ref_end s.data.toList a k z hj.out (by
    by_cases e : k < 9
    ·right; rw [List.drop_drop]; exact List.drop_of_length_le (by rw [data_len]; omega)
    ·left; omega)
   rw [h.out] at hge;cases hge
end Go.Proofs.YtlaldnlgapeckaaGreat
