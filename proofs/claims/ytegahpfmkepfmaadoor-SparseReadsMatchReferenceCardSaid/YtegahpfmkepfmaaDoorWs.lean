import Derived.Test.YtegahpfmkepfmaaDoorWc
import Derived.RegionTactic
import Derived.ChangeAlike
import Derived.BigRegion
import Derived.Deep.QuietTactic
import Derived.BigQuiet
import Derived.RangeFuncBox
import Derived.Maps.AppendAt
namespace Go.Proofs.YtegahpfmkepfmaaDoor.Wr
open Go.RowKit
theorem info5 : (Tryd.prog.info? 5).map (fun i => (i.zero, i.size, i.bytes)) = some (some (.int .u8 0), 1, 1) := by kernel_rfl

theorem zigzag_any (n : Int) (w : World) (h1 : -4611686018427387903 ≤ n) (h2 : n ≤ 4611686018427387903) :
    Calls Tryd.prog 95 #[.int .i64 n] w fun e w' => e = .returned (.int .u64 (foldI n)) ∧ w = w' := by
  by_cases h : n < 0
  · go_enter Tryd.func95, Tryd.ntmps95
    go_wp2
    go_ret
    exact ⟨ret_int (by rw [foldI, if_pos h]; omega), rfl⟩
  · go_enter Tryd.func95, Tryd.ntmps95
    go_wp2
    go_ret
    exact ⟨ret_int (by rw [foldI, if_neg (by omega)]; omega), rfl⟩
theorem RPutInt_bad (x : Int) (w : World) (h : x < -4611686018427387903 ∨ 4611686018427387903 < x) (h1 : -9223372036854775808 ≤ x) (h2 : x ≤ 9223372036854775807) :
    Calls Tryd.prog 85 #[.int .i64 x] w fun e w' => e = .returned (.tuple #[.string ⟨#[]⟩, .int .i64 10]) ∧ Below w.heap.size w w' := by
  by_cases hc : x < -4611686018427387903
  · go_enter Tryd.func85, Tryd.ntmps85
    go_wp2
    go_ret2
    exact ⟨rfl, Below.refl _ _⟩
  · have hc' : 4611686018427387903 < x := by omega
    go_enter Tryd.func85, Tryd.ntmps85
    go_wp2
    go_ret2
    exact ⟨rfl, Below.refl _ _⟩
/-- the slice v holds the numbers l, as bytes -/
def OwnB (W : World) (base : Nat) (v : Value) (l : List Int) : Prop := W.ownsRow base 5 1 v l.length (l.map (Value.int .u8))
theorem OwnB.string {W : World} {base : Nat} {v : Value} {x : Int} {g cap k : Nat} (h : OwnB W base v (encI 8 (foldI x))) (hv : v = .slice (some ⟨g, 0, none⟩) k cap) (hk : k = (putL x).length) :
    (convert 93 9 (.slice (some ⟨g, 0, none⟩) k cap)).run Tryd.prog W = .ok (.string ⟨(putL x).toArray⟩) W := by
  subst hv hk
  unfold OwnB at h
  rw [enc_lens] at h
  refine run_convert_bytes_back (P := Tryd.prog) W 93 9 5 ⟨g, 0, none⟩ cap (putL x) Tryd.underlying93 Tryd.underlying5 Tryd.underlying9 (fun j hj => ?_)
  have e : (Addr.add ⟨g, 0, none⟩ j) = ⟨g, j, none⟩ := by
    unfold Addr.add
    split
    · rename_i e; rw [e]
    · simp
  rw [e, h.cellAt j (by omega)]
  have e2 : (encI 8 (foldI x))[j]? = some ((putL x)[j].toNat : Int) := by
    unfold encI
    rw [List.getElem?_map]
    show ((putL x)[j]?).map _ = _
    rw [List.getElem?_eq_getElem hj]; rfl
  rw [List.getElem?_map, e2]; rfl

theorem own_base {W : World} {base n : Nat} {e : TypeId} {size : Nat} {v : Value} {xs : List Value} (h : W.ownsRow base e size v n xs) (k : Nat) (hk : v.ownBlock = some k) : base ≤ k := by
  rcases h.2 with ⟨rfl, _⟩ | ⟨g, cap, cur, rfl, hg, _⟩
  · simp [Value.ownBlock] at hk
  · simp [Value.ownBlock] at hk; omega

set_option maxRecDepth 100000 in
set_option maxHeartbeats 1000000 in
theorem RPutInt_any (x : Int) (w : World) (h1 : -4611686018427387903 ≤ x) (h2 : x ≤ 4611686018427387903) :
    Calls Tryd.prog 85 #[.int .i64 x] w fun e w' => e = .returned (.tuple #[.string ⟨(putL x).toArray⟩, .int .i64 0]) ∧ Below w.heap.size w w' := by
  have hz := lt_pow9 _ (fold_lt x h1 h2)
  have hz := Lib.hid hz
  obtain ⟨i0, hi, hz0, hz1, hz2⟩ := info_parts info5
  have d1 : decide (x < -4611686018427387903) = false := by simp; omega
  have d2 : decide (4611686018427387903 < x) = false := by simp; omega
  go_enter Tryd.func85, Tryd.ntmps85
  go_wp2_with fail
  refine (zigzag_any _ _ h1 h2).mono ?_
  rintro e w1 ⟨rfl, rfl⟩
  go_wp2_with fail
  go_loopw [4, 5] (fun zv v wr => ∃ (pre : List Int) (r : Nat), zv = .int .u64 r ∧ Hid (pre ++ encI (8 - pre.length) r = encI 8 (foldI x)) ∧ pre.length ≤ 8 ∧ Hid (r < 128 ^ (9 - pre.length)) ∧ OwnB wr w.heap.size v pre ∧ Below w.heap.size w wr) (fun zv _ _ => (intOf zv).toNat)
  case atStart => exact ⟨[], foldI x, rfl, rfl, by simp, hz.out, World.ownsRow_nil _ _ _ _, Below.refl _ _⟩
  case round =>
    obtain ⟨pre, r, rfl, hx, hl, hr, hown, B⟩ := hrel
    have hrb : r < 9223372036854775808 := by
      have h1 := hr.out
      have h2 : 128 ^ (9 - pre.length) ≤ 128 ^ 9 := Nat.pow_le_pow_right (by omega) (by omega)
      rw [pow9] at h2
      omega
    have Bs := B.size
    unfold OwnB at hown
    by_cases hc : 128 ≤ r
    · have hlen : pre.length < 8 := by
        have h1 := hr.out
        have : pre.length ≠ 8 := fun e => by rw [e] at h1; omega
        omega
      go_wp2_with (at_builtin; refine wpList_append_own _ rfl _ _ 93 rfl w.heap.size 5 i0 (.int .u8 0) 1 1 Tryd.underlying93 hi hz0 hz1 hz2 rfl (by decide) _ _ _ rfl (hown.alloc _) ⟨wr.heap.size, 0, none⟩ 1 1 [.int .u8 ((r : Int) % 128 + 128)] rfl rfl ?c1 ?c2 ?c3 ?c4 ?c5 ?_)
      case c1 => exact cell_one_new _ _ _
      case c2 => simp [Value.oneCell']
      case c3 => unfold maxLen; omega
      case c4 => omega
      case c5 => simp; omega
      intro v' w1 hown1 hgrow _
      go_wp2
      go_roundw
      case rel =>
        refine ⟨pre ++ [(r : Int) % 128 + 128], r / 128, by go_num, ?_, by simp; omega, ?_, ?_, ((B.alloc Bs _).grown hgrow (by simp; omega) (own_base hown))⟩
        · have h1 := hx.out
          rw [show 8 - pre.length = (8 - (pre ++ [(r : Int) % 128 + 128]).length) + 1 by simp; omega, encI_large _ r hc] at h1
          show _ = _
          rw [← h1]; simp
        · have h1 := hr.out
          rw [show 9 - pre.length = (9 - (pre ++ [(r : Int) % 128 + 128]).length) + 1 by simp; omega, Nat.pow_succ] at h1
          exact Nat.div_lt_of_lt_mul (by omega)
        · unfold OwnB
          rw [List.length_append, List.map_append]
          exact hown1
      case measure => simp [intOf]; omega
    · have hfin : encI 8 (foldI x) = pre ++ [(r : Int)] := by rw [← hx.out, encI_small _ r (by omega)]
      have hfin := Lib.hid hfin
      have hlen : (putL x).length = pre.length + 1 := by
        have := enc_lens x
        rw [hfin.out, List.length_append] at this
        exact this.symm
      have hlen := Lib.hid hlen
      go_wp2_with (at_builtin; refine wpList_append_own _ rfl _ _ 93 rfl w.heap.size 5 i0 (.int .u8 0) 1 1 Tryd.underlying93 hi hz0 hz1 hz2 rfl (by decide) _ _ _ rfl (hown.alloc _) ⟨wr.heap.size, 0, none⟩ 1 1 [.int .u8 (r : Int)] rfl rfl ?c1 ?c2 ?c3 ?c4 ?c5 ?_)
      case c1 => exact cell_one_new _ _ _
      case c2 => simp [Value.oneCell']
      case c3 => unfold maxLen; omega
      case c4 => omega
      case c5 => simp; omega
      intro v' w1 hown1 hgrow _
      obtain ⟨g, cap, rfl⟩ := ownsRow_succ hown1
      have hO : OwnB w1 w.heap.size (.slice (some ⟨g, 0, none⟩) (pre.length + 1) cap) (encI 8 (foldI x)) := by
        unfold OwnB
        rw [hfin.out, List.length_append, List.map_append]
        exact hown1
      have hcv := hO.string rfl hlen.out.symm
      have hO := Lib.hid hO
      go_wp2
      go_ret2
      exact ⟨rfl, ((B.alloc Bs _).grown hgrow (by simp; omega) (own_base hown))⟩
end Go.Proofs.YtegahpfmkepfmaaDoor.Wr
