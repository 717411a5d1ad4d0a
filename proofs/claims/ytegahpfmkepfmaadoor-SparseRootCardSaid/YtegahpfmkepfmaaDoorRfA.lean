import Derived.Test.YtegahpfmkepfmaaDoorMix
namespace Go.Proofs.YtegahpfmkepfmaaDoor.R2
open Go.RowKit

theorem rotated_any (x n : Nat) (w : World) (hx : x < 4294967296) (h1 : 1 ≤ n) (h2 : n ≤ 31) :
    Calls Tryd.prog 86 #[.int .u32 x, .int .i64 n] w fun e w' => e = .returned (.int .u32 (rot x n)) ∧ ∃ m, w' = w.drewN m := by
  go_enter Tryd.func86, Tryd.ntmps86
  go_wp2_with fail
  go_quiet (fail)
  go_wp2
  go_ret
  refine ⟨ret_int ?_, _, rfl⟩
  rw [rot, ← u32_or_nat _ _ (Nat.lt_of_le_of_lt (Nat.div_le_self _ _) hx) (Nat.mod_lt _ (by decide))]
  simp

set_option maxRecDepth 100000 in
theorem constants_any (w : World) :
    Calls Tryd.prog 87 #[] w fun e w' => e = .returned (.slice (some ⟨w.heap.size, 0, none⟩) 64 64) ∧ w.alloc (.cells (cW kN).toArray 106) = w' := by
  go_enter Tryd.func87, Tryd.ntmps87
  go_wp2
  go_ret
  exact ⟨rfl, rfl⟩

/-- bytes in a row of the call's own -/
def OwnB (W : World) (base : Nat) (v : Value) (l : List UInt8) : Prop := W.ownsRow base 5 1 v l.length (cB l)
theorem own_base {W : World} {base n : Nat} {e : TypeId} {size : Nat} {v : Value} {xs : List Value} (h : W.ownsRow base e size v n xs) (k : Nat) (hk : v.ownBlock = some k) : base ≤ k := by
  rcases h.2 with ⟨rfl, _⟩ | ⟨g, cap, cur, rfl, hg, _⟩
  · simp [Value.ownBlock] at hk
  · simp [Value.ownBlock] at hk; omega
theorem info5 : (Tryd.prog.info? 5).map (fun i => (i.zero, i.size, i.bytes)) = some (some (.int .u8 0), 1, 1) := by kernel_rfl

/-- 'append(b, x)' of one byte to bytes of the call's own. -/
theorem wpList_appB {ops : Array Oper} {rest : List Oper} {o : Oper} {a : Act} {Q : Exit → Act → World → Prop} (W0 w : World) (s x : Operand) (l : List UInt8) (b : UInt8) (hgd : o.guard = none)
    (ho : o.op = .call { callee := .builtin .append, args := #[s, x], argTypes := #[93, 93] }) (y : Int)
    (v : Value) (hown : OwnB w W0.heap.size v l) (hs : a.eval s = v) (hx : a.eval x = .slice (some ⟨w.heap.size, 0, none⟩) 1 1) (hy : y = (b.toNat : Int)) (hl : l.length ≤ 1000000000) (B : Below W0.heap.size W0 w)
    (h : ∀ (g cap : Nat) (w' : World), OwnB w' W0.heap.size (.slice (some ⟨g, 0, none⟩) (l.length + 1) cap) (l ++ [b]) → Below W0.heap.size W0 w' → wpList Tryd.prog ops Q rest (a.put o.dst (.slice (some ⟨g, 0, none⟩) (l.length + 1) cap)) w') :
    wpList Tryd.prog ops Q (o :: rest) a (w.alloc (.cells #[.int .u8 y] 5)) := by
  obtain ⟨i0, hi, hz0, hz1, hz2⟩ := info_parts info5
  subst hy
  unfold OwnB at hown
  refine wpList_append_own _ hgd s x 93 ho W0.heap.size 5 i0 (.int .u8 0) 1 1 Tryd.underlying93 hi hz0 hz1 hz2 rfl (by decide) v l.length _ hs (hown.alloc _) ⟨w.heap.size, 0, none⟩ 1 1 [.int .u8 (b.toNat : Int)] hx rfl (cell_one_new _ _ _) (by simp [Value.oneCell']) (by unfold maxLen; omega) (by omega) (by have := B.size; simp; omega) ?_
  intro v' w' hown1 hgrow _
  obtain ⟨g, cap, rfl⟩ := ownsRow_succ hown1
  refine h g cap w' ?_ ((B.alloc B.size _).grown hgrow (by have := B.size; simp; omega) (own_base hown))
  unfold OwnB
  rw [List.length_append, cB, List.map_append]
  exact hown1

theorem take_succ' (s : ByteArray) (k : Nat) (h : k < s.size) : s.data.toList.take (k + 1) = s.data.toList.take k ++ [s[k]] := by
  rw [List.take_succ_eq_append_getElem (by simpa using h)]; rfl

theorem lens_val (n k : Nat) : (8 * (n : Int)) / 2 ^ (8 * (7 - k)) % 256 = ((UInt8.ofNat (8 * n / 2 ^ (8 * (7 - k)) % 256)).toNat : Int) := by
  have h : 8 * n / 2 ^ (8 * (7 - k)) % 256 < 256 := Nat.mod_lt _ (by decide)
  rw [UInt8.toNat_ofNat', Nat.mod_eq_of_lt h]
  simp
/-- a slice's length -/
def lenOf : Value → Nat | .slice _ n _ => n | _ => 0
theorem zeros_snoc (k : Nat) : List.replicate k (0 : UInt8) ++ [0] = List.replicate (k + 1) 0 := by rw [List.replicate_succ']

set_option maxRecDepth 100000 in
set_option maxHeartbeats 1000000 in
theorem extended_any (s : ByteArray) (w : World) (hs : s.size ≤ 1000000) :
    Calls Tryd.prog 74 #[.string s] w fun e w' => ∃ v, e = .returned v ∧ OwnB w' w.heap.size v (ext s.data.toList) ∧ Below w.heap.size w w' := by
  go_enter Tryd.func74, Tryd.ntmps74
  go_wp2
  go_loopw [3, 4] (fun v i wr => ∃ (k : Nat) (l : List UInt8), k ≤ s.size ∧ i = .int .i64 k ∧ Hid (l = s.data.toList.take k) ∧ OwnB wr w.heap.size v l ∧ Below w.heap.size w wr) (fun _ i _ => s.size - (intOf i).toNat)
  case atStart => exact ⟨0, [], by omega, rfl, by simp [Hid], World.ownsRow_nil _ _ _ _, Below.refl _ _⟩
  case round =>
    obtain ⟨k, l, hk, rfl, hl, hown, B⟩ := hrel
    have hll : l.length = k := by rw [hl.out]; simp; omega
    have hll2 := Lib.hid hll
    have hl9 : l.length ≤ 1000000 := by omega
    clear hll
    by_cases hlt : k < s.size
    · have ht := take_succ' s k hlt
      have ht2 := Lib.hid ht
      clear ht
      go_wp2_with (at_builtin; refine wpList_appB w wr _ _ l s[k] rfl rfl _ _ hown rfl rfl rfl ?c1 B ?_)
      case c1 => omega
      intro g cap w1 hown1 B1
      go_wp2
      go_roundw
      case rel => exact ⟨k + 1, l ++ [s[k]], by omega, by go_num, by show _ = _; rw [ht2.out, hl.out], hown1, B1⟩
      case measure => simp [intOf]; omega
    · obtain rfl : k = s.size := by omega
      go_wp2_with (at_builtin; refine wpList_appB w wr _ _ l 128 rfl rfl _ _ hown rfl rfl rfl ?c1 B ?_)
      case c1 => omega
      intro g cap w1 hown1 B1
      have hl2 : Hid (l ++ [128] = s.data.toList ++ [128]) := by show _ = _; rw [hl.out, List.take_of_length_le (by simp)]
      have hlt2 : (l ++ [128]).length = s.size + 1 := by rw [List.length_append, hll2.out]; rfl
      generalize hL : l ++ [128] = L at *
      have hll3 : l.length + 1 = L.length := by rw [← hL]; simp
      rw [hll3] at hown1
      have hll4 := Lib.hid hll3
      clear hll3
      go_wp2_with fail
      go_loopw [3] (fun v wr => ∃ (j : Nat) (l2 : List UInt8) (g cap : Nat), v = .slice (some ⟨g, 0, none⟩) l2.length cap ∧ j ≤ pad s.size ∧ Hid (l2 = s.data.toList ++ [128] ++ List.replicate j 0) ∧ OwnB wr w.heap.size (.slice (some ⟨g, 0, none⟩) l2.length cap) l2 ∧ Below w.heap.size w wr) (fun v _ => s.size + 65 - lenOf v)
      case atStart => exact ⟨0, L, g, cap, by rw [hll4.out], by omega, by show _ = _; rw [hl2.out]; simp, hown1, B1⟩
      case round =>
        obtain ⟨j, l2, g2, cap2, rfl, hj, hl3, hown2, B2⟩ := hrel
        have hlen : l2.length = s.size + 1 + j := by rw [hl3.out]; simp; omega
        have hp1 := pad_ok s.size
        have hp2 := pad_lt s.size
        by_cases hjp : j < pad s.size
        · have t1 : ((l2.length : Int) % 64 != 56) = true := by rw [bne_iff_ne]; omega
          have hlen2 := Lib.hid hlen
          have hl9 : l2.length ≤ 1000000000 := by omega
          clear hlen hp1 hp2
          go_wp2_with (at_builtin; refine wpList_appB w wr _ _ l2 0 rfl rfl _ _ hown2 rfl rfl rfl ?c1 B2 ?_)
          case c1 => omega
          intro g3 cap3 w3 hown3 B3
          have hll5 : l2.length + 1 = (l2 ++ [0]).length := by simp
          rw [hll5] at hown3
          have hl5 : Hid (l2 ++ [0] = s.data.toList ++ [128] ++ List.replicate (j + 1) 0) := by show _ = _; rw [hl3.out, ← zeros_snoc]; simp [List.append_assoc]
          generalize l2 ++ [0] = l5 at *
          have hll6 := Lib.hid hll5
          clear hll5
          go_wp2
          go_roundw
          case rel => exact ⟨j + 1, l5, g3, cap3, by rw [hll6.out], by omega, hl5, hown3, B3⟩
          case measure => (have := hlen2.out; have := pad_lt s.size; simp [lenOf]; omega)
        · obtain rfl : j = pad s.size := by omega
          have t1 : ((l2.length : Int) % 64 != 56) = false := by rw [bne_eq_false_iff_eq]; omega
          have hl9 : l2.length ≤ 1000200 := by omega
          clear hlen hp1 hp2
          obtain ⟨P, hP⟩ : ∃ P, Hid (P = s.data.toList ++ [128] ++ List.replicate (pad s.size) 0) := ⟨s.data.toList ++ [128] ++ List.replicate (pad s.size) 0, rfl⟩
          have hl7 : Hid (l2 = P ++ lens s.size 0) := by show _ = _; rw [hl3.out, hP.out]; simp [lens]
          have hPl : Hid (P.length = s.size + 1 + pad s.size) := by show _ = _; rw [hP.out]; simp; omega
          go_wp2_with fail
          go_loopw [3, 5] (fun v iv wr => ∃ (k : Nat) (l2 : List UInt8) (g cap : Nat), v = .slice (some ⟨g, 0, none⟩) l2.length cap ∧ k ≤ 8 ∧ iv = .int .i64 (7 - (k : Int)) ∧ Hid (l2 = P ++ lens s.size k) ∧ l2.length ≤ 1000200 ∧ OwnB wr w.heap.size (.slice (some ⟨g, 0, none⟩) l2.length cap) l2 ∧ Below w.heap.size w wr) (fun _ iv _ => (intOf iv + 1).toNat)
          case atStart => exact ⟨0, l2, g2, cap2, rfl, by omega, rfl, hl7, hl9, hown2, B2⟩
          case round =>
            obtain ⟨k, l8, g8, cap8, rfl, hk8, rfl, hl8, hl8l, hown8, B8⟩ := hrel
            by_cases hk7 : k < 8
            · have hv := Lib.hid (lens_val s.size k)
              go_wp2_with (at_builtin; refine wpList_appB w wr _ _ l8 _ rfl rfl _ _ hown8 rfl rfl hv.out ?c1 B8 ?_)
              case c1 => omega
              intro g9 cap9 w9 hown9 B9
              have hl10 : Hid (l8 ++ [UInt8.ofNat (8 * s.size / 2 ^ (8 * (7 - k)) % 256)] = P ++ lens s.size (k + 1)) := by show _ = _; rw [hl8.out, lens, List.append_assoc]
              have hll9 : l8.length + 1 = (l8 ++ [UInt8.ofNat (8 * s.size / 2 ^ (8 * (7 - k)) % 256)]).length := by simp
              rw [hll9] at hown9
              generalize l8 ++ [UInt8.ofNat (8 * s.size / 2 ^ (8 * (7 - k)) % 256)] = l10 at *
              have hl11 : l10.length ≤ 1000200 := by
                rw [hl10.out, List.length_append, hPl.out]
                have h1 := pad_lt s.size
                have h2 : (lens s.size (k + 1)).length = k + 1 := lens_len _ _
                omega
              have hll10 := Lib.hid hll9
              clear hll9
              go_wp2
              go_roundw
              case rel => exact ⟨k + 1, l10, g9, cap9, by rw [hll10.out], by omega, by go_num, hl10, hl11, hown9, B9⟩
              case measure => simp [intOf]; omega
            · obtain rfl : k = 8 := by omega
              go_wp2
              go_ret
              refine ⟨_, rfl, ?_, B8⟩
              have e : l8 = ext s.data.toList := by rw [hl8.out, hP.out, ext]; simp
              rw [← e]
              exact hown8
end Go.Proofs.YtegahpfmkepfmaaDoor.R2
