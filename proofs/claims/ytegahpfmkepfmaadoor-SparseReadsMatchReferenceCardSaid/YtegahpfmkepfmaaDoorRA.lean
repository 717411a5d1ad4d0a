/-  -/
import Derived.Test.YtegahpfmkepfmaaDoorMix
import Derived.Test.YtegahpfmkepfmaaDoorSch
import Derived.Deep.AppendLies
import Derived.Test.YtegahpfmkepfmaaDoorSum
namespace Go.Proofs.YtegahpfmkepfmaaDoor.R2
open Go.RowKit

theorem rotated_any (x n : Nat) (w : World) (hx : x < 4294967296) (h1 : 1 ≤ n) (h2 : n ≤ 31) :
    Calls Tryd.prog 86 #[.int .u32 x, .int .i64 n] w fun e w' => e = .returned (.int .u32 (rot x n)) ∧ ∃ m, w' = w.drewN m := by
  go_enter Tryd.func86, Tryd.ntmps86
  go_wp2_with fail
  go_quiet (fail)
  go_wp2
  go_ret
  refine ⟨ret_int ?_, _, rfl⟩
  rw [rot, ← u32_or_nat _ _ (Nat.lt_of_le_of_lt (Nat.div_le_self _ _) hx) (Nat.mod_lt _ (by decide))]
  simp

set_option maxRecDepth 100000 in
theorem constants_any (w : World) :
    Calls Tryd.prog 87 #[] w fun e w' => e = .returned (.slice (some ⟨w.heap.size, 0, none⟩) 64 64) ∧ w.alloc (.cells (cW kN).toArray 106) = w' := by
  go_enter Tryd.func87, Tryd.ntmps87
  go_wp2
  go_ret
  exact ⟨rfl, rfl⟩

/-- bytes in a row of the call's own -/
def OwnB (W : World) (base : Nat) (v : Value) (l : List UInt8) : Prop := W.ownsRow base 5 1 v l.length (cB l)
theorem own_base {W : World} {base n : Nat} {e : TypeId} {size : Nat} {v : Value} {xs : List Value} (h : W.ownsRow base e size v n xs) (k : Nat) (hk : v.ownBlock = some k) : base ≤ k := by
  rcases h.2 with ⟨rfl, _⟩ | ⟨g, cap, cur, rfl, hg, _⟩
  · simp [Value.ownBlock] at hk
  · simp [Value.ownBlock] at hk; omega
theorem info5 : (Tryd.prog.info? 5).map (fun i => (i.zero, i.size, i.bytes)) = some (some (.int .u8 0), 1, 1) := by kernel_rfl

/-- 'append(b, x)' of one byte to bytes of the call's own. -/
theorem wpList_appB {ops : Array Oper} {rest : List Oper} {o : Oper} {a : Act} {Q : Exit → Act → World → Prop} (W0 w : World) (s x : Operand) (l : List UInt8) (b : UInt8) (hgd : o.guard = none)
    (ho : o.op = .call { callee := .builtin .append, args := #[s, x], argTypes := #[93, 93] }) (y : Int)
    (v : Value) (hown : OwnB w W0.heap.size v l) (hs : a.eval s = v) (hx : a.eval x = .slice (some ⟨w.heap.size, 0, none⟩) 1 1) (hy : y = (b.toNat : Int)) (hl : l.length ≤ 1000000000) (B : Below W0.heap.size W0 w)
    (h : ∀ (g cap : Nat) (w' : World), OwnB w' W0.heap.size (.slice (some ⟨g, 0, none⟩) (l.length + 1) cap) (l ++ [b]) → Below W0.heap.size W0 w' → wpList Tryd.prog ops Q rest (a.put o.dst (.slice (some ⟨g, 0, none⟩) (l.length + 1) cap)) w') :
    wpList Tryd.prog ops Q (o :: rest) a (w.alloc (.cells #[.int .u8 y] 5)) := by
  obtain ⟨i0, hi, hz0, hz1, hz2⟩ := info_parts info5
  subst hy
  unfold OwnB at hown
  refine wpList_append_own _ hgd s x 93 ho W0.heap.size 5 i0 (.int .u8 0) 1 1 Tryd.underlying93 hi hz0 hz1 hz2 rfl (by decide) v l.length _ hs (hown.alloc _) ⟨w.heap.size, 0, none⟩ 1 1 [.int .u8 (b.toNat : Int)] hx rfl (cell_one_new _ _ _) (by simp [Value.oneCell']) (by unfold maxLen; omega) (by omega) (by have := B.size; simp; omega) ?_
  intro v' w' hown1 hgrow _
  obtain ⟨g, cap, rfl⟩ := ownsRow_succ hown1
  refine h g cap w' ?_ ((B.alloc B.size _).grown hgrow (by have := B.size; simp; omega) (own_base hown))
  unfold OwnB
  rw [List.length_append, cB, List.map_append]
  exact hown1

theorem take_succ' (s : ByteArray) (k : Nat) (h : k < s.size) : s.data.toList.take (k + 1) = s.data.toList.take k ++ [s[k]] := by
  rw [List.take_succ_eq_append_getElem (by simpa using h)]; rfl

theorem lens_val (n k : Nat) : (8 * (n : Int)) / 2 ^ (8 * (7 - k)) % 256 = ((UInt8.ofNat (8 * n / 2 ^ (8 * (7 - k)) % 256)).toNat : Int) := by
  have h : 8 * n / 2 ^ (8 * (7 - k)) % 256 < 256 := Nat.mod_lt _ (by decide)
  rw [UInt8.toNat_ofNat', Nat.mod_eq_of_lt h]
  simp
/-- a slice's length -/
def lenOf : Value → Nat | .slice _ n _ => n | _ => 0
theorem zeros_snoc (k : Nat) : List.replicate k (0 : UInt8) ++ [0] = List.replicate (k + 1) 0 := by rw [List.replicate_succ']

set_option maxRecDepth 100000 in
set_option maxHeartbeats 1000000 in
theorem extended_any (s : ByteArray) (w : World) (hs : s.size ≤ 1000000) :
    Calls Tryd.prog 74 #[.string s] w fun e w' => ∃ v, e = .returned v ∧ OwnB w' w.heap.size v (ext s.data.toList) ∧ Below w.heap.size w w' := by
  go_enter Tryd.func74, Tryd.ntmps74
  go_wp2
  go_loopw [3, 4] (fun v i wr => ∃ (k : Nat) (l : List UInt8), k ≤ s.size ∧ i = .int .i64 k ∧ Hid (l = s.data.toList.take k) ∧ OwnB wr w.heap.size v l ∧ Below w.heap.size w wr) (fun _ i _ => s.size - (intOf i).toNat)
  case atStart => exact ⟨0, [], by omega, rfl, by simp [Hid], World.ownsRow_nil _ _ _ _, Below.refl _ _⟩
  case round =>
    obtain ⟨k, l, hk, rfl, hl, hown, B⟩ := hrel
    have hll : l.length = k := by rw [hl.out]; simp; omega
    have hll2 := Lib.hid hll
    have hl9 : l.length ≤ 1000000 := by omega
    clear hll
    by_cases hlt : k < s.size
    · have ht := take_succ' s k hlt
      have ht2 := Lib.hid ht
      clear ht
      go_wp2_with (at_builtin; refine wpList_appB w wr _ _ l s[k] rfl rfl _ _ hown rfl rfl rfl ?c1 B ?_)
      case c1 => omega
      intro g cap w1 hown1 B1
      go_wp2
      go_roundw
      case rel => exact ⟨k + 1, l ++ [s[k]], by omega, by go_num, by show _ = _; rw [ht2.out, hl.out], hown1, B1⟩
      case measure => simp [intOf]; omega
    · obtain rfl : k = s.size := by omega
      go_wp2_with (at_builtin; refine wpList_appB w wr _ _ l 128 rfl rfl _ _ hown rfl rfl rfl ?c1 B ?_)
      case c1 => omega
      intro g cap w1 hown1 B1
      have hl2 : Hid (l ++ [128] = s.data.toList ++ [128]) := by show _ = _; rw [hl.out, List.take_of_length_le (by simp)]
      have hlt2 : (l ++ [128]).length = s.size + 1 := by rw [List.length_append, hll2.out]; rfl
      generalize hL : l ++ [128] = L at *
      have hll3 : l.length + 1 = L.length := by rw [← hL]; simp
      rw [hll3] at hown1
      have hll4 := Lib.hid hll3
      clear hll3
      go_wp2_with fail
      go_loopw [3] (fun v wr => ∃ (j : Nat) (l2 : List UInt8) (g cap : Nat), v = .slice (some ⟨g, 0, none⟩) l2.length cap ∧ j ≤ pad s.size ∧ Hid (l2 = s.data.toList ++ [128] ++ List.replicate j 0) ∧ OwnB wr w.heap.size (.slice (some ⟨g, 0, none⟩) l2.length cap) l2 ∧ Below w.heap.size w wr) (fun v _ => s.size + 65 - lenOf v)
      case atStart => exact ⟨0, L, g, cap, by rw [hll4.out], by omega, by show _ = _; rw [hl2.out]; simp, hown1, B1⟩
      case round =>
        obtain ⟨j, l2, g2, cap2, rfl, hj, hl3, hown2, B2⟩ := hrel
        have hlen : l2.length = s.size + 1 + j := by rw [hl3.out]; simp; omega
        have hp1 := pad_ok s.size
        have hp2 := pad_lt s.size
        by_cases hjp : j < pad s.size
        · have t1 : ((l2.length : Int) % 64 != 56) = true := by rw [bne_iff_ne]; omega
          have hlen2 := Lib.hid hlen
          have hl9 : l2.length ≤ 1000000000 := by omega
          clear hlen hp1 hp2
          go_wp2_with (at_builtin; refine wpList_appB w wr _ _ l2 0 rfl rfl _ _ hown2 rfl rfl rfl ?c1 B2 ?_)
          case c1 => omega
          intro g3 cap3 w3 hown3 B3
          have hll5 : l2.length + 1 = (l2 ++ [0]).length := by simp
          rw [hll5] at hown3
          have hl5 : Hid (l2 ++ [0] = s.data.toList ++ [128] ++ List.replicate (j + 1) 0) := by show _ = _; rw [hl3.out, ← zeros_snoc]; simp [List.append_assoc]
          generalize l2 ++ [0] = l5 at *
          have hll6 := Lib.hid hll5
          clear hll5
          go_wp2
          go_roundw
          case rel => exact ⟨j + 1, l5, g3, cap3, by rw [hll6.out], by omega, hl5, hown3, B3⟩
          case measure => (have := hlen2.out; have := pad_lt s.size; simp [lenOf]; omega)
        · obtain rfl : j = pad s.size := by omega
          have t1 : ((l2.length : Int) % 64 != 56) = false := by rw [bne_eq_false_iff_eq]; omega
          have hl9 : l2.length ≤ 1000200 := by omega
          clear hlen hp1 hp2
          obtain ⟨P, hP⟩ : ∃ P, Hid (P = s.data.toList ++ [128] ++ List.replicate (pad s.size) 0) := ⟨s.data.toList ++ [128] ++ List.replicate (pad s.size) 0, rfl⟩
          have hl7 : Hid (l2 = P ++ lens s.size 0) := by show _ = _; rw [hl3.out, hP.out]; simp [lens]
          have hPl : Hid (P.length = s.size + 1 + pad s.size) := by show _ = _; rw [hP.out]; simp; omega
          go_wp2_with fail
          go_loopw [3, 5] (fun v iv wr => ∃ (k : Nat) (l2 : List UInt8) (g cap : Nat), v = .slice (some ⟨g, 0, none⟩) l2.length cap ∧ k ≤ 8 ∧ iv = .int .i64 (7 - (k : Int)) ∧ Hid (l2 = P ++ lens s.size k) ∧ l2.length ≤ 1000200 ∧ OwnB wr w.heap.size (.slice (some ⟨g, 0, none⟩) l2.length cap) l2 ∧ Below w.heap.size w wr) (fun _ iv _ => (intOf iv + 1).toNat)
          case atStart => exact ⟨0, l2, g2, cap2, rfl, by omega, rfl, hl7, hl9, hown2, B2⟩
          case round =>
            obtain ⟨k, l8, g8, cap8, rfl, hk8, rfl, hl8, hl8l, hown8, B8⟩ := hrel
            by_cases hk7 : k < 8
            · have hv := Lib.hid (lens_val s.size k)
              go_wp2_with (at_builtin; refine wpList_appB w wr _ _ l8 _ rfl rfl _ _ hown8 rfl rfl hv.out ?c1 B8 ?_)
              case c1 => omega
              intro g9 cap9 w9 hown9 B9
              have hl10 : Hid (l8 ++ [UInt8.ofNat (8 * s.size / 2 ^ (8 * (7 - k)) % 256)] = P ++ lens s.size (k + 1)) := by show _ = _; rw [hl8.out, lens, List.append_assoc]
              have hll9 : l8.length + 1 = (l8 ++ [UInt8.ofNat (8 * s.size / 2 ^ (8 * (7 - k)) % 256)]).length := by simp
              rw [hll9] at hown9
              generalize l8 ++ [UInt8.ofNat (8 * s.size / 2 ^ (8 * (7 - k)) % 256)] = l10 at *
              have hl11 : l10.length ≤ 1000200 := by
                rw [hl10.out, List.length_append, hPl.out]
                have h1 := pad_lt s.size
                have h2 : (lens s.size (k + 1)).length = k + 1 := lens_len _ _
                omega
              have hll10 := Lib.hid hll9
              clear hll9
              go_wp2
              go_roundw
              case rel => exact ⟨k + 1, l10, g9, cap9, by rw [hll10.out], by omega, by go_num, hl10, hl11, hown9, B9⟩
              case measure => simp [intOf]; omega
            · obtain rfl : k = 8 := by omega
              go_wp2
              go_ret
              refine ⟨_, rfl, ?_, B8⟩
              have e : l8 = ext s.data.toList := by rw [hl8.out, hP.out, ext]; simp
              rw [← e]
              exact hown8
end Go.Proofs.YtegahpfmkepfmaaDoor.R2
namespace Go.Proofs.YtegahpfmkepfmaaDoor.R2
open Go.RowKit
/-- words in a row of the call's own -/
def OwnW (W : World) (base : Nat) (v : Value) (l : List Nat) : Prop := W.ownsRow base 106 1 v l.length (cW l)
theorem info106 : (Tryd.prog.info? 106).map (fun i => (i.zero, i.size, i.bytes)) = some (some (.int .u32 0), 1, 4) := by kernel_rfl
theorem ownW_cells {W : World} {base : Nat} {v : Value} {l : List Nat} (h : OwnW W base v l) (hl : l ≠ []) : ∃ g cap, v = .slice (some ⟨g, 0, none⟩) l.length cap ∧ base ≤ g ∧ g < W.heap.size ∧ l.length ≤ cap ∧
    ∀ j, j < l.length → W.cell? ⟨g, j, none⟩ = some (.int .u32 ((l.getD j 0 : Nat) : Int)) := by
  unfold OwnW at h
  rcases h.2 with ⟨rfl, h0⟩ | ⟨g, cap, cur, rfl, hb, hg, hc, hm, hs, ht⟩
  · exact absurd (List.length_eq_zero_iff.1 h0) hl
  · refine ⟨g, cap, rfl, hb, (Array.getElem?_eq_some_iff.1 hg).1, hc, fun j hj => ?_⟩
    rw [cell_of_row _ _ _ _ _ _ hg]
    have h2 : (cW l)[j]? = some (.int .u32 ((l.getD j 0 : Nat) : Int)) := by simp [cW, List.getD, List.getElem?_eq_getElem hj]
    rw [← h2, ← ht, List.getElem?_take_of_lt (by omega)]
    simp
theorem ownW_snoc {W : World} {base : Nat} {v : Value} {l : List Nat} {y : Nat} (h : W.ownsRow base 106 1 v (l.length + 1) (cW l ++ [.int .u32 (y : Int)])) : OwnW W base v (l ++ [y]) := by
  unfold OwnW
  rw [List.length_append, cW, List.map_append]
  exact h
theorem ownW_drew {W : World} {base : Nat} {v : Value} {l : List Nat} (h : OwnW W base v l) (n : Nat) : OwnW (W.drewN n) base v l := h
theorem wrapU (n : Int) : IntKind.u32.wrap n = n % 4294967296 := by simp [IntKind.wrap, IntKind.bits, IntKind.signed]
theorem rotated_lit (x : Nat) (y : Int) (w : World) (hx : x < 4294967296) (h1 : 1 ≤ y) (h2 : y ≤ 31) :
    Calls Tryd.prog 86 #[.int .u32 x, .int .i64 y] w fun e w' => e = .returned (.int .u32 (rot x y.toNat)) ∧ ∃ m, w' = w.drewN m := by
  obtain ⟨n, rfl⟩ := Int.eq_ofNat_of_zero_le (show 0 ≤ y by omega)
  exact rotated_any x n w hx (by omega) (by omega)

/-- append at the walk's list, its run known -/
theorem wpList_append_runB {P : Program} {w : World} {ops : Array Oper} {rest : List Oper} {o : Oper} {a : Act} {Q : Exit → Act → World → Prop} (hgd : o.guard = none) (s x : Operand) (t : TypeId)
    (ho : o.op = .call { callee := .builtin .append, args := #[s, x], argTypes := #[t, t] }) (u v : Value) (hs : a.eval s = u) (hx : a.eval x = v) (v' : Value) (w' : World)
    (hr : (Builtin.append_ #[t, t] o.type #[u, v]).run P w = .ok v' w') (h : wpList P ops Q rest (a.put o.dst v') w') : wpList P ops Q (o :: rest) a w := by
  refine wpList_plain hgd fun K hK => ?_
  unfold Oper.wp execOp
  simp only [ho, resolve, invoke, builtin, Sem.run_bind, Sem.run_pure, Result.andThen_ok, List.map_toArray, List.map_cons, List.map_nil, hs, hx, hr]
  exact hK _ _ h
/-- eight words lie from g, 0 on -/
def Eight (W : World) (g : Nat) (r : S8) : Prop :=
  W.cell? ⟨g, 0, none⟩ = some (.int .u32 (r.a : Int)) ∧ W.cell? ⟨g, 1, none⟩ = some (.int .u32 (r.b : Int)) ∧ W.cell? ⟨g, 2, none⟩ = some (.int .u32 (r.c : Int)) ∧ W.cell? ⟨g, 3, none⟩ = some (.int .u32 (r.d : Int)) ∧
  W.cell? ⟨g, 4, none⟩ = some (.int .u32 (r.e : Int)) ∧ W.cell? ⟨g, 5, none⟩ = some (.int .u32 (r.f : Int)) ∧ W.cell? ⟨g, 6, none⟩ = some (.int .u32 (r.g : Int)) ∧ W.cell? ⟨g, 7, none⟩ = some (.int .u32 (r.h : Int))
theorem Eight.drewN {W : World} {g : Nat} {r : S8} (h : Eight W g r) (n : Nat) : Eight (W.drewN n) g r := h
theorem Eight.at {W : World} {g : Nat} {r : S8} (h : Eight W g r) (j : Nat) (hj : j < 8) : W.cell? ⟨g, j, none⟩ = some (.int .u32 (((lst r).getD j 0 : Nat) : Int)) := by
  obtain ⟨h0, h1, h2, h3, h4, h5, h6, h7⟩ := h
  match j, hj with
  | 0, _ => exact h0
  | 1, _ => exact h1
  | 2, _ => exact h2
  | 3, _ => exact h3
  | 4, _ => exact h4
  | 5, _ => exact h5
  | 6, _ => exact h6
  | 7, _ => exact h7
theorem Eight.of {W : World} {g : Nat} {r : S8} (h : ∀ j, j < 8 → W.cell? ⟨g, j, none⟩ = some (.int .u32 (((lst r).getD j 0 : Nat) : Int))) : Eight W g r :=
  ⟨h 0 (by omega), h 1 (by omega), h 2 (by omega), h 3 (by omega), h 4 (by omega), h 5 (by omega), h 6 (by omega), h 7 (by omega)⟩
theorem plus_at (s r : S8) (j : Nat) (hj : j < 8) : (((lst s).getD j 0 : Nat) + ((lst r).getD j 0 : Nat) : Int) % 4294967296 = (((lst (plus s r)).getD j 0 : Nat) : Int) := by
  match j, hj with
  | 0, _ => exact add32_eq _ _
  | 1, _ => exact add32_eq _ _
  | 2, _ => exact add32_eq _ _
  | 3, _ => exact add32_eq _ _
  | 4, _ => exact add32_eq _ _
  | 5, _ => exact add32_eq _ _
  | 6, _ => exact add32_eq _ _
  | 7, _ => exact add32_eq _ _
theorem lst_take (r : S8) (k : Nat) (hk : k < 8) : (lst r).take (k + 1) = (lst r).take k ++ [(lst r).getD k 0] := by
  have h : k < (lst r).length := hk
  rw [List.take_succ_eq_append_getElem h]
  simp [List.getD, List.getElem?_eq_getElem h]

set_option maxRecDepth 100000 in
set_option maxHeartbeats 8000000 in
theorem block_any (bh oh ch bb ob cb : Nat) (s : S8) (bs : List UInt8) (w : World) (hs : Ok8 s) (hb1 : bh < w.heap.size) (hb2 : bb < w.heap.size) (_ : bs.length = 64) (_ : 64 ≤ cb) (_ : 8 ≤ ch)
    (hH : ∀ j, j < 8 → w.cell? ⟨bh, oh + j, none⟩ = some (.int .u32 (((lst s).getD j 0 : Nat) : Int))) (hB : ∀ j, j < 64 → w.cell? ⟨bb, ob + j, none⟩ = some (.int .u8 ((bs.getD j 0).toNat : Int))) :
    Calls Tryd.prog 75 #[.slice (some ⟨bh, oh, none⟩) 8 ch, .slice (some ⟨bb, ob, none⟩) 64 cb] w fun e w' => ∃ v, e = .returned v ∧ OwnW w' w.heap.size v (lst (comp s bs)) ∧ Below w.heap.size w w' := by
  obtain ⟨i0, hi, hz0, hz1, hz2⟩ := info_parts info106
  have hH2 := Lib.hid hH
  have hB2 := Lib.hid hB
  clear hH hB
  go_enter Tryd.func75, Tryd.ntmps75
  go_wp2
  go_loopw [5, 6] (fun v iv wr => ∃ (i : Nat), i ≤ 16 ∧ iv = .int .i64 i ∧ OwnW wr w.heap.size v (wk bs i) ∧ Below w.heap.size w wr) (fun _ iv _ => 16 - (intOf iv).toNat)
  case atStart => exact ⟨0, by omega, rfl, World.ownsRow_nil _ _ _ _, Below.refl _ _⟩
  case round =>
    obtain ⟨i, hi16, rfl, hown, B⟩ := hrel
    by_cases hlt : i < 16
    · have c0 := (B.cell (p := ⟨bb, ob + 4 * i, none⟩) hb2).trans (hB2.out (4 * i) (by omega))
      have c1 := (B.cell (p := ⟨bb, ob + (4 * i + 1), none⟩) hb2).trans (hB2.out (4 * i + 1) (by omega))
      have c2 := (B.cell (p := ⟨bb, ob + (4 * i + 2), none⟩) hb2).trans (hB2.out (4 * i + 2) (by omega))
      have c3 := (B.cell (p := ⟨bb, ob + (4 * i + 3), none⟩) hb2).trans (hB2.out (4 * i + 3) (by omega))
      have q0 : (bs.getD (4 * i) 0).toNat < 256 := UInt8.toNat_lt _
      have q1 : (bs.getD (4 * i + 1) 0).toNat < 256 := UInt8.toNat_lt _
      have q2 : (bs.getD (4 * i + 2) 0).toNat < 256 := UInt8.toNat_lt _
      have q3 : (bs.getD (4 * i + 3) 0).toNat < 256 := UInt8.toNat_lt _
      have hW : Hid (word bs i = (bs.getD (4 * i) 0).toNat * 16777216 ||| (bs.getD (4 * i + 1) 0).toNat * 65536 ||| (bs.getD (4 * i + 2) 0).toNat * 256 ||| (bs.getD (4 * i + 3) 0).toNat) := rfl
      have hnx : Hid (wk bs (i + 1) = wk bs i ++ [word bs i]) := by show _ = _; rw [wk, if_pos hlt]
      have hll : (wk bs i).length = i := wk_len _ _
      generalize wk bs i = l at *
      generalize (bs.getD (4 * i) 0).toNat = x0 at *
      generalize (bs.getD (4 * i + 1) 0).toNat = x1 at *
      generalize (bs.getD (4 * i + 2) 0).toNat = x2 at *
      generalize (bs.getD (4 * i + 3) 0).toNat = x3 at *
      have Bs := B.size
      unfold OwnW at hown
      have a0 : IntKind.i64.wrap (4 * (i : Int)) = 4 * i := IntWalk.i64_in _ (by omega)
      have a1 : IntKind.i64.wrap (4 * (i : Int) + 1) = 4 * i + 1 := IntWalk.i64_in _ (by omega)
      have a2 : IntKind.i64.wrap (4 * (i : Int) + 2) = 4 * i + 2 := IntWalk.i64_in _ (by omega)
      have a3 : IntKind.i64.wrap (4 * (i : Int) + 3) = 4 * i + 3 := IntWalk.i64_in _ (by omega)
      have n0 : (4 * (i : Int)).toNat = 4 * i := by omega
      have n1 : (4 * (i : Int) + 1).toNat = 4 * i + 1 := by omega
      have n2 : (4 * (i : Int) + 2).toNat = 4 * i + 2 := by omega
      have n3 : (4 * (i : Int) + 3).toNat = 4 * i + 3 := by omega
      have b0 : 0 ≤ 4 * (i : Int) ∧ 4 * (i : Int) < 64 := by omega
      have b1 : 0 ≤ 4 * (i : Int) + 1 ∧ 4 * (i : Int) + 1 < 64 := by omega
      have b2 : 0 ≤ 4 * (i : Int) + 2 ∧ 4 * (i : Int) + 2 < 64 := by omega
      have b3 : 0 ≤ 4 * (i : Int) + 3 ∧ 4 * (i : Int) + 3 < 64 := by omega
      have u0 : IntKind.u32.wrap (x0 : Int) = x0 := IntWalk.u32_in _ (by omega)
      have u1 : IntKind.u32.wrap (x1 : Int) = x1 := IntWalk.u32_in _ (by omega)
      have u2 : IntKind.u32.wrap (x2 : Int) = x2 := IntWalk.u32_in _ (by omega)
      have u3 : IntKind.u32.wrap (x3 : Int) = x3 := IntWalk.u32_in _ (by omega)
      have v0 : IntKind.u32.wrap ((x0 : Int) * 16777216) = x0 * 16777216 := IntWalk.u32_in _ (by omega)
      have v1 : IntKind.u32.wrap ((x1 : Int) * 65536) = x1 * 65536 := IntWalk.u32_in _ (by omega)
      have v2 : IntKind.u32.wrap ((x2 : Int) * 256) = x2 * 256 := IntWalk.u32_in _ (by omega)
      have o1 := u32_or_nat (x0 * 16777216) (x1 * 65536) (by omega) (by omega)
      have l1 := Nat.or_lt_two_pow (n := 32) (x := x0 * 16777216) (y := x1 * 65536) (by omega) (by omega)
      have o2 := u32_or_nat _ (x2 * 256) l1 (by omega)
      have l2 := Nat.or_lt_two_pow (n := 32) (y := x2 * 256) l1 (by omega)
      have o3 := u32_or_nat _ x3 l2 (by omega)
      simp only [Int.natCast_mul, Int.cast_ofNat_Int] at o1 o2 o3
      rw [← hW.out] at o3
      generalize x0 * 16777216 ||| x1 * 65536 ||| x2 * 256 = y2 at *
      generalize x0 * 16777216 ||| x1 * 65536 = y1 at *
      generalize word bs i = y3 at *
      have ag : u5.ownBlock ≠ some bb := fun e => by have := own_base hown bb e; omega
      have bl : bb < wr.heap.size := by omega
      have hl9 : l.length ≤ 100 := by omega
      have hll2 := Lib.hid hll
      clear hll
      go_wp2_with fail
      go_region_held3 (fun w' => w'.cell? ⟨bb, ob + 4 * i, none⟩ = some (.int .u8 (x0 : Int)) ∧ w'.cell? ⟨bb, ob + (4 * i + 1), none⟩ = some (.int .u8 (x1 : Int)) ∧ w'.cell? ⟨bb, ob + (4 * i + 2), none⟩ = some (.int .u8 (x2 : Int)) ∧ w'.cell? ⟨bb, ob + (4 * i + 3), none⟩ = some (.int .u8 (x3 : Int)))
        (first | go_keep | (go_split_ands; refine ⟨?_, ?_, ?_, ?_⟩ <;> (rw [hgrow.cell_far _ (by simp; omega) (Ne.symm ag)]; assumption)))
        ((refine step_append_lies _ (by rfl) _ _ _ (by rfl) w.heap.size 106 i0 _ 1 4 Tryd.underlying107 hi hz0 hz1 hz2 rfl (by omega) u5 l.length (cW l) (by rfl) ((hown.alloc _).drew) ⟨wr.heap.size, 0, none⟩ 1 1 [.int .u32 (y3 : Int)] (by rfl) (by rfl) (World.news_of_block (cs := #[.int .u32 (y3 : Int)]) (t := 106) (fr := (0, 0)) (heap_alloc_new wr _)) (by simp [Value.oneCell']) (by omega) (by unfold maxLen; omega) (by omega) (by simp; omega) (wr.heap.size + 1) (by simp) ?_; intro gg cap w1 hown1 hgrow hat hlt2))
      go_wp2
      go_roundw
      case rel =>
        refine ⟨i + 1, by omega, by go_num, ?_, ?_⟩
        · rw [hnx.out]; exact ownW_snoc hown1
        · exact ((B.alloc Bs _).drew).grown hgrow (by simp; omega) (own_base hown)
      case measure => simp [intOf]; omega
    · have h16 : i = 16 := by omega
      rw [h16] at hown
      clear h16
      go_wp2_with fail
      obtain ⟨wo, rfl⟩ : ∃ wo : World, wo = wr := ⟨_, rfl⟩
      go_loopw [5, 7, 8, 9] (fun v iv _ _ wr => ∃ (i : Nat), 16 ≤ i ∧ i ≤ 64 ∧ iv = .int .i64 i ∧ OwnW wr w.heap.size v (wk bs i) ∧ Below w.heap.size w wr) (fun _ iv _ _ _ => 64 - (intOf iv).toNat)
      case atStart => exact ⟨16, by omega, by omega, rfl, hown, B⟩
      case round =>
        obtain ⟨i, hi16, hi64, rfl, hown2, B2⟩ := hrel
        have hll : (wk bs i).length = i := wk_len _ _
        obtain ⟨g, cap, rfl, hg1, hg2, hgc, hcell⟩ := ownW_cells hown2 (fun e => by rw [e] at hll; simp at hll; omega)
        by_cases hlt : i < 64
        · have c15 := hcell (i - 15) (by omega)
          have c2 := hcell (i - 2) (by omega)
          have c16 := hcell (i - 16) (by omega)
          have c7 := hcell (i - 7) (by omega)
          have v15 := wk_lt bs i (i - 15)
          have v2 := wk_lt bs i (i - 2)
          have hN : Hid (nxt (wk bs i) i = add32 (add32 (add32 ((wk bs i).getD (i - 16) 0) (ss0 ((wk bs i).getD (i - 15) 0))) ((wk bs i).getD (i - 7) 0)) (ss1 ((wk bs i).getD (i - 2) 0))) := rfl
          have hnx : Hid (wk bs (i + 1) = wk bs i ++ [nxt (wk bs i) i]) := by show _ = _; rw [wk, if_neg (by omega)]
          generalize nxt (wk bs i) i = nx at *
          generalize (wk bs i).getD (i - 15) 0 = x15 at *
          generalize (wk bs i).getD (i - 2) 0 = x2 at *
          generalize (wk bs i).getD (i - 16) 0 = x16 at *
          generalize (wk bs i).getD (i - 7) 0 = x7 at *
          generalize wk bs i = l at *
          rw [hll] at hgc
          have hown3 := Lib.hid hown2
          rw [hll] at hown3 ⊢
          have hl9 : l.length ≤ 100 := by omega
          have hll2 := Lib.hid hll
          have hc16 := Lib.hid c16
          have hc7 := Lib.hid c7
          have hc2 := Lib.hid c2
          clear c16 c7 hcell hown2 hll
          go_wp2_with fail
          go_quiet ((go_at_call 86; exact Calls.quiet_of (rotated_lit _ _ _ (by assumption) (by decide) (by decide))))
          rw [ss0_eq x15 v15]
          have B3 := below_drewN B2 nq
          have d2 : (wr.drewN nq).cell? ⟨g, i - 2, none⟩ = _ := hc2.out
          have d16 := Lib.hid (show (wr.drewN nq).cell? ⟨g, i - 16, none⟩ = _ from hc16.out)
          have d7 := Lib.hid (show (wr.drewN nq).cell? ⟨g, i - 7, none⟩ = _ from hc7.out)
          have o3 := Lib.hid (ownW_drew hown3.out nq)
          generalize wr.drewN nq = wr2 at *
          go_wp2_with fail
          go_quiet ((go_at_call 86; exact Calls.quiet_of (rotated_lit _ _ _ (by assumption) (by decide) (by decide))))
          rw [ss1_eq x2 v2]
          have B4 := below_drewN B3 nq
          have e16 : (wr2.drewN nq).cell? ⟨g, i - 16, none⟩ = _ := d16.out
          have e7 : (wr2.drewN nq).cell? ⟨g, i - 7, none⟩ = _ := d7.out
          have o4 := ownW_drew o3.out nq
          generalize wr2.drewN nq = wr3 at *
          have Bs := B4.size
          have en : IntKind.u32.wrap (IntKind.u32.wrap (IntKind.u32.wrap ((x16 : Int) + (ss0 x15 : Nat)) + (x7 : Int)) + (ss1 x2 : Nat)) = (nx : Int) := by rw [hN.out]; simp only [wrapU]; unfold add32; omega
          unfold OwnW at o4
          rw [hll2.out] at o4
          have a16 : IntKind.i64.wrap ((i : Int) - 16) = ((i - 16 : Nat) : Int) := by rw [IntWalk.i64_in _ (by omega)]; omega
          have a7 : IntKind.i64.wrap ((i : Int) - 7) = ((i - 7 : Nat) : Int) := by rw [IntWalk.i64_in _ (by omega)]; omega
          have b16 : ((i - 16 : Nat) : Int) < (i : Int) := by omega
          have b7 : ((i - 7 : Nat) : Int) < (i : Int) := by omega
          go_wp2_with fail
          go_region_law (refine step_append_lies _ (by rfl) _ _ _ (by rfl) w.heap.size 106 i0 _ 1 4 Tryd.underlying107 hi hz0 hz1 hz2 rfl (by omega) (.slice (some ⟨g, 0, none⟩) i cap) i (cW l) (by rfl) ((o4.alloc _).drew) ⟨wr3.heap.size, 0, none⟩ 1 1 [.int .u32 (nx : Int)] (by rfl) (by rfl) (World.news_of_block (cs := #[.int .u32 (nx : Int)]) (t := 106) (fr := (0, 0)) (heap_alloc_new wr3 _)) (by simp [Value.oneCell']) (by omega) (by unfold maxLen; omega) (by omega) (by simp; omega) (wr3.heap.size + 1) (by simp) ?_; intro gg cap w1 hown1 hgrow hat hlt2)
          all_goals
            go_wp2_with fail
            go_roundw
            case rel =>
              refine ⟨i + 1, by omega, by omega, by go_num, ?_, ?_⟩
              · rw [hnx.out]; refine ownW_snoc ?_; rw [hll2.out]; exact hown1
              · exact ((B4.alloc Bs _).drew).grown hgrow (by simp; omega) (own_base o4)
            case measure => simp [intOf]; omega
        · have h64i : i = 64 := by omega
          rw [hll] at hgc hcell
          obtain ⟨ws, hWS⟩ : ∃ ws, Hid (ws = wk bs 64) := ⟨_, rfl⟩
          have hwk := Lib.hid (show ∀ j, ws.getD j 0 < 4294967296 from fun j => by rw [hWS.out]; exact wk_lt bs 64 j)
          have hwl := Lib.hid (show ws.length = 64 by rw [hWS.out]; exact wk_len bs 64)
          rw [hll]
          rw [h64i, ← hWS.out] at hcell
          have hi64h := Lib.hid h64i
          have hw64 := Lib.hid hcell
          clear h64i hcell hown2 hll hown
          obtain ⟨wa, rfl⟩ : ∃ wa : World, wa = wr := ⟨_, rfl⟩
          have BW := B2
          have Bs := B2.size
          obtain ⟨w2, hw2⟩ : ∃ w2, w2 = wa.alloc (.cells (cW kN).toArray 106) := ⟨_, rfl⟩
          have Bc : Below wa.heap.size wa w2 := by rw [hw2]; exact (Below.refl _ wa).alloc (Nat.le_refl _) _
          have hk : Hid (w2.heap[wa.heap.size]? = some (.cells (cW kN).toArray 106 (0, 0))) := by show _ = _; rw [hw2]; exact heap_alloc_new _ _
          have z2 : w2.heap.size = wa.heap.size + 1 := by rw [hw2]; simp
          have hcon := Lib.hid (constants_any wa)
          rw [← hw2] at hcon
          clear hw2
          have B3 : Below w.heap.size w w2 := B2.trans (Bc.mono Bs)
          have hl8 : (cW (lst s)).length = 8 * 1 := rfl
          have hnews : ∀ j u, (cW (lst s))[j]? = some u → w2.cell? ((⟨bh, oh, none⟩ : Addr).add j) = some u := by
            intro j u hu
            have hj : j < 8 := (List.getElem?_eq_some_iff.1 hu).1
            rw [Addr.add_lit, B3.cell (p := ⟨bh, oh + j, none⟩) hb1, hH2.out j hj, ← hu]
            have hj2 : j < (lst s).length := hj
            simp [cW, List.getD, List.getElem?_eq_getElem hj2]
          obtain ⟨g8, cap8, w3, r8, o8, gr8, at8, lt8⟩ := run_append_lies (P := Tryd.prog) w2 107 107 w2.heap.size 106 i0 _ 1 4 Tryd.underlying107 hi hz0 hz1 hz2 rfl (by omega) (.slice none 0 0) 0 [] (World.ownsRow_nil _ _ _ _) ⟨bh, oh, none⟩ 8 ch (cW (lst s)) hl8 hnews (by simp [cW, Value.oneCell']) (by omega) (by unfold maxLen; omega) (by omega) (Nat.le_refl _) w2.heap.size rfl
          obtain ⟨g8', cap8', e8, _, _, hc8', hcell8⟩ := ownW_cells (l := lst s) (v := .slice (some ⟨g8, 0, none⟩) 8 cap8) (show OwnW w3 w2.heap.size _ (lst s) from o8) (by simp [lst])
          have e8' : g8' = g8 := by injection e8 with h1 h2 h3; injection h1 with h1; injection h1 with h1; exact h1.symm
          subst e8'
          have e9 : cap8' = cap8 := by injection e8 with h1 h2 h3; exact h3.symm
          subst e9
          have E8 : Eight w3 g8' s := Eight.of hcell8
          have hc88 : 8 ≤ cap8' := hc8'
          have D3 : Below w2.heap.size w2 w3 := (Below.refl _ w2).grown gr8 (Nat.le_refl _) (fun k hk => by simp [Value.ownBlock] at hk)
          have z3 := D3.size
          have B4 : Below w.heap.size w w3 := B3.trans (D3.mono B3.size)
          have r8h := Lib.hid r8
          have hkc := Lib.hid (show ∀ k, k < 64 → ∀ W, Below w3.heap.size w3 W → W.cell? ⟨wa.heap.size, k, none⟩ = some (.int .u32 ((kN.getD k 0 : Nat) : Int)) from fun k hk2 W b => by
            rw [b.cell (p := ⟨wa.heap.size, k, none⟩) (by dsimp only; omega), D3.cell (p := ⟨wa.heap.size, k, none⟩) (by dsimp only; omega), cell_of_row _ _ _ _ _ _ hk.out]
            have : k < kN.length := hk2
            simp [cW, List.getD, List.getElem?_eq_getElem this])
          have hwc := Lib.hid (show ∀ k, k < 64 → ∀ W, Below w3.heap.size w3 W → W.cell? ⟨g, k, none⟩ = some (.int .u32 ((ws.getD k 0 : Nat) : Int)) from fun k hk2 W b => by
            rw [b.cell (p := ⟨g, k, none⟩) (by dsimp only; omega), D3.cell (p := ⟨g, k, none⟩) (by dsimp only; omega), Bc.cell (p := ⟨g, k, none⟩) hg2]
            exact hw64.out k hk2)
          have hHc := Lib.hid (show ∀ k, k < 8 → ∀ W, Below w3.heap.size w3 W → W.cell? ⟨bh, oh + k, none⟩ = some (.int .u32 (((lst s).getD k 0 : Nat) : Int)) from fun k hk2 W b => by
            rw [b.cell (p := ⟨bh, oh + k, none⟩) (by have := B4.size; dsimp only; omega), B4.cell (p := ⟨bh, oh + k, none⟩) hb1]
            exact hH2.out k hk2)
          clear r8 o8 gr8 at8 hcell8 hk hw64 hnews hl8 hB2 hH2 BW B2 B e8 hc8'
          have hrn := Lib.hid (fun k => rn_ok ws s hs k)
          go_wp2_with (first | (go_at_call 87; refine hcon.out.mono ?_; rintro e w2' ⟨rfl, rfl⟩) | (at_builtin; refine wpList_append_runB rfl (.tmp 122) (.tmp 123) 107 rfl (.slice none 0 0) (.slice (some ⟨bh, oh, none⟩) 8 ch) rfl rfl _ _ r8h.out ?_))
          obtain ⟨wz, rfl⟩ : ∃ wz : World, wz = w3 := ⟨_, rfl⟩
          go_loopw [11, 12, 13, 14, 15, 16] (fun v iv _ _ _ _ wr => ∃ (k gv cv : Nat) (r : S8), k ≤ 64 ∧ iv = .int .i64 k ∧ v = .slice (some ⟨gv, 0, none⟩) 8 cv ∧ 8 ≤ cv ∧ gv < wr.heap.size ∧ Hid (rn ws s k = r) ∧ Eight wr gv r ∧ Below wz.heap.size wz wr) (fun _ iv _ _ _ _ _ => 64 - (intOf iv).toNat)
          case atStart => exact ⟨0, _, _, s, by omega, rfl, rfl, hc88, lt8, rfl, E8, Below.refl _ _⟩
          case round =>
            obtain ⟨k, gv, cv, r, hk64, rfl, rfl, hcv, hgv, hr, hE, BB⟩ := hrel
            have hok : Ok8 r := by rw [← hr.out]; exact hrn.out k
            by_cases hlt : k < 64
            · have ck := hkc.out k hlt wr BB
              have cw := hwc.out k hlt wr BB
              have bw := hwk.out k
              have hkk : (k : Int) < (i : Int) := by rw [hi64h.out]; omega
              have hN : Hid (rn ws s (k + 1) = rnd (kN.getD k 0) (ws.getD k 0) (rn ws s k)) := rfl
              rw [hr.out] at hN
              obtain ⟨ra, rb, rc, rd, re, rf, rg, rh⟩ := r
              obtain ⟨ka, kb, kc, kd, ke, kf, kg, kh⟩ := hok
              dsimp only at ka kb kc kd ke kf kg kh
              have hEh := Lib.hid hE
              obtain ⟨c0, c1, c2, c3, c4, c5, c6, c7⟩ := hE
              dsimp only at c0 c1 c2 c3 c4 c5 c6 c7
              generalize kN.getD k 0 = kw at *
              generalize ws.getD k 0 = vw at *
              have e1 := tt1_eq kw vw ra rb rc rd re rf rg rh ke kf kg
              have e2 := tt2_eq ra rb rc rd re rf rg rh ka kb kc
              have bt1 : tt1 kw vw ⟨ra, rb, rc, rd, re, rf, rg, rh⟩ < 4294967296 := add32_lt _ _
              have bt2 : tt2 ⟨ra, rb, rc, rd, re, rf, rg, rh⟩ < 4294967296 := add32_lt _ _
              have e1h := Lib.hid ((Int.emod_add_emod _ _ _).trans e1)
              have e2h := Lib.hid e2
              clear e1 e2
              go_wp2_with fail
              go_quiet ((go_at_call 86; exact Calls.quiet_of (rotated_lit _ _ _ (by assumption) (by decide) (by decide))))
              rw [e1h.out]
              have E2 := hEh.out.drewN nq
              have BB2 := below_drewN BB nq
              have z5 : (wr.drewN nq).heap.size = wr.heap.size := rfl
              clear c0 c1 c2 c3 c4 c5 c6 c7 ck cw e1h
              generalize wr.drewN nq = wr2 at *
              obtain ⟨T1, hT1⟩ : ∃ T1, Hid (tt1 kw vw ⟨ra, rb, rc, rd, re, rf, rg, rh⟩ = T1) := ⟨_, rfl⟩
              rw [hT1.out] at bt1 ⊢
              have E2h := Lib.hid E2
              obtain ⟨c0, c1, c2, c3, c4, c5, c6, c7⟩ := E2
              dsimp only at c0 c1 c2 c3 c4 c5 c6 c7
              go_wp2_with fail
              go_quiet ((go_at_call 86; exact Calls.quiet_of (rotated_lit _ _ _ (by assumption) (by decide) (by decide))))
              rw [e2h.out]
              have E3 := E2h.out.drewN nq
              have BB3 := below_drewN BB2 nq
              clear c0 c1 c2 c3 c4 c5 c6 c7 e2h
              generalize wr2.drewN nq = wr3 at *
              have z6 := BB3.size
              have hN2 : Hid (rn ws s (k + 1) = ⟨add32 T1 (tt2 ⟨ra, rb, rc, rd, re, rf, rg, rh⟩), ra, rb, rc, add32 rd T1, re, rf, rg⟩) := by show _ = _; rw [hN.out, rnd, hT1.out]
              generalize tt2 ⟨ra, rb, rc, rd, re, rf, rg, rh⟩ = T2 at *
              have d1 := add32_eq T1 T2
              have d2 := add32_eq rd T1
              generalize hA1 : add32 T1 T2 = A1 at *
              generalize hA2 : add32 rd T1 = A2 at *
              clear hA1 hA2
              obtain ⟨c0, c1, c2, c3, c4, c5, c6, c7⟩ := E3
              dsimp only at c0 c1 c2 c3 c4 c5 c6 c7
              go_wp2_with fail
              go_region
              have hEn : Eight (wr3.alloc (.cells #[.int .u32 (A1 : Int), .int .u32 (ra : Int), .int .u32 (rb : Int), .int .u32 (rc : Int), .int .u32 (A2 : Int), .int .u32 (re : Int), .int .u32 (rf : Int), .int .u32 (rg : Int)] 106)).drew wr3.heap.size ⟨A1, ra, rb, rc, A2, re, rf, rg⟩ := by
                refine ⟨?_, ?_, ?_, ?_, ?_, ?_, ?_, ?_⟩ <;> exact World.cell?_alloc_at _ _ _ _ rfl
              have BBn := (BB3.alloc z6 (.cells #[.int .u32 (A1 : Int), .int .u32 (ra : Int), .int .u32 (rb : Int), .int .u32 (rc : Int), .int .u32 (A2 : Int), .int .u32 (re : Int), .int .u32 (rf : Int), .int .u32 (rg : Int)] 106)).drew
              have zn : wr3.heap.size < (wr3.alloc (.cells #[.int .u32 (A1 : Int), .int .u32 (ra : Int), .int .u32 (rb : Int), .int .u32 (rc : Int), .int .u32 (A2 : Int), .int .u32 (re : Int), .int .u32 (rf : Int), .int .u32 (rg : Int)] 106)).drew.heap.size := by
                have : (wr3.alloc (.cells #[.int .u32 (A1 : Int), .int .u32 (ra : Int), .int .u32 (rb : Int), .int .u32 (rc : Int), .int .u32 (A2 : Int), .int .u32 (re : Int), .int .u32 (rf : Int), .int .u32 (rg : Int)] 106)).heap.size = wr3.heap.size + 1 := by simp
                show wr3.heap.size < (wr3.alloc _).heap.size
                omega
              go_wp2_with fail
              go_roundw
              case rel => exact ⟨k + 1, _, _, _, by omega, by go_num, rfl, by omega, zn, hN2.out, hEn, BBn⟩
              case measure => simp [intOf]; omega
            · have hk2 : k = 64 := by omega
              have hfin : Hid (plus s r = comp s bs) := by show _ = _; rw [comp, ← hWS.out, ← hr.out, hk2]
              have hEc := Lib.hid (fun j (hj : j < 8) (W : World) (b : Below wr.heap.size wr W) => ((b.cell (p := ⟨gv, j, none⟩) hgv).trans (hE.at j hj)))
              have hkh := Lib.hid hk2
              have zz := BB.size
              clear hk2 hkc hwc hrn hwk hE hr hwl hcon
              go_wp2_with fail
              obtain ⟨wy, rfl⟩ : ∃ wy : World, wy = wr := ⟨_, rfl⟩
              go_loopw [17, 18] (fun ov iv wr => ∃ (k : Nat), k ≤ 8 ∧ iv = .int .i64 k ∧ OwnW wr wy.heap.size ov ((lst (plus s r)).take k) ∧ Below wy.heap.size wy wr) (fun _ iv _ => 8 - (intOf iv).toNat)
              case atStart => exact ⟨0, by omega, rfl, World.ownsRow_nil _ _ _ _, Below.refl _ _⟩
              case round =>
                obtain ⟨j, hj8, rfl, hown, BY⟩ := hrel
                by_cases hlt : j < 8
                · have c1 := hHc.out j hlt wr (BB.trans (BY.mono zz))
                  have c2 := hEc.out j hlt wr BY
                  have hp := plus_at s r j hlt
                  rw [← wrapU] at hp
                  have hsn : Hid ((lst (plus s r)).take (j + 1) = (lst (plus s r)).take j ++ [(lst (plus s r)).getD j 0]) := lst_take _ _ hlt
                  have hll : ((lst (plus s r)).take j).length = j := by have : (lst (plus s r)).length = 8 := rfl; simp; omega
                  generalize (lst s).getD j 0 = x1 at *
                  generalize (lst r).getD j 0 = x2 at *
                  generalize (lst (plus s r)).getD j 0 = y at *
                  unfold OwnW at hown
                  rw [hll] at hown
                  have hll2 := Lib.hid hll
                  have zy := BY.size
                  generalize (lst (plus s r)).take j = L at *
                  clear hll
                  have i8 : (j : Int) < 8 := by omega
                  go_wp2_with fail
                  go_region_law (refine step_append_lies _ (by rfl) _ _ _ (by rfl) wy.heap.size 106 i0 _ 1 4 Tryd.underlying107 hi hz0 hz1 hz2 rfl (by omega) u17 j (cW L) (by rfl) ((hown.alloc _).drew) ⟨wr.heap.size, 0, none⟩ 1 1 [.int .u32 (y : Int)] (by rfl) (by rfl) (World.news_of_block (cs := #[.int .u32 (y : Int)]) (t := 106) (fr := (0, 0)) (heap_alloc_new wr _)) (by simp [Value.oneCell']) (by omega) (by unfold maxLen; omega) (by omega) (by simp; omega) (wr.heap.size + 1) (by simp) ?_; intro gg cap w1 hown1 hgrow hat hlt2)
                  all_goals
                    go_wp2_with fail
                    go_roundw
                    case rel =>
                      refine ⟨j + 1, by omega, by go_num, ?_, ?_⟩
                      · rw [hsn.out]; refine ownW_snoc ?_; rw [hll2.out]; exact hown1
                      · exact ((BY.alloc zy _).drew).grown hgrow (by simp; omega) (own_base hown)
                    case measure => simp [intOf]; omega
                · have hj : j = 8 := by omega
                  have hr2 : Hid ((lst (plus s r)).take j = lst (comp s bs)) := by show _ = _; rw [hj, ← hfin.out]; exact List.take_of_length_le (by simp [lst])
                  rw [hr2.out] at hown
                  have hjh := Lib.hid hj
                  clear hj
                  go_wp2_with fail
                  go_ret
                  refine ⟨_, rfl, ?_, ?_⟩
                  · unfold OwnW at hown ⊢
                    refine ⟨hown.1, ?_⟩
                    rcases hown.2 with h | ⟨g, cap, cur, h1, h2, h3⟩
                    · exact .inl h
                    · exact .inr ⟨g, cap, cur, h1, by have := B4.size; omega, h3⟩
                  · exact B4.trans ((BB.trans (BY.mono zz)).mono B4.size)
end Go.Proofs.YtegahpfmkepfmaaDoor.R2
namespace Go.Proofs.YtegahpfmkepfmaaDoor.R2
open Go.RowKit
theorem ownB_cells {W : World} {base : Nat} {v : Value} {l : List UInt8} (h : OwnB W base v l) (hl : l ≠ []) : ∃ g cap, v = .slice (some ⟨g, 0, none⟩) l.length cap ∧ base ≤ g ∧ g < W.heap.size ∧ l.length ≤ cap ∧ cap ≤ maxLen ∧
    ∀ j, j < l.length → W.cell? ⟨g, j, none⟩ = some (.int .u8 ((l.getD j 0).toNat : Int)) := by
  unfold OwnB at h
  rcases h.2 with ⟨rfl, h0⟩ | ⟨g, cap, cur, rfl, hb, hg, hc, hm, hs, ht⟩
  · exact absurd (List.length_eq_zero_iff.1 h0) hl
  · refine ⟨g, cap, rfl, hb, (Array.getElem?_eq_some_iff.1 hg).1, hc, hm, fun j hj => ?_⟩
    rw [cell_of_row _ _ _ _ _ _ hg]
    have h2 : (cB l)[j]? = some (.int .u8 ((l.getD j 0).toNat : Int)) := by simp [cB, List.getD, List.getElem?_eq_getElem hj]
    rw [← h2, ← ht, List.getElem?_take_of_lt (by omega)]
    simp
theorem blk_at (X : List UInt8) (k j : Nat) (hj : j < 64) : (blk X k).getD j 0 = X.getD (64 * k + j) 0 := by
  simp [blk, List.getD, List.getElem?_take_of_lt hj]
theorem blk_len (X : List UInt8) (k : Nat) (h : 64 * k + 64 ≤ X.length) : (blk X k).length = 64 := by simp [blk]; omega
/-- the first k words as bytes -/
def oB (s : S8) (k : Nat) : List UInt8 := ((lst s).take k).flatMap by4
theorem oB_succ (s : S8) (k : Nat) (hk : k < 8) : oB s (k + 1) = oB s k ++ by4 ((lst s).getD k 0) := by
  rw [oB, lst_take _ _ hk, List.flatMap_append]; simp [oB]
theorem oB_full (s : S8) : oB s 8 = outB s := rfl
theorem oB_len (s : S8) (k : Nat) (hk : k ≤ 8) : (oB s k).length = 4 * k := by
  induction k with
  | zero => rfl
  | succ k ih => rw [oB_succ _ _ (by omega), List.length_append, ih (by omega)]; simp [by4]; omega
theorem wrap8 (n : Int) : IntKind.u8.wrap n = n % 256 := by simp [IntKind.wrap, IntKind.bits, IntKind.signed]
theorem by_0 (y : Nat) : IntKind.u8.wrap ((y : Int) / 16777216) = ((UInt8.ofNat (y / 16777216)).toNat : Int) := by
  rw [wrap8, UInt8.toNat_ofNat']; omega
theorem by_1 (y : Nat) : IntKind.u8.wrap ((y : Int) / 65536) = ((UInt8.ofNat (y / 65536 % 256)).toNat : Int) := by
  rw [wrap8, UInt8.toNat_ofNat']; omega
theorem by_2 (y : Nat) : IntKind.u8.wrap ((y : Int) / 256) = ((UInt8.ofNat (y / 256 % 256)).toNat : Int) := by
  rw [wrap8, UInt8.toNat_ofNat']; omega
theorem by_3 (y : Nat) : IntKind.u8.wrap (y : Int) = ((UInt8.ofNat (y % 256)).toNat : Int) := by
  rw [wrap8, UInt8.toNat_ofNat']; omega

set_option maxRecDepth 100000 in
set_option maxHeartbeats 4000000 in
theorem SumR_any (l : List UInt8) (w : World) (hl : l.length ≤ 1000000) :
    Calls Tryd.prog 51 #[.string ⟨l.toArray⟩] w fun e w' => e = .returned (.string ⟨(sha l).toArray⟩) ∧ Below w.heap.size w w' := by
  obtain ⟨i0, hi, hz0, hz1, hz2⟩ := info_parts info5
  obtain ⟨w1, hw1⟩ : ∃ w1, w1 = w.alloc (.cells (c8 h0) 106) := ⟨_, rfl⟩
  have B1 : Below w.heap.size w w1 := by rw [hw1]; exact (Below.refl _ w).alloc (Nat.le_refl _) _
  have z1 : w1.heap.size = w.heap.size + 1 := by rw [hw1]; simp
  have E1 : Eight w1 w.heap.size h0 := by
    rw [hw1]
    refine ⟨?_, ?_, ?_, ?_, ?_, ?_, ?_, ?_⟩ <;> exact World.cell?_alloc_at _ _ _ _ rfl
  have e8 : (⟨l.toArray⟩ : ByteArray).data.toList = l := rfl
  have hext0 := extended_any ⟨l.toArray⟩ w1 (show l.toArray.size ≤ 1000000 by simpa using hl)
  rw [e8] at hext0
  have hext := Lib.hid hext0
  clear hext0 e8
  obtain ⟨M, hM⟩ : ∃ M, Hid (M = (ext l).length / 64) := ⟨_, rfl⟩
  have hXl : Hid ((ext l).length = 64 * M) := by show _ = _; rw [hM.out]; have := ext_mod l; omega
  have hXs : (ext l).length ≤ 1000100 := by rw [ext_len]; have := pad_lt l.length; omega
  have hsha : Hid (sha l = outB (hs (ext l) M)) := by show _ = _; rw [hM.out]; rfl
  have hX0 : (ext l).length ≠ 0 := by rw [ext_len]; omega
  rw [hsha.out]
  clear hsha hM
  generalize ext l = X at *
  have hc8 : (#[.int .u32 1779033703, .int .u32 3144134277, .int .u32 1013904242, .int .u32 2773480762, .int .u32 1359893119, .int .u32 2600822924, .int .u32 528734635, .int .u32 1541459225] : Array Value) = c8 h0 := h0_cells
  have hc8h := Lib.hid hc8
  have hw1h := Lib.hid hw1
  clear hc8 hw1
  go_enter Tryd.func51, Tryd.ntmps51
  go_wp2_with fail
  rw [hc8h.out, ← hw1h.out]
  refine hext.out.mono ?_
  rintro e w2 ⟨v, rfl, hown, b2⟩
  have B2 := B1.trans (b2.mono B1.size)
  obtain ⟨g, cap, rfl, hg1, hg2, hgc, hgm, hcell⟩ := ownB_cells hown (fun e => hX0 (by rw [e]; rfl))
  have z2 := B2.size
  have E2 : Eight w2 w.heap.size h0 := Eight.of (fun j hj => by rw [b2.cell (p := ⟨w.heap.size, j, none⟩) (by dsimp only; omega)]; exact E1.at j hj)
  rw [hXl.out] at hgc hXs hcell ⊢
  have hcellh := Lib.hid hcell
  have zz : w.heap.size < w2.heap.size := by have := b2.size; omega
  clear hcell hown hX0 hext E1 b2 B1 hc8h hw1h
  unfold maxLen at hgm
  go_wp2_with fail
  go_loopw [3, 5] (fun hv iv wr => ∃ (k gh ch : Nat), k ≤ M ∧ iv = .int .i64 ((64 * k : Nat) : Int) ∧ hv = .slice (some ⟨gh, 0, none⟩) 8 ch ∧ 8 ≤ ch ∧ gh < wr.heap.size ∧ Eight wr gh (hs X k) ∧ Below w2.heap.size w2 wr) (fun _ iv _ => 64 * M - (intOf iv).toNat)
  case atStart => exact ⟨0, _, _, by omega, rfl, rfl, Nat.le_refl _, zz, E2, Below.refl _ _⟩
  case round =>
    obtain ⟨k, gh, ch, hkM, rfl, rfl, hch, hgh, hE, B3⟩ := hrel
    by_cases hlt : k < M
    · have i1 : ((64 * k : Nat) : Int) < ((64 * M : Nat) : Int) := by omega
      have hblk := Lib.hid (block_any gh 0 ch g (64 * k) (cap - 64 * k) (hs X k) (blk X k) wr (hs_ok X k) hgh (Nat.lt_of_lt_of_le hg2 B3.size) (blk_len X k (by rw [hXl.out]; omega)) (by omega) hch
        (fun j hj => by rw [Nat.zero_add]; exact hE.at j hj)
        (fun j hj => by rw [B3.cell (p := ⟨g, 64 * k + j, none⟩) hg2, blk_at X k j hj]; exact hcellh.out (64 * k + j) (by omega)))
      have hN : Hid (hs X (k + 1) = comp (hs X k) (blk X k)) := rfl
      rw [← hN.out] at hblk
      have j1 : IntKind.i64.wrap (((64 * k : Nat) : Int) + 64) = ((64 * k + 64 : Nat) : Int) := by rw [IntWalk.i64_in _ (by omega)]; omega
      have j2 : (0 : Int) ≤ ((64 * k : Nat) : Int) := by omega
      have j3 : ((64 * k : Nat) : Int) ≤ ((64 * k + 64 : Nat) : Int) := by omega
      have j4 : ((64 * k + 64 : Nat) : Int) ≤ (cap : Int) := by omega
      have j5 : ¬ cap = 64 * k := by omega
      have j6 : 64 * k + 64 - 64 * k = 64 := by omega
      have hEh := Lib.hid hE
      clear hE
      go_wp2_with fail
      refine hblk.out.mono ?_
      rintro e w4 ⟨v4, rfl, own4, b4⟩
      obtain ⟨g4, c4, rfl, _, hg4, hc4, cell4⟩ := ownW_cells own4 (by simp [lst])
      have B4 := B3.trans (b4.mono B3.size)
      have E4 : Eight w4 g4 (hs X (k + 1)) := Eight.of cell4
      have hc4' : 8 ≤ c4 := hc4
      clear cell4 own4 hc4
      go_wp2_with fail
      go_roundw
      case rel => exact ⟨k + 1, g4, c4, by omega, by go_num, rfl, hc4', hg4, E4, B4⟩
      case measure => simp [intOf]; omega
    · have hk2 : k = M := by omega
      have hHs : Hid (hs X k = hs X M) := by show _ = _; rw [hk2]
      have i1 : ¬ ((64 * k : Nat) : Int) < ((64 * M : Nat) : Int) := by omega
      rw [hHs.out] at hE
      have hok := hs_ok X M
      have hcE := Lib.hid (fun j (hj : j < 8) (W : World) (b : Below wr.heap.size wr W) => ((b.cell (p := ⟨gh, j, none⟩) hgh).trans (hE.at j hj)))
      have hlt8 := Lib.hid (fun j => lst_lt (hs X M) hok j)
      clear hHs hE hk2 hcellh hok
      obtain ⟨s, hsX⟩ : ∃ s, Hid (s = hs X M) := ⟨_, rfl⟩
      rw [← hsX.out] at hcE hlt8
      have z3 := B3.size
      go_wp2_with fail
      obtain ⟨wy, rfl⟩ : ∃ wy : World, wy = wr := ⟨_, rfl⟩
      go_loopw [6, 7] (fun ov iv wr => ∃ (k : Nat), k ≤ 8 ∧ iv = .int .i64 k ∧ OwnB wr wy.heap.size ov (oB s k) ∧ Below wy.heap.size wy wr) (fun _ iv _ => 8 - (intOf iv).toNat)
      case atStart => exact ⟨0, by omega, rfl, World.ownsRow_nil _ _ _ _, Below.refl _ _⟩
      case round =>
        obtain ⟨j, hj8, rfl, hown, BY⟩ := hrel
        by_cases hlt : j < 8
        · have c1 := hcE.out j hlt wr BY
          have hs2 : Hid (oB s (j + 1) = oB s j ++ by4 ((lst s).getD j 0)) := oB_succ _ _ hlt
          have hll := oB_len s j hj8
          generalize (lst s).getD j 0 = y at *
          have f0 := by_0 y
          have f1 := by_1 y
          have f2 := by_2 y
          have f3 := by_3 y
          have hb4 : Hid (by4 y = [UInt8.ofNat (y / 16777216), UInt8.ofNat (y / 65536 % 256), UInt8.ofNat (y / 256 % 256), UInt8.ofNat (y % 256)]) := rfl
          generalize UInt8.ofNat (y / 16777216) = x0 at *
          generalize UInt8.ofNat (y / 65536 % 256) = x1 at *
          generalize UInt8.ofNat (y / 256 % 256) = x2 at *
          generalize UInt8.ofNat (y % 256) = x3 at *
          unfold OwnB at hown
          rw [hll] at hown
          have hll2 := Lib.hid hll
          have zy := BY.size
          generalize oB s j = L at *
          clear hll
          have i8 : (j : Int) < 8 := by omega
          go_wp2_with fail
          go_region_law (refine step_append_lies _ (by rfl) _ _ _ (by rfl) wy.heap.size 5 i0 _ 1 1 Tryd.underlying93 hi hz0 hz1 hz2 rfl (by omega) u6 (4 * j) (cB L) (by rfl) ((hown.alloc _).drew) ⟨wr.heap.size, 0, none⟩ 4 4 [.int .u8 (x0.toNat : Int), .int .u8 (x1.toNat : Int), .int .u8 (x2.toNat : Int), .int .u8 (x3.toNat : Int)] (by rfl) (by rfl) (World.news_of_block (cs := #[.int .u8 (x0.toNat : Int), .int .u8 (x1.toNat : Int), .int .u8 (x2.toNat : Int), .int .u8 (x3.toNat : Int)]) (t := 5) (fr := (0, 0)) (heap_alloc_new wr _)) (by simp [Value.oneCell']) (by omega) (by unfold maxLen; omega) (by omega) (by simp; omega) (wr.heap.size + 1) (by simp) ?_; intro gg cap w1 hown1 hgrow hat hlt2)
          all_goals
            go_wp2_with fail
            go_roundw
            case rel =>
              refine ⟨j + 1, by omega, by go_num, ?_, ?_⟩
              · rw [hs2.out, hb4.out]
                unfold OwnB
                rw [List.length_append, hll2.out, cB, List.map_append]
                exact hown1
              · exact ((BY.alloc zy _).drew).grown hgrow (by simp; omega) (own_base hown)
            case measure => simp [intOf]; omega
        · have hj : j = 8 := by omega
          have hr2 : Hid (oB s j = outB s) := by show _ = _; rw [hj]; rfl
          rw [hr2.out] at hown
          have hO := outB_len s
          obtain ⟨go, co, rfl, _, _, _, _, hco⟩ := ownB_cells hown (fun e => by rw [e] at hO; simp at hO)
          have hcv := run_convert_bytes_back (P := Tryd.prog) wr 93 9 5 ⟨go, 0, none⟩ co (outB s) Tryd.underlying93 Tryd.underlying5 Tryd.underlying9 (fun i hi => by
            rw [Addr.add_lit, Nat.zero_add, hco i hi]
            simp [List.getD, List.getElem?_eq_getElem hi])
          have hjh := Lib.hid hj
          clear hj hown hco
          obtain ⟨O, hOX⟩ : ∃ O, Hid (O = outB s) := ⟨_, rfl⟩
          rw [← hOX.out] at hcv hO hr2 ⊢
          have hOh := Lib.hid hO
          clear hO
          go_wp2_with fail
          go_ret
          exact ⟨congrArg (fun z : List UInt8 => Ending.returned (.string ⟨z.toArray⟩)) (show O = outB (hs X M) by rw [hOX.out, hsX.out]), B2.trans ((B3.trans (BY.mono z3)).mono z2)⟩
end Go.Proofs.YtegahpfmkepfmaaDoor.R2
