/- SparseReadsMatchReference: Read and Update answer as the reference's do. -/
import Derived.Test.YtegahpfmkepfmaaDoorPY
import Derived.Test.YtegahpfmkepfmaaDoorBK
import Derived.Test.YtegahpfmkepfmaaDoorSk
import Derived.Test.YtegahpfmkepfmaaDoorHel
import Derived.BigQuiet
import Derived.Test.YtegahpfmkepfmaaDoorBt
import Derived.Test.YtegahpfmkepfmaaDoorSan
import Derived.Test.YtegahpfmkepfmaaDoorSom
import Derived.Test.YtegahpfmkepfmaaDoorBP
import Derived.Test.YtegahpfmkepfmaaDoorRy
namespace Go.Proofs.YtegahpfmkepfmaaDoor
open Go.RowKit
theorem min_runB (x m : Nat) (ts : Array TypeId) (t : TypeId) (w : World) (c : Int) (hc : c = m) : (Builtin.min_ ts t #[.int .i64 (x : Int), .int .i64 c]).run Tryd.prog w = .ok (.int .i64 ((min x m : Nat) : Int)) w := by
 rw [run_min_int2]
 subst hc
 congr 2
 split <;> omega
theorem ext_takeB (u : Str) (m : Nat) : (⟨u.toArray⟩ : ByteArray).extract 0 m = ⟨(u.take m).toArray⟩ := by
 apply ByteArray.ext
 apply Array.toList_inj.1
 simp
def fewE (l : List Ent) (n : Nat) : List Ent := (l.take n).map (fun e => (e.1, e.2.take 20))
theorem fewE_len (l : List Ent) (n : Nat) : (fewE l n).length = min n l.length := by simp [fewE]
theorem fewE_small (l : List Ent) (n : Nat) : ∀ e ∈ fewE l n, e.2.length ≤ 20 := by
 intro e he
 simp only [fewE, List.mem_map] at he
 obtain ⟨x, _, rfl⟩ := he
 simp; omega
theorem fewE_i64 (l : List Ent) (n : Nat) (h : ∀ e ∈ l, I64 e.1) : ∀ e ∈ fewE l n, I64 e.1 := by
 intro e he
 simp only [fewE, List.mem_map] at he
 obtain ⟨x, hx, rfl⟩ := he
 exact h x (List.mem_of_mem_take hx)
theorem fewE_snoc (l : List Ent) (i : Nat) (h : i < l.length) : fewE l (i + 1) = fewE l i ++ [(l[i].1, l[i].2.take 20)] := by
 rw [fewE, List.take_succ_eq_append_getElem h, List.map_append]; rfl

set_option maxRecDepth 100000 in
set_option maxHeartbeats 4000000 in
theorem few_any (v : Value) (l : List Ent) (w : World) {W0 : World} (hv : ArgE W0 v l) (hW : W0 = w) :
  Calls Tryd.prog 12 #[v] w (RowE (fewE l 8) w) := by
 subst hW
 obtain ⟨hv, hm, hul⟩ := hv
 have hc := Lib.hid (show ∀ (k : Nat) (hk : k < l.length), _ from fun k hk => SE.at hv k hk)
 obtain ⟨a, N, c, rfl, hN⟩ := hv.shape'
 rw [← hN.out] at hm
 have hul2 := Lib.hid hul
 clear hv hul
 go_enter Tryd.func12, Tryd.ntmps12
 go_wp2_with fail
 go_loopw [3, 4] (fun v iv wr => ∃ i : Nat, i ≤ N ∧ i ≤ 8 ∧ iv = .int .i64 i ∧ (∃ x1 x2 x3, v = .slice x1 x2 x3) ∧ OE wr W0.heap.size v (fewE l i) ∧ Below W0.heap.size W0 wr) (fun _ iv _ => N - (intOf iv).toNat)
 case atStart => exact ⟨0, by omega, by omega, rfl, ⟨_, _, _, rfl⟩, OwnG.nil _ _, Below.refl _ _⟩
 case round =>
  obtain ⟨i, hi, hi8, rfl, ⟨x1, x2, x3, rfl⟩, hown, B⟩ := hrel
  by_cases hlt : i < N
  ·by_cases hlt2 : i < 8
   ·have hil : i < l.length := by rw [← hN.out]; exact hlt
    obtain ⟨b, o, c', he, hcell⟩ := hc.out i hil
    injection he with he1 he2 he3
    subst he1
    obtain ⟨hcc1, hcc2⟩ := hcell wr B
    have ui := hul2.out l[i] (List.getElem_mem hil)
    have hsn := Lib.hid (fewE_snoc l i hil)
    have hfl : (fewE l i).length ≤ 1000 := by rw [fewE_len]; omega
    have hcellh := Lib.hid hcell
    clear hcell he2 he3
    generalize l[i] = e at *
    obtain ⟨ek, es⟩ := e
    dsimp only at hcc1 hcc2 hsn ui hcellh
    generalize fewE l i = p at *
    have hcut := ext_takeB es (min es.length 20)
    have hcut2 : es.take (min es.length 20) = es.take 20 := by
     rw [List.take_eq_take_iff]; omega
    rw [hcut2] at hcut
    obtain ⟨m, hm2, m1, m2⟩ : ∃ m, Hid (m = min es.length 20) ∧ m ≤ 20 ∧ m ≤ es.length := ⟨_, rfl, by omega, by omega⟩
    have r2 : ∀ ts ty w, (Builtin.min_ ts ty #[.int .i64 (es.length : Int), .int .i64 20]).run Tryd.prog w = .ok (.int .i64 (m : Int)) w := fun ts ty w => by rw [hm2.out]; exact min_runB _ 20 _ _ _ _ rfl
    rw [← hm2.out] at hcut
    generalize es.take 20 = u6 at *
    clear hcut2
    obtain ⟨_, ui⟩ := ui
    unfold maxLen at ui
    have i0 : (0 : Int) ≤ (i : Int) := by omega
    have i1 : (i : Int) < (N : Int) := by omega
    have i8 : (i : Int) < 8 := by omega
    have i2 : (0 : Int) ≤ (m : Int) := by omega
    have i3 : (m : Int) ≤ (es.length : Int) := by omega
    have sK := Lib.hid (show ∀ W, Below W0.heap.size W0 W → W.cell? ⟨b, o + i * 2, none⟩ = some (.int .i64 ek) ∧ W.cell? ⟨b, o + i * 2 + 1, none⟩ = some (.string ⟨es.toArray⟩) from fun W BW => hcellh.out W BW)
    have Bs := B.size
    obtain ⟨v', w9, ⟨c1, c2, c3, rfl⟩, hr2, f1, f4⟩ := snocE2 wr.drew W0.heap.size _ _ ((ek, u6) : Ent) (hown.below (Below.refl _ wr).drew) (by omega) Bs
    have hr2 : (Builtin.append_ #[23, 23] 23 #[.slice x1 x2 x3, .slice (some ⟨wr.heap.size, 0, none⟩) 1 1]).run Tryd.prog (wr.drew.alloc (.cells #[.int .i64 ek, .string ⟨u6.toArray⟩] 46)) = .ok (.slice c1 c2 c3) w9 := hr2
    have B9 := Lib.hid ((B.drew).trans f4)
    have hend := Lib.hid (show OE w9 W0.heap.size (.slice c1 c2 c3) (fewE l (i + 1)) by rw [hsn.out]; exact f1)
    have hS0 := Lib.hid (sK.out wr.drew B.drew)
    clear f1 f4 hown hsn hfl hcellh
    go_wp2_with fail
    refine wp_region_F (fun w' : World => w'.cell? ⟨b, o + i * 2, none⟩ = some (.int .i64 ek) ∧ w'.cell? ⟨b, o + i * 2 + 1, none⟩ = some (.string ⟨es.toArray⟩)) 22 (by kernel_rfl) hS0.out (fun hHeld => ?_)
    refine takeA (i := 0) (oi := { dst := some 15, op := .move (.tmp 3), type := _, pos := _, after := _, guard := none }) (v := ?_) rfl (Or.inl ⟨by rfl, ?_⟩) (by assumption) ?_
    rotate_left
    ·(intro w hSw; (try dsimp only at hSw); go_simp) <;> with_reducible rfl
    try simp only [Act.put, zT, z0, zS]
    refine takeA (i := 1) (oi := { dst := some 16, op := .move (.tmp 0), type := _, pos := _, after := _, guard := none }) (v := ?_) rfl (Or.inl ⟨by rfl, ?_⟩) (by assumption) ?_
    rotate_left
    ·(intro w hSw; (try dsimp only at hSw); go_simp) <;> with_reducible rfl
    try simp only [Act.put, zT, z0, zS]
    refine takeA (i := 2) (oi := { dst := some 17, op := .move (.tmp 4), type := _, pos := _, after := _, guard := none }) (v := ?_) rfl (Or.inl ⟨by rfl, ?_⟩) (by assumption) ?_
    rotate_left
    ·(intro w hSw; (try dsimp only at hSw); go_simp) <;> with_reducible rfl
    try simp only [Act.put, zT, z0, zS]
    refine takeA (i := 3) (oi := { dst := some 18, op := .indexAddr 23 (.tmp 16) (.tmp 17), type := _, pos := _, after := _, guard := none }) (v := ?_) rfl (Or.inl ⟨by rfl, ?_⟩) (by assumption) ?_
    rotate_left
    ·(intro w hSw; (try dsimp only at hSw); go_simp) <;> with_reducible rfl
    try simp only [Act.put, zT, z0, zS]
    refine takeA (i := 4) (oi := { dst := some 19, op := .fieldAddr 46 (.tmp 18) 0, type := _, pos := _, after := _, guard := none }) (v := ?_) rfl (Or.inl ⟨by rfl, ?_⟩) (by assumption) ?_
    rotate_left
    ·(intro w hSw; (try dsimp only at hSw); go_simp) <;> with_reducible rfl
    try simp only [Act.put, zT, z0, zS]
    refine takeA (i := 5) (oi := { dst := some 20, op := .load 3 (.tmp 19), type := _, pos := _, after := _, guard := none }) (v := ?_) rfl (Or.inl ⟨by rfl, ?_⟩) (by assumption) ?_
    rotate_left
    ·(intro w hSw; (try dsimp only at hSw); go_simp) <;> with_reducible rfl
    try simp only [Act.put, zT, z0, zS]
    refine takeA (i := 6) (oi := { dst := some 21, op := .move (.tmp 0), type := _, pos := _, after := _, guard := none }) (v := ?_) rfl (Or.inl ⟨by rfl, ?_⟩) (by assumption) ?_
    rotate_left
    ·(intro w hSw; (try dsimp only at hSw); go_simp) <;> with_reducible rfl
    try simp only [Act.put, zT, z0, zS]
    refine takeA (i := 7) (oi := { dst := some 22, op := .move (.tmp 4), type := _, pos := _, after := _, guard := none }) (v := ?_) rfl (Or.inl ⟨by rfl, ?_⟩) (by assumption) ?_
    rotate_left
    ·(intro w hSw; (try dsimp only at hSw); go_simp) <;> with_reducible rfl
    try simp only [Act.put, zT, z0, zS]
    refine takeA (i := 8) (oi := { dst := some 23, op := .indexAddr 23 (.tmp 21) (.tmp 22), type := _, pos := _, after := _, guard := none }) (v := ?_) rfl (Or.inl ⟨by rfl, ?_⟩) (by assumption) ?_
    rotate_left
    ·(intro w hSw; (try dsimp only at hSw); go_simp) <;> with_reducible rfl
    try simp only [Act.put, zT, z0, zS]
    refine takeA (i := 9) (oi := { dst := some 24, op := .fieldAddr 46 (.tmp 23) 1, type := _, pos := _, after := _, guard := none }) (v := ?_) rfl (Or.inl ⟨by rfl, ?_⟩) (by assumption) ?_
    rotate_left
    ·(intro w hSw; (try dsimp only at hSw); go_simp) <;> with_reducible rfl
    try simp only [Act.put, zT, z0, zS]
    refine takeA (i := 10) (oi := { dst := some 25, op := .load 9 (.tmp 24), type := _, pos := _, after := _, guard := none }) (v := ?_) rfl (Or.inl ⟨by rfl, ?_⟩) (by assumption) ?_
    rotate_left
    ·(intro w hSw; (try dsimp only at hSw); go_simp) <;> with_reducible rfl
    try simp only [Act.put, zT, z0, zS]
    refine takeA (i := 11) (oi := { dst := some 26, op := .move (.tmp 0), type := _, pos := _, after := _, guard := none }) (v := ?_) rfl (Or.inl ⟨by rfl, ?_⟩) (by assumption) ?_
    rotate_left
    ·(intro w hSw; (try dsimp only at hSw); go_simp) <;> with_reducible rfl
    try simp only [Act.put, zT, z0, zS]
    refine takeA (i := 12) (oi := { dst := some 27, op := .move (.tmp 4), type := _, pos := _, after := _, guard := none }) (v := ?_) rfl (Or.inl ⟨by rfl, ?_⟩) (by assumption) ?_
    rotate_left
    ·(intro w hSw; (try dsimp only at hSw); go_simp) <;> with_reducible rfl
    try simp only [Act.put, zT, z0, zS]
    refine takeA (i := 13) (oi := { dst := some 28, op := .indexAddr 23 (.tmp 26) (.tmp 27), type := _, pos := _, after := _, guard := none }) (v := ?_) rfl (Or.inl ⟨by rfl, ?_⟩) (by assumption) ?_
    rotate_left
    ·(intro w hSw; (try dsimp only at hSw); go_simp) <;> with_reducible rfl
    try simp only [Act.put, zT, z0, zS]
    refine takeA (i := 14) (oi := { dst := some 29, op := .fieldAddr 46 (.tmp 28) 1, type := _, pos := _, after := _, guard := none }) (v := ?_) rfl (Or.inl ⟨by rfl, ?_⟩) (by assumption) ?_
    rotate_left
    ·(intro w hSw; (try dsimp only at hSw); go_simp) <;> with_reducible rfl
    try simp only [Act.put, zT, z0, zS]
    refine takeA (i := 15) (oi := { dst := some 30, op := .load 9 (.tmp 29), type := _, pos := _, after := _, guard := none }) (v := ?_) rfl (Or.inl ⟨by rfl, ?_⟩) (by assumption) ?_
    rotate_left
    ·(intro w hSw; (try dsimp only at hSw); go_simp) <;> with_reducible rfl
    try simp only [Act.put, zT, z0, zS]
    refine takeA (i := 16) (oi := { dst := some 31, op := .call { callee := .builtin .len, args := #[(.tmp 30)], argTypes := #[9] }, type := _, pos := _, after := _, guard := none }) (v := ?_) rfl (Or.inl ⟨by rfl, ?_⟩) (by assumption) ?_
    rotate_left
    ·(intro w hSw; (try dsimp only at hSw); go_simp) <;> with_reducible rfl
    try simp only [Act.put, zT, z0, zS]
    refine takeA (i := 17) (oi := { dst := some 32, op := .call { callee := .builtin .min, args := #[(.tmp 31), (Operand.const (Value.int IntKind.i64 20))], argTypes := #[3, 3] }, type := _, pos := _, after := _, guard := none }) (v := ?_) rfl (Or.inl ⟨by rfl, ?_⟩) (by assumption) ?_
    rotate_left
    ·(intro w hSw; (try dsimp only at hSw); go_simp) <;> with_reducible rfl
    try simp only [Act.put, zT, z0, zS]
    refine takeA (i := 18) (oi := { dst := some 33, op := .slice 9 (.tmp 25) none (some (.tmp 32)) none, type := _, pos := _, after := _, guard := none }) (v := ?_) rfl (Or.inl ⟨by rfl, ?_⟩) (by assumption) ?_
    rotate_left
    ·(intro w hSw; (try dsimp only at hSw); go_simp) <;> with_reducible rfl
    try simp only [Act.put, zT, z0, zS]
    refine takeA (i := 19) (oi := { dst := some 34, op := .build 46 #[(0, (.tmp 20)), (1, (.tmp 33))], type := _, pos := _, after := _, guard := none }) (v := ?_) rfl (Or.inl ⟨by rfl, ?_⟩) (by assumption) ?_
    rotate_left
    ·(intro w hSw; (try dsimp only at hSw); go_simp) <;> with_reducible rfl
    try simp only [Act.put, zT, z0, zS]
    refine wpAnyF_ready (rs := [20]) (by kernel_rfl) (by simp) ?_
    refine AllReadyF.cons (o := { dst := some 35, op := .buildSlice 23 1 #[(0, (.tmp 34))], type := _, pos := _, after := _, guard := none }) rfl (fun K hK => ?_) ?_
    ·skip
     go_simp
     go_wp2_with fail
     refine hK.out _ _ ?_ (fun hHeld => ?_)
     ·exact sK.out _ ((B.drew).alloc Bs _)
     clear hK K
     try simp only [Act.put, zT, z0, zS]
     refine wpAnyF_ready (rs := [21]) (by kernel_rfl) (by simp) ?_
     refine AllReadyF.cons (o := { dst := some 36, op := .call { callee := .builtin .append, args := #[(.tmp 15), (.tmp 35)], argTypes := #[23, 23] }, type := _, pos := _, after := _, guard := none }) rfl (fun K hK => ?_) ?_
     ·skip
      refine wp_append_run (.tmp 15) (.tmp 35) 23 rfl (.slice x1 x2 x3) (.slice (some ⟨wr.heap.size, 0, none⟩) 1 1) rfl rfl _ _ hr2 ?_
      refine hK.out _ _ ?_ (fun hHeld => ?_)
      ·exact sK.out _ B9.out
      clear hK K
      try simp only [Act.put, zT, z0, zS]
      refine wpAnyF_ready (rs := [22]) (by kernel_rfl) (by simp) ?_
      refine AllReadyF.last (o := { dst := some 3, op := .assign (.tmp 36), type := _, pos := _, after := _, guard := none }) rfl (fun K hK => ?_) ?_
      ·skip
       go_simp
       go_wp2_with fail
       refine hK.out _ _ ?_
       clear hK K
       try simp only [Act.put, zT, z0, zS]
       refine wpAnyF_done (by kernel_rfl) ?_ _
       go_wp2_with fail
       go_roundw
       case rel => exact ⟨i + 1, by omega, by omega, by go_num, ⟨_, _, _, rfl⟩, hend.out, B9.out⟩
       case measure => simp [intOf]; omega
      exact AllReadyF.nil
     exact AllReadyF.nil
    exact AllReadyF.nil
   ·obtain rfl : i = 8 := by omega
    go_wp2_with fail
    go_ret
    exact ⟨_, rfl, hown, B⟩
  ·have hiN : i = N := by omega
   have e : fewE l i = fewE l 8 := by unfold fewE; rw [List.take_of_length_le (by rw [← hN.out]; omega), List.take_of_length_le (by rw [← hN.out]; omega)]
   rw [e] at hown
   have i1 : ¬ (i : Int) < (N : Int) := by omega
   clear e hiN
   go_wp2_with fail
   go_ret
   exact ⟨_, rfl, hown, B⟩
end Go.Proofs.YtegahpfmkepfmaaDoor
namespace Go.Proofs.YtegahpfmkepfmaaDoor
open Go.ChangeShapes Go.WideShapes Go.ChangeAt Go.RowKit
theorem RootC (l : List Ent) (v : Value) (W : World) (hl : Mp l) (hv : SE W v l) (hT : Tab W) : Calls Tryd.prog 13 #[v] W (RootPost (rootL l) 0 W) := Root_ok v l W hv ((mapB_iff l).2 hl) hT
theorem ProveC (l : List Ent) (ks : List Int) (v vk : Value) (W : World) (hl : Mp l) (hk : ascB (-1) ks = true) (hv : SE W v l) (hvk : SI W vk ks) (hT : Tab W) : Calls Tryd.prog 18 #[v, vk] W (PP ks (valsL l ks) (pathL l ks) W) :=
 Prove_ok v vk l ks W rfl hv hvk ((mapB_iff l).2 hl) hk hT
theorem SLG.take {α : Type} {enc : α → List Value} {sz : Nat} {W : World} {a : Option Addr} {N c m : Nat} {l : List α} (h : SLG enc sz W (.slice a N c) l) (hm : m ≤ l.length) : SLG enc sz W (.slice a m c) (l.take m) := by
 by_cases h0 : m = 0
 ·subst h0; exact .inl ⟨rfl, _, _, rfl⟩
 ·rcases h with ⟨rfl, _⟩ | ⟨h1, b, o, c', e, hle, hb, hL⟩
  ·simp at hm; omega
  ·injection e with e1 e2 e3
   subst e1 e3
   have hl : (l.take m).length = m := by rw [List.length_take]; omega
   refine .inr ⟨fun e => by rw [e] at hl; simp at hl; omega, b, o, c, by rw [hl], by rw [hl]; omega, hb, fun j x i u e1 e2 => ?_⟩
   have hj : j < m := by have := (List.getElem?_eq_some_iff.1 e1).1; omega
   rw [List.getElem?_take_of_lt hj] at e1
   exact hL j x i u e1 e2
set_option maxRecDepth 100000 in
theorem open_tri2 {H : Type} {enc : TypeId × Value → H} {W : World} {base : Nat} {r : Reach} {b0 : Nat} {spare : Bool} {held : Nat → Bool} {v : Value} {d : DataW H} {p : List MemPlace}
  (hv : Value.okWide Tryd.prog W r b0 43 v) (h : DataW.Trod enc Tryd.prog W base held spare 43 v d p) : ∃ a b c x y z : Int, v = .agg #[.int .i64 a, .int .i64 b, .int .i64 c, .int .i64 x, .int .i64 y, .int .i64 z] ∧ (I64 a ∧ I64 b ∧ I64 c) ∧ I64 x ∧ I64 y ∧ I64 z := by
 obtain ⟨cs, rfl, hsz, _⟩ : ∃ cs, v = .agg cs ∧ cs.size = Tryd.prog.cellsOf 43 ∧ Row.okWide Tryd.prog W r b0 43 cs := by simpa [Value.okWide, Tryd.underlying43] using hv
 rw [show Tryd.prog.cellsOf 43 = 6 by kernel_rfl] at hsz
 obtain ⟨c0, c1, c2, c3, c4, c5, rfl⟩ : ∃ c0 c1 c2 c3 c4 c5, cs = #[c0, c1, c2, c3, c4, c5] := by
  obtain ⟨l⟩ := cs
  match l, hsz with
  | [c0, c1, c2, c3, c4, c5], _ => exact ⟨c0, c1, c2, c3, c4, c5, rfl⟩
 obtain ⟨fuel, hf⟩ := h
 obtain ⟨xs, m, _, _, _, hl, hi⟩ := DataW.trod_array Tryd.underlying43 hf
 have h0 := hi 0 (by omega)
 have h1 := hi 1 (by omega)
 rw [show Tryd.prog.cellsOf 42 = 3 by kernel_rfl] at h0 h1
 rw [List.getElem?_eq_getElem (by omega)] at h0 h1
 simp [Value.cells] at h0 h1
 have key : ∀ (a b c : Value) (y : DataW H × List MemPlace) (n : Nat), DataW.trod enc Tryd.prog W base held spare n 42 [a, b, c] = some y → ∃ p q r : Int, a = .int .i64 p ∧ b = .int .i64 q ∧ c = .int .i64 r ∧ I64 p ∧ I64 q ∧ I64 r := by
  intro a b c y n hh
  obtain ⟨xs, m, _, _, _, hl, hi⟩ := DataW.trod_array Tryd.underlying42 hh
  have g0 := hi 0 (by omega)
  have g1 := hi 1 (by omega)
  have g2 := hi 2 (by omega)
  rw [show Tryd.prog.cellsOf 3 = 1 by kernel_rfl] at g0 g1 g2
  rw [List.getElem?_eq_getElem (by omega)] at g0 g1 g2
  simp at g0 g1 g2
  obtain ⟨s0, e0, _, l0⟩ := DataW.trod_int Tryd.underlying3 g0
  obtain ⟨s1, e1, _, l1⟩ := DataW.trod_int Tryd.underlying3 g1
  obtain ⟨s2, e2, _, l2⟩ := DataW.trod_int Tryd.underlying3 g2
  simp at e0 e1 e2
  exact ⟨s0, s1, s2, e0, e1, e2, wf_i64 l0, wf_i64 l1, wf_i64 l2⟩
 obtain ⟨p0, q0, r0, rfl, rfl, rfl, a1, a2, a3⟩ := key _ _ _ _ _ h0
 obtain ⟨p1, q1, r1, rfl, rfl, rfl, b1, b2, b3⟩ := key _ _ _ _ _ h1
 exact ⟨_, _, _, _, _, _, rfl, ⟨a1, a2, a3⟩, b1, b2, b3⟩
theorem obd_proved (L : List Ent) (ks : List Int) (hm : Mp L) (hk : ascB (-1) ks = true) : OBd ks (valsL L ks) (pathL L ks) := by
 have h1 := ascB_len ks (-1) (by omega) (by omega) hk
 have h2 := ascB_bd ks (-1) (by omega) hk
 refine ⟨by omega, by simp [valsL, tN], ?_, fun x hx => by have := h2 x hx; unfold I64; omega, fun s hs => ?_, fun s hs => ?_⟩
 ·unfold pathL; rw [List.length_map]; exact clF_size (tN ks) 6 1
 ·simp only [valsL, List.mem_map] at hs
  obtain ⟨k, _, rfl⟩ := hs
  exact mapV_small L hm k
 ·simp only [pathL, List.mem_map] at hs
  obtain ⟨p, hp, rfl⟩ := hs
  have : (partV L p).length = 32 := E_len sha sha_len _ p (closedL_bd _ p hp).1
  omega
theorem SLG.setRaw {α : Type} {enc : α → List Value} {sz : Nat} {W : World} {v : Value} {l : List α} {g : Nat} {t : TypeId} (_ : 0 < sz) (h : SLG enc sz W v l) {a1 b1 c1 : Option Addr} {a2 a3 b2 b3 c2 c3 : Nat}
  (hg : W.heap[g]? = some (.cells #[.slice a1 a2 a3, .slice b1 b2 b3, .slice c1 c2 c3] t (0, 0))) (henc : ∀ x, ∃ u r, enc x = u :: r ∧ ∀ p q s, u ≠ .slice p q s) (i : Nat) (u : Value) : SLG enc sz (W.setCell ⟨g, i, none⟩ u) v l := by
 rcases h with h | ⟨h1, b, o, c, h2, h3, h4, hL⟩
 ·exact .inl h
 ·have hne : b ≠ g := by
   rintro rfl
   obtain ⟨x, t, rfl⟩ : ∃ x t, l = x :: t := by
    cases l with
    | nil => exact absurd rfl h1
    | cons x t => exact ⟨x, t, rfl⟩
   obtain ⟨u0, r, e, hu⟩ := henc x
   have := hL 0 x 0 u0 rfl (by rw [e]; rfl)
   rw [cell_of_row _ _ _ _ _ _ hg] at this
   obtain ⟨hlt, he⟩ := Array.getElem?_eq_some_iff.1 this
   have : o + 0 * sz + 0 = 0 ∨ o + 0 * sz + 0 = 1 ∨ o + 0 * sz + 0 = 2 := by simp at hlt; omega
   rcases this with e0 | e0 | e0 <;> (simp only [e0] at he; exact hu _ _ _ he.symm)
  refine .inr ⟨h1, b, o, c, h2, h3, Nat.lt_of_lt_of_le h4 (Frm.setCell W g i u).1, fun j x k y e1 e2 => ?_⟩
  rw [← hL j x k y e1 e2]
  exact World.cell?_of_block ((Frm.setCell W g i u).2 b h4 hne)
theorem OpV.setRaw {W : World} {v : Value} {ks : List Int} {vs ps : List Str} (h : OpV W v ks vs ps) {g : Nat} {t : TypeId} {a1 b1 c1 : Option Addr} {a2 a3 b2 b3 c2 c3 : Nat}
  (hg : W.heap[g]? = some (.cells #[.slice a1 a2 a3, .slice b1 b2 b3, .slice c1 c2 c3] t (0, 0))) (i : Nat) (u : Value) : OpV (W.setCell ⟨g, i, none⟩ u) v ks vs ps := by
 obtain ⟨a, b, c, rfl, ha, hb, hc⟩ := h
 exact ⟨a, b, c, rfl, SLG.setRaw (by omega) ha hg (fun x => ⟨_, _, rfl, fun _ _ _ h => by cases h⟩) i u, SLG.setRaw (by omega) hb hg (fun x => ⟨_, _, rfl, fun _ _ _ h => by cases h⟩) i u, SLG.setRaw (by omega) hc hg (fun x => ⟨_, _, rfl, fun _ _ _ h => by cases h⟩) i u⟩
end Go.Proofs.YtegahpfmkepfmaaDoor
namespace Go.Proofs.YtegahpfmkepfmaaDoor
open Go.ChangeShapes Go.WideShapes Go.ChangeAt Go.RowKit
def sq (i : Nat) : Str := match i with | 0 => [] | 1 => [113] | _ => [114, 115]
theorem sq_len (i : Nat) : (sq i).length ≤ 2 := by unfold sq; split <;> simp
theorem sq_at (k : Nat) (h : k < 3) : ([.string ⟨#[]⟩, .string ⟨#[113]⟩, .string ⟨#[114, 115]⟩] : List Value)[k]? = some (.string ⟨(sq k).toArray⟩) := by
 match k, h with
 | 0, _ => rfl
 | 1, _ => rfl
 | 2, _ => rfl
def ownU (vals : List Int) : List Str := vals.map fun y => sq (Wr.pk y 3).toNat
def ownL (ks vals : List Int) : List Ent := ks.zip (ownU vals)
theorem own_snoc (ks vals : List Int) (n : Nat) (h1 : n < ks.length) (h2 : n < vals.length) : (ownL ks vals).take (n + 1) = (ownL ks vals).take n ++ [(ks[n], sq (Wr.pk vals[n] 3).toNat)] := by
 have hl : n < (ownL ks vals).length := by simp [ownL, ownU]; omega
 rw [List.take_succ_eq_append_getElem hl]
 congr 2
 simp [ownL, ownU]
theorem own_full (ks vals : List Int) (n : Nat) (h : ks.length ≤ n ∨ vals.length ≤ n) : (ownL ks vals).take n = ownL ks vals :=
 List.take_of_length_le (by simp [ownL, ownU]; omega)
theorem own_in (ks vals : List Int) (e : Ent) (h : e ∈ ownL ks vals) : e.1 ∈ ks ∧ e.2.length ≤ 2 := by
 obtain ⟨h1, h2⟩ := List.of_mem_zip (show (e.1, e.2) ∈ ks.zip (ownU vals) from h)
 obtain ⟨y, _, hy⟩ := List.mem_map.1 h2
 exact ⟨h1, by rw [← hy]; exact sq_len _⟩
theorem own_len (ks vals : List Int) : (ownL ks vals).length ≤ ks.length := by simp [ownL]; omega
def rE (root : Str) (ks : List Int) (vs ps : List Str) : List Ent := if shownB root ks vs ps = true then rdE (shownV ks vs) ks else []
def rA (root : Str) (ks : List Int) (vs ps : List Str) : List Int := if shownB root ks vs ps = true then rdA (shownV ks vs) ks else []
theorem rE_len (root : Str) (ks : List Int) (vs ps : List Str) : (rE root ks vs ps).length ≤ ks.length := by
 unfold rE; split
 ·exact rdE_len _ _
 ·simp
theorem rA_len (root : Str) (ks : List Int) (vs ps : List Str) : (rA root ks vs ps).length ≤ ks.length := by
 unfold rA; split
 ·exact rdA_len _ _
 ·simp
def ReadU (root : Str) (ks : List Int) (vs ps : List Str) (w : World) (e : Ending) (w' : World) : Prop :=
 ∃ t a, e = .returned (.tuple #[t, a, .bool (shownB root ks vs ps)]) ∧ SE w' t (rE root ks vs ps) ∧ SI w' a (rA root ks vs ps) ∧ Below w.heap.size w w'
theorem read_uni {root : Str} {ks : List Int} {vs ps : List Str} {w w' : World} {e : Ending} (h : ReadPost root ks vs ps w e w') : ReadU root ks vs ps w e w' := by
 rcases h with ⟨h1, h2, h3⟩ | ⟨h1, t, a, h2, h3, h4, h5⟩
 ·refine ⟨.slice none 0 0, .slice none 0 0, by rw [h1]; exact h2, ?_, ?_, h3⟩
  ·unfold rE; rw [h1]; exact .inl ⟨rfl, _, _, rfl⟩
  ·unfold rA; rw [h1]; exact .inl ⟨rfl, _, _, rfl⟩
 ·refine ⟨t, a, by rw [h1]; exact h2, ?_, ?_, h5⟩
  ·unfold rE; rw [h1]; exact h3
  ·unfold rA; rw [h1]; exact h4
set_option linter.unusedSimpArgs false in
set_option maxRecDepth 100000 in
set_option maxHeartbeats 40000000 in
theorem Reads_any (v vs vc vh : Value) (x : List (Int × Int)) (sm hw : List Int) (ch : List Ent) (A B C : Value) (rks : List Int) (rvs rps : List Str) (q0 q1 q2 q3 q4 q5 : Int) (w : World) (hv : ArgP w v x) (hs : ArgI w vs sm) (hc : ArgE w vc ch) (hh : ArgI w vh hw)
  (hA : ArgI w A rks) (hB : ArgS w B rvs) (hC : ArgS w C rps) (hq : (I64 q0 ∧ I64 q1 ∧ I64 q2) ∧ I64 q3 ∧ I64 q4 ∧ I64 q5) (hT0 : Tab w) :
  Calls Tryd.prog 4 #[v, vs, .agg #[A, B, C], .agg #[.int .i64 q0, .int .i64 q1, .int .i64 q2, .int .i64 q3, .int .i64 q4, .int .i64 q5], vc, vh] w fun e w' => e = .returned (.bool true) ∧ Below w.heap.size w w' := by
 have hT := Lib.hid hT0
 have cSane := Lib.hid (show ∀ W, Below w.heap.size w W → _ from fun W B => sane_any W (hT0.below B))
 have cMade := Lib.hid (show ∀ W, Below w.heap.size w W → _ from fun W B => Made_any v x W ⟨hv.1.below B, hv.2⟩ rfl)
 have cSome := Lib.hid (show ∀ vl L W, Below w.heap.size w W → SE W vl L → Mp L → _ from fun vl L W B h1 h2 => Some_any vl vs L sm W h1 h2 ⟨hs.1.below B, hs.2⟩ rfl)
 have cFew := Lib.hid (show ∀ W, Below w.heap.size w W → _ from fun W B => few_any vc ch W ⟨hc.1.below B, hc.2⟩ rfl)
 have fA := Lib.hid (fun W (B' : Below w.heap.size w W) => hA.1.below B')
 have fB := Lib.hid (fun W (B' : Below w.heap.size w W) => hB.1.below B')
 have fC0 := Lib.hid (fun W (B' : Below w.heap.size w W) => hC.1.below B')
 have hqh := Lib.hid hq
 obtain ⟨F, hF⟩ : ∃ F, Hid (F = fewE ch 8) := ⟨_, rfl⟩
 have hFI := Lib.hid (fewE_i64 ch 8 (fun e he => (hc.2.2 e he).1))
 have hFl := Lib.hid (show (fewE ch 8).length ≤ 8 by rw [fewE_len]; omega)
 rw [← hF.out] at cFew hFI hFl
 have fH := Lib.hid (fun W (B' : Below w.heap.size w W) => hh.1.below B')
 have hAI := Lib.hid hA.2.2
 have hHI := Lib.hid hh.2.2
 have hHl := hh.2.1
 have hAl := hA.2.1
 have hBl := hB.2.1
 have hCl := hC.2.1
 have hcapA : ∀ (a : Option Addr) (n c : Nat), A = .slice a n c → rks.length ≤ c := fun a n c e => by
  rcases hA.1 with ⟨h, a', c', e'⟩ | ⟨h1, b, o, c', e', hle, _, _⟩
  ·rw [h]; exact Nat.zero_le _
  ·rw [e] at e'; injection e' with e1 e2 e3
   rw [e3]; exact hle
 have hcapB : ∀ (a : Option Addr) (n c : Nat), B = .slice a n c → rvs.length ≤ c := fun a n c e => by
  rcases hB.1 with ⟨h, a', c', e'⟩ | ⟨h1, b, o, c', e', hle, _, _⟩
  ·rw [h]; exact Nat.zero_le _
  ·rw [e] at e'; injection e' with e1 e2 e3
   rw [e3]; exact hle
 have hcapC : ∀ (a : Option Addr) (n c : Nat), C = .slice a n c → rps.length ≤ c := fun a n c e => by
  rcases hC.1 with ⟨h, a', c', e'⟩ | ⟨h1, b, o, c', e', hle, _, _⟩
  ·rw [h]; exact Nat.zero_le _
  ·rw [e] at e'; injection e' with e1 e2 e3
   rw [e3]; exact hle
 obtain ⟨ra, rn, rc, rfl, hrn⟩ := hA.1.shape'
 obtain ⟨rd, rv, re, rfl, hrv⟩ := hB.1.shape'
 obtain ⟨rf, rp, rg, rfl, hrp⟩ := hC.1.shape'
 obtain ⟨h1, hn, h2, rfl, hhn⟩ := hh.1.shape'
 have hcapA := hcapA ra rn rc rfl
 have hcapB := hcapB rd rv re rfl
 have hcapC := hcapC rf rp rg rfl
 rw [← hrn.out] at hcapA hAl
 rw [← hrv.out] at hcapB hBl
 rw [← hrp.out] at hcapC hCl
 rw [← hhn.out] at hHl
 obtain ⟨m, hm, m1, m2⟩ : ∃ m, Hid (m = min rn 8) ∧ m ≤ rn ∧ m ≤ 8 := ⟨_, rfl, by omega, by omega⟩
 obtain ⟨nv, hn', n1, n2⟩ : ∃ m, Hid (m = min rv 8) ∧ m ≤ rv ∧ m ≤ 8 := ⟨_, rfl, by omega, by omega⟩
 obtain ⟨pv, hp, p1, p2⟩ : ∃ m, Hid (m = min rp 50) ∧ m ≤ rp ∧ m ≤ 50 := ⟨_, rfl, by omega, by omega⟩
 have m3 : m ≤ rc := by omega
 have m4 : (0 : Int) ≤ (m : Int) := by omega
 have m5 : (m : Int) ≤ (rc : Int) := by omega
 have n3 : nv ≤ re := by omega
 have n4 : (0 : Int) ≤ (nv : Int) := by omega
 have n5 : (nv : Int) ≤ (re : Int) := by omega
 have p3 : pv ≤ rg := by omega
 have p4 : (0 : Int) ≤ (pv : Int) := by omega
 have p5 : (pv : Int) ≤ (rg : Int) := by omega
 have rminA : ∀ ts ty w, (Builtin.min_ ts ty #[.int .i64 (rn : Int), .int .i64 8]).run Tryd.prog w = .ok (.int .i64 (m : Int)) w := fun ts ty w => by rw [hm.out]; exact min_runB _ 8 _ _ _ _ rfl
 have rminB : ∀ ts ty w, (Builtin.min_ ts ty #[.int .i64 (rv : Int), .int .i64 8]).run Tryd.prog w = .ok (.int .i64 (nv : Int)) w := fun ts ty w => by rw [hn'.out]; exact min_runB _ 8 _ _ _ _ rfl
 have rminC : ∀ ts ty w, (Builtin.min_ ts ty #[.int .i64 (rp : Int), .int .i64 50]).run Tryd.prog w = .ok (.int .i64 (pv : Int)) w := fun ts ty w => by rw [hp.out]; exact min_runB _ 50 _ _ _ _ rfl
 clear hv hs hA hB hC hT0 hc hq hcapA hcapB hcapC hh
 go_enter Tryd.func4, Tryd.ntmps4
 go_upto_region 1 with (fail)
 obtain ⟨wA, hwA⟩ : ∃ W, W = (w.alloc (.cells #[.slice ra rn rc, .slice rd rv re, .slice rf rp rg] 37)).alloc (.cells #[.int .i64 q0, .int .i64 q1, .int .i64 q2, .int .i64 q3, .int .i64 q4, .int .i64 q5] 43) := ⟨_, rfl⟩
 rw [← hwA]
 have kw := Lib.hid (show Below w.heap.size w wA by rw [hwA]; exact ((Below.refl _ _).alloc (Nat.le_refl _) _).alloc (by simp only [World.size_alloc]; omega) _)
 have zA := Lib.hid (show wA.heap.size = w.heap.size + 2 by rw [hwA]; simp)
 have bR := Lib.hid (show wA.heap[w.heap.size]? = some (.cells #[.slice ra rn rc, .slice rd rv re, .slice rf rp rg] 37 (0, 0)) by rw [hwA]; exact ((((Below.refl (w.heap.size + 1) _).alloc (by simp) _).block w.heap.size (by omega)).trans (heap_alloc_new w _)))
 have bH := Lib.hid (show wA.heap[w.heap.size + 1]? = some (.cells #[.int .i64 q0, .int .i64 q1, .int .i64 q2, .int .i64 q3, .int .i64 q4, .int .i64 q5] 43 (0, 0)) by rw [hwA]; have := heap_alloc_new (w.alloc (.cells #[.slice ra rn rc, .slice rd rv re, .slice rf rp rg] 37)) (.cells #[.int .i64 q0, .int .i64 q1, .int .i64 q2, .int .i64 q3, .int .i64 q4, .int .i64 q5] 43); simpa using this)
 clear hwA
 obtain ⟨gR, hgR⟩ : ∃ g, w.heap.size = g := ⟨_, rfl⟩
 have hgRh := Lib.hid hgR
 rw [hgR] at bR bH ⊢
 clear hgR
 have kA := Lib.hid (Below.refl wA.heap.size wA)
 go_wp2_with fail
 with_reducible refine (cSane.out _ kw.out).mono ?_
 rintro e w1 ⟨rfl, b⟩
 replace kw := Lib.hid (kw.out.trans (b.mono kw.out.size))
 replace kA := Lib.hid (kA.out.trans (b.mono kA.out.size))
 clear b
 go_wp2_with fail
 with_reducible refine (cMade.out _ kw.out).mono ?_
 rintro e w2 ⟨vl, L, rfl, ol, hmp, hll, b⟩
 replace kw := Lib.hid (kw.out.trans (b.mono kw.out.size))
 replace kA := Lib.hid (kA.out.trans (b.mono kA.out.size))
 clear b
 obtain ⟨l1, l2, hlsh⟩ := (OwnG.SL eE_len ol).shape
 have fL := Lib.hid (fun W (B : Below w2.heap.size w2 W) => (OwnG.SL eE_len ol).below B)
 obtain ⟨nL, hnL⟩ : ∃ n, Hid (L.length = n) := ⟨_, rfl⟩
 rw [hnL.out] at hlsh
 subst hlsh
 have hmph := Lib.hid hmp
 have hlh := Lib.hid hll
 have hmB := Lib.hid ((mapB_iff L).2 hmp)
 clear hmp ol hll
 have kL := Lib.hid (Below.refl w2.heap.size w2)
 obtain ⟨RL, hRL⟩ : ∃ R, Hid (R = rootL L) := ⟨_, rfl⟩
 have cRt := Lib.hid (show ∀ W, SE W (.slice l1 nL l2) L → Calls Tryd.prog 14 #[.slice l1 nL l2] W (RootPost RL 0 W) from fun W h => by
  have h1 := RootR_any (.slice l1 nL l2) L W h (by have := (mapB_facts L hmB.out).1; omega) (mp_i64 L hmph.out)
  rw [if_pos hmB.out] at h1
  rw [hRL.out]; exact h1)
 go_wp2_with fail
 with_reducible refine (cRt.out _ (fL.out _ kL.out)).mono ?_
 rintro e w3 ⟨rfl, b⟩
 replace kw := Lib.hid (kw.out.trans (b.mono kw.out.size))
 replace kA := Lib.hid (kA.out.trans (b.mono kA.out.size))
 replace kL := Lib.hid (kL.out.trans (b.mono kL.out.size))
 clear b
 go_wp2_with fail
 with_reducible refine (cSome.out _ L _ kw.out (fL.out _ kL.out) hmph.out).mono ?_
 rintro e w4 ⟨vk, ks, rfl, ok, hasc, b⟩
 replace kw := Lib.hid (kw.out.trans (b.mono kw.out.size))
 replace kA := Lib.hid (kA.out.trans (b.mono kA.out.size))
 replace kL := Lib.hid (kL.out.trans (b.mono kL.out.size))
 clear b
 obtain ⟨k1, k2, hksh⟩ := (OwnG.SL eI_len ok).shape
 have sks := Lib.hid (OwnG.SL eI_len ok)
 obtain ⟨nK, hnK⟩ : ∃ n, Hid (ks.length = n) := ⟨_, rfl⟩
 rw [hnK.out] at hksh
 subst hksh
 have hasch := Lib.hid hasc
 clear ok hasc
 have cPr := Lib.hid (show ∀ (M : List Ent) (ks : List Int) v vk W, mapB M = true → ascB (-1) ks = true → SE W v M → SI W vk ks → Calls Tryd.prog 19 #[v, vk] W (PP ks (valsL M ks) (pathL M ks) W) from fun M ks v vk W h1 h2 h3 h4 => ProveR_ok v vk M ks W rfl h3 h4 h1 h2)
 go_wp2_with fail
 with_reducible refine (cPr.out L ks _ _ _ hmB.out hasch.out (fL.out _ kL.out) sks.out).mono ?_
 rintro e w5 ⟨oo, rfl, hoo, b⟩
 replace kw := Lib.hid (kw.out.trans (b.mono kw.out.size))
 replace kA := Lib.hid (kA.out.trans (b.mono kA.out.size))
 replace kL := Lib.hid (kL.out.trans (b.mono kL.out.size))
 clear b
 obtain ⟨ooK, hooK⟩ : ∃ n, Hid ((ks).length = n) := ⟨_, rfl⟩
 obtain ⟨ooV, hooV⟩ : ∃ n, Hid ((valsL L ks).length = n) := ⟨_, rfl⟩
 obtain ⟨ooP, hooP⟩ : ∃ n, Hid ((pathL L ks).length = n) := ⟨_, rfl⟩
 obtain ⟨oo1, oo2, oo3, oo4, oo5, oo6, rfl⟩ := hoo.form ooK ooV ooP hooK.out hooV.out hooP.out
 have hooh := Lib.hid hoo
 clear hoo
 go_upto_region 6 with (fail)
 obtain ⟨w6, hw6⟩ : ∃ W, W = w5.alloc (.cells #[.slice oo1 ooK oo2, .slice oo3 ooV oo4, .slice oo5 ooP oo6] 37) := ⟨_, rfl⟩
 rw [← hw6]
 have b : Below w5.heap.size w5 w6 := by rw [hw6]; exact (Below.refl _ _).alloc (Nat.le_refl _) _
 have boo := Lib.hid (show w6.heap[w5.heap.size]? = some (.cells #[.slice oo1 ooK oo2, .slice oo3 ooV oo4, .slice oo5 ooP oo6] 37 (0, 0)) by rw [hw6]; exact heap_alloc_new _ _)
 have foo := Lib.hid (hooh.out.below b)
 have zoo := Lib.hid (show wA.heap.size ≤ w5.heap.size from kA.out.size)
 clear hw6 hooh
 replace kw := Lib.hid (kw.out.trans (b.mono kw.out.size))
 replace kA := Lib.hid (kA.out.trans (b.mono kA.out.size))
 replace kL := Lib.hid (kL.out.trans (b.mono kL.out.size))
 clear b
 obtain ⟨go, hgo⟩ : ∃ g, w5.heap.size = g := ⟨_, rfl⟩
 rw [hgo] at boo zoo ⊢
 clear hgo
 have koo := Lib.hid (Below.refl w6.heap.size w6)
 have bR0 := (kA.out.block gR (by have := zA.out; have := hgRh.out; omega)).trans bR.out
 have BRh := Lib.hid bR0
 have gO := Lib.hid (show gR ≠ go by have := zoo.out; have := zA.out; have := hgRh.out; omega)
 have bH0 := Lib.hid ((kA.out.block (gR + 1) (by have := zA.out; have := hgRh.out; omega)).trans bH.out)
 have bO0 := Lib.hid boo.out
 have hO0 := Lib.hid foo.out
 have kw0 := Lib.hid kw.out
 clear bR bH boo kA kL foo fL zoo kw sks bR0 zA koo
 have bR0 := BRh.out
 have cR0 := cell_of_row _ _ 0 _ 37 (0, 0) bR0
 have fR0 := free_of_block (i := 0) bR0
 have hOs := Lib.hid (OpV.setRaw hO0.out bR0 0 (.slice ra m rc))
 have bRs := Lib.hid (set_field (i := 0) (v := (.slice ra m rc : Value)) bR0)
 have bHs := Lib.hid (show (w6.setCell ⟨gR, 0, none⟩ (.slice ra m rc)).heap[gR + 1]? = some (.cells #[.int .i64 q0, .int .i64 q1, .int .i64 q2, .int .i64 q3, .int .i64 q4, .int .i64 q5] 43 (0, 0)) from (heap_set_ne (by omega)).trans bH0.out)
 have bOs := Lib.hid (show (w6.setCell ⟨gR, 0, none⟩ (.slice ra m rc)).heap[go]? = some (.cells #[.slice oo1 ooK oo2, .slice oo3 ooV oo4, .slice oo5 ooP oo6] 37 (0, 0)) from (heap_set_ne gO.out).trans bO0.out)
 have hBs := Lib.hid (show Below w.heap.size w (w6.setCell ⟨gR, 0, none⟩ (.slice ra m rc)) from kw0.out.setCell (by have := hgRh.out; simpa using Nat.le_of_eq this) _)
 clear BRh bH0 bO0 hO0 kw0 bR0
 go_upto_region 9 with (fail)
 obtain ⟨s1, hs1⟩ : ∃ W, W = (w6.setCell ⟨gR, 0, none⟩ (.slice ra m rc)) := ⟨_, rfl⟩
 rw [← hs1] at hOs bRs bHs bOs hBs ⊢
 clear hs1 cR0 fR0
 have BRh := Lib.hid (show s1.heap[gR]? = some (.cells #[.slice ra m rc, .slice rd rv re, .slice rf rp rg] 37 (0, 0)) from bRs.out)
 have bH1 := Lib.hid bHs.out
 have bO1 := Lib.hid bOs.out
 have hO1 := Lib.hid hOs.out
 have kw1 := Lib.hid hBs.out
 clear hOs bRs bHs bOs hBs
 have bR0 := BRh.out
 have cR0 := cell_of_row _ _ 1 _ 37 (0, 0) bR0
 have fR0 := free_of_block (i := 1) bR0
 have hOs := Lib.hid (OpV.setRaw hO1.out bR0 1 (.slice rd nv re))
 have bRs := Lib.hid (set_field (i := 1) (v := (.slice rd nv re : Value)) bR0)
 have bHs := Lib.hid (show (s1.setCell ⟨gR, 1, none⟩ (.slice rd nv re)).heap[gR + 1]? = some (.cells #[.int .i64 q0, .int .i64 q1, .int .i64 q2, .int .i64 q3, .int .i64 q4, .int .i64 q5] 43 (0, 0)) from (heap_set_ne (by omega)).trans bH1.out)
 have bOs := Lib.hid (show (s1.setCell ⟨gR, 1, none⟩ (.slice rd nv re)).heap[go]? = some (.cells #[.slice oo1 ooK oo2, .slice oo3 ooV oo4, .slice oo5 ooP oo6] 37 (0, 0)) from (heap_set_ne gO.out).trans bO1.out)
 have hBs := Lib.hid (show Below w.heap.size w (s1.setCell ⟨gR, 1, none⟩ (.slice rd nv re)) from kw1.out.setCell (by have := hgRh.out; simpa using Nat.le_of_eq this) _)
 clear BRh bH1 bO1 hO1 kw1 bR0
 go_upto_region 10 with (fail)
 obtain ⟨s2, hs2⟩ : ∃ W, W = (s1.setCell ⟨gR, 1, none⟩ (.slice rd nv re)) := ⟨_, rfl⟩
 rw [← hs2] at hOs bRs bHs bOs hBs ⊢
 clear hs2 cR0 fR0
 have BRh := Lib.hid (show s2.heap[gR]? = some (.cells #[.slice ra m rc, .slice rd nv re, .slice rf rp rg] 37 (0, 0)) from bRs.out)
 have bH2 := Lib.hid bHs.out
 have bO2 := Lib.hid bOs.out
 have hO2 := Lib.hid hOs.out
 have kw2 := Lib.hid hBs.out
 clear hOs bRs bHs bOs hBs
 have bR0 := BRh.out
 have cR0 := cell_of_row _ _ 2 _ 37 (0, 0) bR0
 have fR0 := free_of_block (i := 2) bR0
 have hOs := Lib.hid (OpV.setRaw hO2.out bR0 2 (.slice rf pv rg))
 have bRs := Lib.hid (set_field (i := 2) (v := (.slice rf pv rg : Value)) bR0)
 have bHs := Lib.hid (show (s2.setCell ⟨gR, 2, none⟩ (.slice rf pv rg)).heap[gR + 1]? = some (.cells #[.int .i64 q0, .int .i64 q1, .int .i64 q2, .int .i64 q3, .int .i64 q4, .int .i64 q5] 43 (0, 0)) from (heap_set_ne (by omega)).trans bH2.out)
 have bOs := Lib.hid (show (s2.setCell ⟨gR, 2, none⟩ (.slice rf pv rg)).heap[go]? = some (.cells #[.slice oo1 ooK oo2, .slice oo3 ooV oo4, .slice oo5 ooP oo6] 37 (0, 0)) from (heap_set_ne gO.out).trans bO2.out)
 have hBs := Lib.hid (show Below w.heap.size w (s2.setCell ⟨gR, 2, none⟩ (.slice rf pv rg)) from kw2.out.setCell (by have := hgRh.out; simpa using Nat.le_of_eq this) _)
 clear BRh bH2 bO2 hO2 kw2 bR0
 go_upto_region 11 with (fail)
 obtain ⟨s3, hs3⟩ : ∃ W, W = (s2.setCell ⟨gR, 2, none⟩ (.slice rf pv rg)) := ⟨_, rfl⟩
 rw [← hs3] at hOs bRs bHs bOs hBs ⊢
 clear hs3 cR0 fR0
 have BRh := Lib.hid (show s3.heap[gR]? = some (.cells #[.slice ra m rc, .slice rd nv re, .slice rf pv rg] 37 (0, 0)) from bRs.out)
 have bH3 := Lib.hid bHs.out
 have bO3 := Lib.hid bOs.out
 have hO3 := Lib.hid hOs.out
 have kw3 := Lib.hid hBs.out
 clear hOs bRs bHs bOs hBs
 have cwo := Lib.hid (show ∀ W, Below s3.heap.size s3 W → W.cell? ⟨go, 0, none⟩ = some (.slice oo1 ooK oo2) from fun W BW => cell_of_row _ _ 0 _ 37 (0, 0) ((BW.block _ (Array.getElem?_eq_some_iff.1 bO3.out).1).trans bO3.out))
 have oKs : SI s3 (.slice oo1 ooK oo2) ks := by
  obtain ⟨a, b, c, e1, e2, _, _⟩ := hO3.out
  injection e1 with e1
  simp at e1
  obtain ⟨e1, _, _⟩ := e1
  rw [e1]; exact e2
 have fKk := Lib.hid (fun (k : Nat) (hk : k < ks.length) => SI.at oKs k hk)
 have oHs : SI s3 (.slice h1 hn h2) hw := fH.out s3 kw3.out
 have fVk := Lib.hid (fun (k : Nat) (hk : k < hw.length) => SI.at oHs k hk)
 have hkl := ascB_len ks (-1) (by omega) (by omega) hasch.out
 have hooK := hooK.out
 have b3 : ooK ≤ 64 := by omega
 obtain ⟨C, hC⟩ : ∃ R, Hid (R = ownL ks hw) := ⟨_, rfl⟩
 have hCI := Lib.hid (show ∀ e ∈ ownL ks hw, I64 e.1 from fun e he => by have := ascB_bd ks (-1) (by omega) hasch.out e.1 (own_in ks hw e he).1; unfold I64; omega)
 have hCl0 := Lib.hid (show (ownL ks hw).length ≤ 64 by have := own_len ks hw; omega)
 rw [← hC.out] at hCI hCl0
 have fCs := Lib.hid (fun n h1 h2 => own_snoc ks hw n h1 h2)
 have fCf := Lib.hid (fun n h => own_full ks hw n h)
 rw [← hC.out] at fCs fCf
 have fCl := Lib.hid (show ∀ n, (C.take n).length ≤ n from fun n => List.length_take_le _ _)
 have hKK := Lib.hid hooK
 clear oKs oHs hkl hooK rminA rminB rminC m4 m5 n4 n5 p4 p5 m3 n3 p3
 go_wp2_with fail
 go_loopw [18, 19] (fun cv iv wr => ∃ n : Nat, n ≤ ooK ∧ iv = .int .i64 n ∧ (∃ x1 x2 x3, cv = .slice x1 x2 x3) ∧ OE wr s3.heap.size cv (C.take n) ∧ Below s3.heap.size s3 wr) (fun _ iv _ => ooK - (intOf iv).toNat)
 case atStart => exact ⟨0, by omega, rfl, ⟨_, _, _, rfl⟩, OwnG.nil _ _, Below.refl _ _⟩
 case round =>
  obtain ⟨n, hnn, rfl, ⟨z1, z2, z3, rfl⟩, oc, B⟩ := hrel
  have g0 := cwo.out wr B
  by_cases hlt : n < ooK
  ·by_cases hlv : n < hn
   ·have hnk : n < ks.length := by rw [hKK.out]; exact hlt
    have hnv : n < hw.length := by rw [← hhn.out]; exact hlv
    obtain ⟨bk, ok, ck, he, hcell⟩ := fKk.out n hnk
    injection he with he1 he2 he3
    subst he1
    have hck := Lib.hid hcell
    clear hcell he2 he3
    obtain ⟨bv, ov, cv, he, hcell⟩ := fVk.out n hnv
    injection he with he1 he2 he3
    subst he1
    have hcva := Lib.hid hcell
    clear hcell he2 he3
    have hI := hHI.out hw[n] (List.getElem_mem hnv)
    have q5 := Wr.pk_lo hw[n] 3 (by omega)
    have q6 := Wr.pk_lt hw[n] 3 (by omega)
    have p3 := Lib.hid (fun W => Wr.pick_any hw[n] 3 W hI.1 hI.2 (by omega) (by omega))
    have eC := Lib.hid (fCs.out n hnk hnv)
    obtain ⟨mm, hm9⟩ : ∃ m : Nat, Wr.pk hw[n] 3 = (m : Int) := ⟨(Wr.pk hw[n] 3).toNat, by omega⟩
    rw [hm9] at p3 q5 q6
    have hmt : (Wr.pk hw[n] 3).toNat = mm := by rw [hm9]; rfl
    rw [hmt] at eC
    clear hm9 hmt hI
    generalize hw[n] = yv at *
    generalize ks[n] = y at *
    have s1h := sq_at mm (by omega)
    have hsl := sq_len mm
    generalize sq mm = s at *
    have i0 : (0 : Int) ≤ (n : Int) := by omega
    have i1 : (n : Int) < (ooK : Int) := by omega
    have i2 : (n : Int) < (hn : Int) := by omega
    have Bs := B.size
    obtain ⟨wp, hwp⟩ : ∃ W, Hid (W = (wr.alloc (.cells #[.string ⟨#[]⟩, .string ⟨#[113]⟩, .string ⟨#[114, 115]⟩] 9)).drew) := ⟨_, rfl⟩
    have Bp : Below wr.heap.size wr wp := by rw [hwp.out]; exact ((Below.refl _ _).alloc (Nat.le_refl _) _).drew
    have B2 : Below s3.heap.size s3 wp := B.trans (Bp.mono Bs)
    have hcl := fCl.out n
    obtain ⟨v', wz, ⟨a1, a2, a3, rfl⟩, hr, f1, f4⟩ := snocE2 wp s3.heap.size _ _ ((y, s) : Ent) (oc.below Bp) (by omega) B2.size
    have hr : (Builtin.append_ #[23, 23] 23 #[.slice z1 z2 z3, .slice (some ⟨wp.heap.size, 0, none⟩) 1 1]).run Tryd.prog (wp.alloc (.cells #[.int .i64 y, .string ⟨s.toArray⟩] 46)) = .ok (.slice a1 a2 a3) wz := hr
    have Bz : Below s3.heap.size s3 wz := B2.trans f4
    have hend := Lib.hid (show OE wz s3.heap.size (.slice a1 a2 a3) (C.take (n + 1)) ∧ Below s3.heap.size s3 wz from ⟨by rw [eC.out]; exact f1, Bz⟩)
    have sK := Lib.hid (show ∀ W, Below s3.heap.size s3 W → W.cell? ⟨go, 0, none⟩ = some (.slice (some ⟨bk, ok, none⟩) ooK oo2) ∧ W.cell? ⟨bk, ok + n, none⟩ = some (.int .i64 y) ∧ W.cell? ⟨bv, ov + n, none⟩ = some (.int .i64 yv) from fun W BW => ⟨cwo.out W BW, hck.out W BW, hcva.out W BW⟩)
    have hS0 := Lib.hid (sK.out wr.drew B.drew)
    have hSp := Lib.hid (sK.out (wr.alloc (.cells #[.string ⟨#[]⟩, .string ⟨#[113]⟩, .string ⟨#[114, 115]⟩] 9)).drew ((B.alloc Bs _).drew))
    have hSq := Lib.hid (sK.out (wp.alloc (.cells #[.int .i64 y, .string ⟨s.toArray⟩] 46)) (B2.alloc B2.size _))
    have hSz := Lib.hid (sK.out wz Bz)
    clear oc eC f1 f4 Bz B B2 Bp hck hcva
    go_wp2_with fail
    refine wp_region_F (fun w' : World => w'.cell? ⟨go, 0, none⟩ = some (.slice (some ⟨bk, ok, none⟩) ooK oo2) ∧ w'.cell? ⟨bk, ok + n, none⟩ = some (.int .i64 y) ∧ w'.cell? ⟨bv, ov + n, none⟩ = some (.int .i64 yv)) 17 (by kernel_rfl) hS0.out (fun hHeld => ?_)
    refine takeA (i := 0) (oi := { dst := some 94, op := .move (.tmp 18), type := _, pos := _, after := _, guard := none }) (v := ?_) rfl (Or.inl ⟨by rfl, ?_⟩) (by assumption) ?_
    rotate_left
    ·(intro w hSw; (try dsimp only at hSw); go_simp) <;> with_reducible rfl
    try simp only [Act.put, zT, z0, zS]
    refine takeA (i := 1) (oi := { dst := some 95, op := .fieldAddr 37 (.tmp 16) 0, type := _, pos := _, after := _, guard := none }) (v := ?_) rfl (Or.inl ⟨by rfl, ?_⟩) (by assumption) ?_
    rotate_left
    ·(intro w hSw; (try dsimp only at hSw); go_simp) <;> with_reducible rfl
    try simp only [Act.put, zT, z0, zS]
    refine takeA (i := 2) (oi := { dst := some 96, op := .load 24 (.tmp 95), type := _, pos := _, after := _, guard := none }) (v := ?_) rfl (Or.inl ⟨by rfl, ?_⟩) (by assumption) ?_
    rotate_left
    ·(intro w hSw; (try dsimp only at hSw); go_simp) <;> with_reducible rfl
    try simp only [Act.put, zT, z0, zS]
    refine takeA (i := 3) (oi := { dst := some 97, op := .move (.tmp 19), type := _, pos := _, after := _, guard := none }) (v := ?_) rfl (Or.inl ⟨by rfl, ?_⟩) (by assumption) ?_
    rotate_left
    ·(intro w hSw; (try dsimp only at hSw); go_simp) <;> with_reducible rfl
    try simp only [Act.put, zT, z0, zS]
    refine takeA (i := 4) (oi := { dst := some 98, op := .indexAddr 24 (.tmp 96) (.tmp 97), type := _, pos := _, after := _, guard := none }) (v := ?_) rfl (Or.inl ⟨by rfl, ?_⟩) (by assumption) ?_
    rotate_left
    ·(intro w hSw; (try dsimp only at hSw); go_simp) <;> with_reducible rfl
    try simp only [Act.put, zT, z0, zS]
    refine takeA (i := 5) (oi := { dst := some 99, op := .load 3 (.tmp 98), type := _, pos := _, after := _, guard := none }) (v := ?_) rfl (Or.inl ⟨by rfl, ?_⟩) (by assumption) ?_
    rotate_left
    ·(intro w hSw; (try dsimp only at hSw); go_simp) <;> with_reducible rfl
    try simp only [Act.put, zT, z0, zS]
    refine takeA (i := 7) (oi := { dst := some 101, op := .move (.tmp 5), type := _, pos := _, after := _, guard := none }) (v := ?_) rfl (Or.inl ⟨by rfl, ?_⟩) (by assumption) ?_
    rotate_left
    ·(intro w hSw; (try dsimp only at hSw); go_simp) <;> with_reducible rfl
    try simp only [Act.put, zT, z0, zS]
    refine takeA (i := 8) (oi := { dst := some 102, op := .move (.tmp 19), type := _, pos := _, after := _, guard := none }) (v := ?_) rfl (Or.inl ⟨by rfl, ?_⟩) (by assumption) ?_
    rotate_left
    ·(intro w hSw; (try dsimp only at hSw); go_simp) <;> with_reducible rfl
    try simp only [Act.put, zT, z0, zS]
    refine takeA (i := 9) (oi := { dst := some 103, op := .indexAddr 24 (.tmp 101) (.tmp 102), type := _, pos := _, after := _, guard := none }) (v := ?_) rfl (Or.inl ⟨by rfl, ?_⟩) (by assumption) ?_
    rotate_left
    ·(intro w hSw; (try dsimp only at hSw); go_simp) <;> with_reducible rfl
    try simp only [Act.put, zT, z0, zS]
    refine takeA (i := 10) (oi := { dst := some 104, op := .load 3 (.tmp 103), type := _, pos := _, after := _, guard := none }) (v := ?_) rfl (Or.inl ⟨by rfl, ?_⟩) (by assumption) ?_
    rotate_left
    ·(intro w hSw; (try dsimp only at hSw); go_simp) <;> with_reducible rfl
    try simp only [Act.put, zT, z0, zS]
    refine wpAnyF_ready (rs := [6, 11]) (by kernel_rfl) (by simp) ?_
    refine AllReadyF.cons (o := { dst := some 100, op := .buildSlice 35 3 #[(0, (Operand.const (Value.string { data := #[] }))), (1, (Operand.const (Value.string { data := #[113] }))), (2, (Operand.const (Value.string { data := #[114, 115] })))], type := _, pos := _, after := _, guard := none }) rfl (fun K hK => ?_) ?_
    ·skip
     go_simp
     go_wp2_with fail
     refine hK.out _ _ ?_ (fun hHeld => ?_)
     ·exact hSp.out
     clear hK K
     try simp only [Act.put, zT, z0, zS]
     refine wpAnyF_ready (rs := [11]) (by kernel_rfl) (by simp) ?_
     refine AllReadyF.cons (o := { dst := some 105, op := .call { callee := .value (.func 21), args := #[(.tmp 104), (Operand.const (Value.int IntKind.i64 3))], argTypes := #[3, 3] }, type := _, pos := _, after := _, guard := none }) rfl (fun K hK => ?_) ?_
     ·skip
      go_simp
      with_reducible refine (p3.out _).mono ?_
      rintro e w' ⟨rfl, rfl⟩
      go_wp2_with fail
      refine hK.out _ _ ?_ (fun hHeld => ?_)
      ·exact hSp.out
      clear hK K
      try simp only [Act.put, zT, z0, zS]
      refine takeA (i := 12) (oi := { dst := some 106, op := .indexAddr 35 (.tmp 100) (.tmp 105), type := _, pos := _, after := _, guard := none }) (v := ?_) rfl (Or.inl ⟨by rfl, ?_⟩) (by assumption) ?_
      rotate_left
      ·(intro w hSw; (try dsimp only at hSw); go_simp) <;> with_reducible rfl
      try simp only [Act.put, zT, z0, zS]
      refine wpAnyF_ready (rs := [13]) (by kernel_rfl) (by simp) ?_
      refine AllReadyF.cons (o := { dst := some 107, op := .load 9 (.tmp 106), type := _, pos := _, after := _, guard := none }) rfl (fun K hK => ?_) ?_
      ·skip
       go_simp
       go_wp2_with fail
       refine hK.out _ _ ?_ (fun hHeld => ?_)
       ·exact hSp.out
       clear hK K
       try simp only [Act.put, zT, z0, zS]
       rw [← hwp.out] at hHeld ⊢
       refine takeA (i := 14) (oi := { dst := some 108, op := .build 46 #[(0, (.tmp 99)), (1, (.tmp 107))], type := _, pos := _, after := _, guard := none }) (v := ?_) rfl (Or.inl ⟨by rfl, ?_⟩) (by assumption) ?_
       rotate_left
       ·(intro w hSw; (try dsimp only at hSw); go_simp) <;> with_reducible rfl
       try simp only [Act.put, zT, z0, zS]
       refine wpAnyF_ready (rs := [15]) (by kernel_rfl) (by simp) ?_
       refine AllReadyF.cons (o := { dst := some 109, op := .buildSlice 23 1 #[(0, (.tmp 108))], type := _, pos := _, after := _, guard := none }) rfl (fun K hK => ?_) ?_
       ·skip
        go_simp
        go_wp2_with fail
        refine hK.out _ _ ?_ (fun hHeld => ?_)
        ·exact hSq.out
        clear hK K
        try simp only [Act.put, zT, z0, zS]
        refine wpAnyF_ready (rs := [16]) (by kernel_rfl) (by simp) ?_
        refine AllReadyF.cons (o := { dst := some 110, op := .call { callee := .builtin .append, args := #[(.tmp 94), (.tmp 109)], argTypes := #[23, 23] }, type := _, pos := _, after := _, guard := none }) rfl (fun K hK => ?_) ?_
        ·skip
         refine wp_append_run (.tmp 94) (.tmp 109) 23 rfl (.slice z1 z2 z3) (.slice (some ⟨wp.heap.size, 0, none⟩) 1 1) rfl rfl _ _ hr ?_
         refine hK.out _ _ ?_ (fun hHeld => ?_)
         ·exact hSz.out
         clear hK K
         try simp only [Act.put, zT, z0, zS]
         refine wpAnyF_ready (rs := [17]) (by kernel_rfl) (by simp) ?_
         refine AllReadyF.last (o := { dst := some 18, op := .assign (.tmp 110), type := _, pos := _, after := _, guard := none }) rfl (fun K hK => ?_) ?_
         ·skip
          go_simp
          go_wp2_with fail
          refine hK.out _ _ ?_
          clear hK K
          try simp only [Act.put, zT, z0, zS]
          refine wpAnyF_done (by kernel_rfl) ?_ _
          go_wp2_with fail
          go_roundw
          case rel => exact ⟨n + 1, by omega, by go_num, ⟨_, _, _, rfl⟩, hend.out⟩
          case measure => simp [intOf]; omega
         exact AllReadyF.nil
        exact AllReadyF.nil
       exact AllReadyF.nil
      exact AllReadyF.nil
     exact AllReadyF.nil
    refine AllReadyF.cons (o := { dst := some 105, op := .call { callee := .value (.func 21), args := #[(.tmp 104), (Operand.const (Value.int IntKind.i64 3))], argTypes := #[3, 3] }, type := _, pos := _, after := _, guard := none }) rfl (fun K hK => ?_) ?_
    ·skip
     go_simp
     with_reducible refine (p3.out _).mono ?_
     rintro e w' ⟨rfl, rfl⟩
     go_wp2_with fail
     refine hK.out _ _ ?_ (fun hHeld => ?_)
     ·exact hHeld
     clear hK K
     try simp only [Act.put, zT, z0, zS]
     refine wpAnyF_ready (rs := [6]) (by kernel_rfl) (by simp) ?_
     refine AllReadyF.cons (o := { dst := some 100, op := .buildSlice 35 3 #[(0, (Operand.const (Value.string { data := #[] }))), (1, (Operand.const (Value.string { data := #[113] }))), (2, (Operand.const (Value.string { data := #[114, 115] })))], type := _, pos := _, after := _, guard := none }) rfl (fun K hK => ?_) ?_
     ·skip
      go_simp
      go_wp2_with fail
      refine hK.out _ _ ?_ (fun hHeld => ?_)
      ·exact hSp.out
      clear hK K
      try simp only [Act.put, zT, z0, zS]
      refine takeA (i := 12) (oi := { dst := some 106, op := .indexAddr 35 (.tmp 100) (.tmp 105), type := _, pos := _, after := _, guard := none }) (v := ?_) rfl (Or.inl ⟨by rfl, ?_⟩) (by assumption) ?_
      rotate_left
      ·(intro w hSw; (try dsimp only at hSw); go_simp) <;> with_reducible rfl
      try simp only [Act.put, zT, z0, zS]
      refine wpAnyF_ready (rs := [13]) (by kernel_rfl) (by simp) ?_
      refine AllReadyF.cons (o := { dst := some 107, op := .load 9 (.tmp 106), type := _, pos := _, after := _, guard := none }) rfl (fun K hK => ?_) ?_
      ·skip
       go_simp
       go_wp2_with fail
       refine hK.out _ _ ?_ (fun hHeld => ?_)
       ·exact hSp.out
       clear hK K
       try simp only [Act.put, zT, z0, zS]
       rw [← hwp.out] at hHeld ⊢
       refine takeA (i := 14) (oi := { dst := some 108, op := .build 46 #[(0, (.tmp 99)), (1, (.tmp 107))], type := _, pos := _, after := _, guard := none }) (v := ?_) rfl (Or.inl ⟨by rfl, ?_⟩) (by assumption) ?_
       rotate_left
       ·(intro w hSw; (try dsimp only at hSw); go_simp) <;> with_reducible rfl
       try simp only [Act.put, zT, z0, zS]
       refine wpAnyF_ready (rs := [15]) (by kernel_rfl) (by simp) ?_
       refine AllReadyF.cons (o := { dst := some 109, op := .buildSlice 23 1 #[(0, (.tmp 108))], type := _, pos := _, after := _, guard := none }) rfl (fun K hK => ?_) ?_
       ·skip
        go_simp
        go_wp2_with fail
        refine hK.out _ _ ?_ (fun hHeld => ?_)
        ·exact hSq.out
        clear hK K
        try simp only [Act.put, zT, z0, zS]
        refine wpAnyF_ready (rs := [16]) (by kernel_rfl) (by simp) ?_
        refine AllReadyF.cons (o := { dst := some 110, op := .call { callee := .builtin .append, args := #[(.tmp 94), (.tmp 109)], argTypes := #[23, 23] }, type := _, pos := _, after := _, guard := none }) rfl (fun K hK => ?_) ?_
        ·skip
         refine wp_append_run (.tmp 94) (.tmp 109) 23 rfl (.slice z1 z2 z3) (.slice (some ⟨wp.heap.size, 0, none⟩) 1 1) rfl rfl _ _ hr ?_
         refine hK.out _ _ ?_ (fun hHeld => ?_)
         ·exact hSz.out
         clear hK K
         try simp only [Act.put, zT, z0, zS]
         refine wpAnyF_ready (rs := [17]) (by kernel_rfl) (by simp) ?_
         refine AllReadyF.last (o := { dst := some 18, op := .assign (.tmp 110), type := _, pos := _, after := _, guard := none }) rfl (fun K hK => ?_) ?_
         ·skip
          go_simp
          go_wp2_with fail
          refine hK.out _ _ ?_
          clear hK K
          try simp only [Act.put, zT, z0, zS]
          refine wpAnyF_done (by kernel_rfl) ?_ _
          go_wp2_with fail
          go_roundw
          case rel => exact ⟨n + 1, by omega, by go_num, ⟨_, _, _, rfl⟩, hend.out⟩
          case measure => simp [intOf]; omega
         exact AllReadyF.nil
        exact AllReadyF.nil
       exact AllReadyF.nil
      exact AllReadyF.nil
     exact AllReadyF.nil
    exact AllReadyF.nil
   ·have i0 : (0 : Int) ≤ (n : Int) := by omega
    have i1 : (n : Int) < (ooK : Int) := by omega
    have i2 : ¬ (n : Int) < (hn : Int) := by omega
    rw [fCf.out n (.inr (by rw [← hhn.out]; omega))] at oc
    have fC := Lib.hid (fun W (B : Below wr.heap.size wr W) => (OwnG.SL eE_len oc).below B)
    have kw4 := Lib.hid (kw3.out.trans (B.mono kw3.out.size))
    have hOs := Lib.hid (hO3.out.below B)
    have sK := Lib.hid (show ∀ W, Below wr.heap.size wr W → W.cell? ⟨go, 0, none⟩ = some (.slice oo1 ooK oo2) ∧ W.cell? ⟨go, 1, none⟩ = some (.slice oo3 ooV oo4) ∧ W.cell? ⟨go, 2, none⟩ = some (.slice oo5 ooP oo6) ∧ W.cell? ⟨gR, 0, none⟩ = some (.slice ra m rc) ∧ W.cell? ⟨gR, 1, none⟩ = some (.slice rd nv re) ∧ W.cell? ⟨gR, 2, none⟩ = some (.slice rf pv rg) ∧ W.cell? ⟨gR + 1, 0, none⟩ = some (.int .i64 q0) ∧ W.cell? ⟨gR + 1, 1, none⟩ = some (.int .i64 q1) ∧ W.cell? ⟨gR + 1, 2, none⟩ = some (.int .i64 q2) ∧ W.cell? ⟨gR + 1, 3, none⟩ = some (.int .i64 q3) ∧ W.cell? ⟨gR + 1, 4, none⟩ = some (.int .i64 q4) ∧ W.cell? ⟨gR + 1, 5, none⟩ = some (.int .i64 q5) from fun W BW' => by
     have BW := B.trans (BW'.mono B.size)
     exact ⟨cell_of_row _ _ 0 _ 37 (0, 0) ((BW.block _ (Array.getElem?_eq_some_iff.1 bO3.out).1).trans bO3.out), cell_of_row _ _ 1 _ 37 (0, 0) ((BW.block _ (Array.getElem?_eq_some_iff.1 bO3.out).1).trans bO3.out), cell_of_row _ _ 2 _ 37 (0, 0) ((BW.block _ (Array.getElem?_eq_some_iff.1 bO3.out).1).trans bO3.out), cell_of_row _ _ 0 _ 37 (0, 0) ((BW.block _ (Array.getElem?_eq_some_iff.1 BRh.out).1).trans BRh.out), cell_of_row _ _ 1 _ 37 (0, 0) ((BW.block _ (Array.getElem?_eq_some_iff.1 BRh.out).1).trans BRh.out), cell_of_row _ _ 2 _ 37 (0, 0) ((BW.block _ (Array.getElem?_eq_some_iff.1 BRh.out).1).trans BRh.out), cell_of_row _ _ 0 _ 43 (0, 0) ((BW.block _ (Array.getElem?_eq_some_iff.1 bH3.out).1).trans bH3.out), cell_of_row _ _ 1 _ 43 (0, 0) ((BW.block _ (Array.getElem?_eq_some_iff.1 bH3.out).1).trans bH3.out), cell_of_row _ _ 2 _ 43 (0, 0) ((BW.block _ (Array.getElem?_eq_some_iff.1 bH3.out).1).trans bH3.out), cell_of_row _ _ 3 _ 43 (0, 0) ((BW.block _ (Array.getElem?_eq_some_iff.1 bH3.out).1).trans bH3.out), cell_of_row _ _ 4 _ 43 (0, 0) ((BW.block _ (Array.getElem?_eq_some_iff.1 bH3.out).1).trans bH3.out), cell_of_row _ _ 5 _ 43 (0, 0) ((BW.block _ (Array.getElem?_eq_some_iff.1 bH3.out).1).trans bH3.out)⟩)
    have hbdO := Lib.hid (obd_proved L ks hmph.out hasch.out)
    have cB0 := Lib.hid (fun vo ks vs ps W ho hb => bent_any vo ks vs ps q0 q1 q2 W ho rfl hb hqh.out.1.1 hqh.out.1.2.1 hqh.out.1.2.2)
    have cB1 := Lib.hid (fun vo ks vs ps W ho hb => bent_any vo ks vs ps q3 q4 q5 W ho rfl hb hqh.out.2.1 hqh.out.2.2.1 hqh.out.2.2.2)
    have hRs := Lib.hid (show ∀ W, Below wr.heap.size wr W → OpV W (.agg #[.slice ra m rc, .slice rd nv re, .slice rf pv rg]) (rks.take m) (rvs.take nv) (rps.take pv) from fun W BW => by
     have B' := kw4.out.trans (BW.mono kw4.out.size)
     exact ⟨_, _, _, rfl, SLG.take (fA.out W B') (by rw [← hrn.out]; omega), SLG.take (fB.out W B') (by rw [← hrv.out]; omega), SLG.take (fC0.out W B') (by rw [← hrp.out]; omega)⟩)
    clear oc B fKk fVk fCs fCl
    go_wp2_with fail
    refine wp_region_held_drew (S := (fun w' : World => w'.cell? ⟨go, 0, none⟩ = some (.slice oo1 ooK oo2) ∧ w'.cell? ⟨go, 1, none⟩ = some (.slice oo3 ooV oo4) ∧ w'.cell? ⟨go, 2, none⟩ = some (.slice oo5 ooP oo6) ∧ w'.cell? ⟨gR, 0, none⟩ = some (.slice ra m rc) ∧ w'.cell? ⟨gR, 1, none⟩ = some (.slice rd nv re) ∧ w'.cell? ⟨gR, 2, none⟩ = some (.slice rf pv rg) ∧ w'.cell? ⟨gR + 1, 0, none⟩ = some (.int .i64 q0) ∧ w'.cell? ⟨gR + 1, 1, none⟩ = some (.int .i64 q1) ∧ w'.cell? ⟨gR + 1, 2, none⟩ = some (.int .i64 q2) ∧ w'.cell? ⟨gR + 1, 3, none⟩ = some (.int .i64 q3) ∧ w'.cell? ⟨gR + 1, 4, none⟩ = some (.int .i64 q4) ∧ w'.cell? ⟨gR + 1, 5, none⟩ = some (.int .i64 q5))) (by kernel_rfl) (sK.out _ (Below.refl _ wr).drew) (fun hHeld => ?_)
    refine takeH (i := 0) (oi := { dst := some 111, op := .load 37 (.tmp 16), type := _, pos := _, after := _, guard := none }) (v := ?_) rfl (Or.inl ⟨by rfl, ?_⟩) (by assumption) ?_
    rotate_left
    ·(intro w hSw; (try dsimp only at hSw); go_simp) <;> with_reducible rfl
    try simp only [Act.put, zT, z0, zS]
    refine takeH (i := 1) (oi := { dst := some 112, op := .load 37 (.tmp 16), type := _, pos := _, after := _, guard := none }) (v := ?_) rfl (Or.inl ⟨by rfl, ?_⟩) (by assumption) ?_
    rotate_left
    ·(intro w hSw; (try dsimp only at hSw); go_simp) <;> with_reducible rfl
    try simp only [Act.put, zT, z0, zS]
    refine takeH (i := 2) (oi := { dst := some 113, op := .indexAddr 43 (.tmp 9) ((Operand.const (Value.int IntKind.i64 0))), type := _, pos := _, after := _, guard := none }) (v := ?_) rfl (Or.inl ⟨by rfl, ?_⟩) (by assumption) ?_
    rotate_left
    ·(intro w hSw; (try dsimp only at hSw); go_simp) <;> with_reducible rfl
    try simp only [Act.put, zT, z0, zS]
    refine takeH (i := 3) (oi := { dst := some 114, op := .load 42 (.tmp 113), type := _, pos := _, after := _, guard := none }) (v := ?_) rfl (Or.inl ⟨by rfl, ?_⟩) (by assumption) ?_
    rotate_left
    ·(intro w hSw; (try dsimp only at hSw); go_simp) <;> with_reducible rfl
    try simp only [Act.put, zT, z0, zS]
    refine takeH (i := 5) (oi := { dst := some 116, op := .load 37 (.tmp 16), type := _, pos := _, after := _, guard := none }) (v := ?_) rfl (Or.inl ⟨by rfl, ?_⟩) (by assumption) ?_
    rotate_left
    ·(intro w hSw; (try dsimp only at hSw); go_simp) <;> with_reducible rfl
    try simp only [Act.put, zT, z0, zS]
    refine takeH (i := 6) (oi := { dst := some 117, op := .indexAddr 43 (.tmp 9) ((Operand.const (Value.int IntKind.i64 0))), type := _, pos := _, after := _, guard := none }) (v := ?_) rfl (Or.inl ⟨by rfl, ?_⟩) (by assumption) ?_
    rotate_left
    ·(intro w hSw; (try dsimp only at hSw); go_simp) <;> with_reducible rfl
    try simp only [Act.put, zT, z0, zS]
    refine takeH (i := 7) (oi := { dst := some 118, op := .load 42 (.tmp 117), type := _, pos := _, after := _, guard := none }) (v := ?_) rfl (Or.inl ⟨by rfl, ?_⟩) (by assumption) ?_
    rotate_left
    ·(intro w hSw; (try dsimp only at hSw); go_simp) <;> with_reducible rfl
    try simp only [Act.put, zT, z0, zS]
    refine takeH (i := 9) (oi := { dst := some 120, op := .indexAddr 43 (.tmp 9) ((Operand.const (Value.int IntKind.i64 1))), type := _, pos := _, after := _, guard := none }) (v := ?_) rfl (Or.inl ⟨by rfl, ?_⟩) (by assumption) ?_
    rotate_left
    ·(intro w hSw; (try dsimp only at hSw); go_simp) <;> with_reducible rfl
    try simp only [Act.put, zT, z0, zS]
    refine takeH (i := 10) (oi := { dst := some 121, op := .load 42 (.tmp 120), type := _, pos := _, after := _, guard := none }) (v := ?_) rfl (Or.inl ⟨by rfl, ?_⟩) (by assumption) ?_
    rotate_left
    ·(intro w hSw; (try dsimp only at hSw); go_simp) <;> with_reducible rfl
    try simp only [Act.put, zT, z0, zS]
    refine takeH (i := 12) (oi := { dst := some 123, op := .load 37 (.tmp 8), type := _, pos := _, after := _, guard := none }) (v := ?_) rfl (Or.inl ⟨by rfl, ?_⟩) (by assumption) ?_
    rotate_left
    ·(intro w hSw; (try dsimp only at hSw); go_simp) <;> with_reducible rfl
    try simp only [Act.put, zT, z0, zS]
    refine takeH (i := 15) (oi := { dst := some 126, op := .move ((Operand.const (Value.int IntKind.i64 0))), type := _, pos := _, after := _, guard := none }) (v := ?_) rfl (Or.inl ⟨by rfl, ?_⟩) (by assumption) ?_
    rotate_left
    ·(intro w hSw; (try dsimp only at hSw); go_simp) <;> with_reducible rfl
    try simp only [Act.put, zT, z0, zS]
    refine wpAnyH_ready (rs := [4]) (by kernel_rfl) (by simp) ?_
    refine AllReadyH.cons (o := { dst := some 115, op := .call { callee := .value (.func 22), args := #[(.tmp 112), (.tmp 114)], argTypes := #[37, 42] }, type := _, pos := _, after := _, guard := none }) rfl (fun K hK => ?_) ?_
    ·skip
     go_simp
     with_reducible refine (cB0.out _ _ _ _ wr.drew (hOs.out.below (Below.refl _ wr).drew) hbdO.out).mono ?_
     rintro e x1 ⟨bav, bak, bas, bap, rfl, bao, bad, b⟩
     have kx1 : Below wr.heap.size wr x1 := (Below.refl wr.heap.size wr).drew.trans b
     obtain ⟨bank, hbak⟩ : ∃ n, Hid (bak.length = n) := ⟨_, rfl⟩
     obtain ⟨bans, hbas⟩ : ∃ n, Hid (bas.length = n) := ⟨_, rfl⟩
     obtain ⟨banp, hbap⟩ : ∃ n, Hid (bap.length = n) := ⟨_, rfl⟩
     obtain ⟨ba1, ba2, ba3, ba4, ba5, ba6, rfl⟩ := bao.form bank bans banp hbak.out hbas.out hbap.out
     have bah := Lib.hid bao
     have bab := Lib.hid bad
     have x1to := Lib.hid (Below.refl x1.heap.size x1)
     clear bao bad b
     go_wp2_with fail
     refine hK.out _ _ ?_ (fun hHeld => ?_)
     ·exact sK.out _ kx1
     clear hK K
     try simp only [Act.put, zT, z0, zS]
     refine wpAnyH_ready (rs := [8]) (by kernel_rfl) (by simp) ?_
     refine AllReadyH.cons (o := { dst := some 119, op := .call { callee := .value (.func 22), args := #[(.tmp 116), (.tmp 118)], argTypes := #[37, 42] }, type := _, pos := _, after := _, guard := none }) rfl (fun K hK => ?_) ?_
     ·skip
      go_simp
      with_reducible refine (cB0.out _ _ _ _ x1 (hOs.out.below kx1) hbdO.out).mono ?_
      rintro e x2 ⟨bbv, bbk, bbs, bbp, rfl, bbo, bbd, b⟩
      have kx2 : Below wr.heap.size wr x2 := kx1.trans (b.mono kx1.size)
      obtain ⟨bbnk, hbbk⟩ : ∃ n, Hid (bbk.length = n) := ⟨_, rfl⟩
      obtain ⟨bbns, hbbs⟩ : ∃ n, Hid (bbs.length = n) := ⟨_, rfl⟩
      obtain ⟨bbnp, hbbp⟩ : ∃ n, Hid (bbp.length = n) := ⟨_, rfl⟩
      obtain ⟨bb1, bb2, bb3, bb4, bb5, bb6, rfl⟩ := bbo.form bbnk bbns bbnp hbbk.out hbbs.out hbbp.out
      have bbh := Lib.hid bbo
      have bbb := Lib.hid bbd
      replace x1to := Lib.hid (x1to.out.trans (b.mono x1to.out.size))
      clear bbo bbd b
      go_wp2_with fail
      refine hK.out _ _ ?_ (fun hHeld => ?_)
      ·exact sK.out _ kx2
      clear hK K
      try simp only [Act.put, zT, z0, zS]
      refine wpAnyH_ready (rs := [11]) (by kernel_rfl) (by simp) ?_
      refine AllReadyH.cons (o := { dst := some 122, op := .call { callee := .value (.func 22), args := #[(.tmp 119), (.tmp 121)], argTypes := #[37, 42] }, type := _, pos := _, after := _, guard := none }) rfl (fun K hK => ?_) ?_
      ·skip
       go_simp
       with_reducible refine (cB1.out _ _ _ _ x2 bbh.out bbb.out).mono ?_
       rintro e x3 ⟨bcv, bck, bcs, bcp, rfl, bco, bcd, b⟩
       have kx3 : Below wr.heap.size wr x3 := kx2.trans (b.mono kx2.size)
       obtain ⟨bcnk, hbck⟩ : ∃ n, Hid (bck.length = n) := ⟨_, rfl⟩
       obtain ⟨bcns, hbcs⟩ : ∃ n, Hid (bcs.length = n) := ⟨_, rfl⟩
       obtain ⟨bcnp, hbcp⟩ : ∃ n, Hid (bcp.length = n) := ⟨_, rfl⟩
       obtain ⟨bc1, bc2, bc3, bc4, bc5, bc6, rfl⟩ := bco.form bcnk bcns bcnp hbck.out hbcs.out hbcp.out
       have bch := Lib.hid bco
       have bcb := Lib.hid bcd
       replace x1to := Lib.hid (x1to.out.trans (b.mono x1to.out.size))
       clear bco bcd b
       go_wp2_with fail
       refine hK.out _ _ ?_ (fun hHeld => ?_)
       ·exact sK.out _ kx3
       clear hK K
       try simp only [Act.put, zT, z0, zS]
       refine wpAnyH_ready (rs := [13]) (by kernel_rfl) (by simp) ?_
       refine AllReadyH.cons (o := { dst := some 124, op := .buildSlice 48 4 #[(0, (.tmp 111)), (1, (.tmp 115)), (2, (.tmp 122)), (3, (.tmp 123))], type := _, pos := _, after := _, guard := none }) rfl (fun K hK => ?_) ?_
       ·skip
        go_simp
        go_wp2_with fail
        refine hK.out _ _ ?_ (fun hHeld => ?_)
        ·exact sK.out _ (kx3.alloc kx3.size _)
        clear hK K
        try simp only [Act.put, zT, z0, zS]
        refine takeH (i := 14) (oi := { dst := some 125, op := .call { callee := .builtin .len, args := #[(.tmp 124)], argTypes := #[48] }, type := _, pos := _, after := _, guard := none }) (v := ?_) rfl (Or.inl ⟨by rfl, ?_⟩) (by assumption) ?_
        rotate_left
        ·(intro w hSw; (try dsimp only at hSw); go_simp) <;> with_reducible rfl
        try simp only [Act.put, zT, z0, zS]
        refine wpAnyH_done (by kernel_rfl) ?_ _
        obtain ⟨wz, hwz⟩ : ∃ W, W = x3.alloc (.cells #[.slice oo1 ooK oo2, .slice oo3 ooV oo4, .slice oo5 ooP oo6, .slice ba1 bank ba2, .slice ba3 bans ba4, .slice ba5 banp ba6, .slice bc1 bcnk bc2, .slice bc3 bcns bc4, .slice bc5 bcnp bc6, .slice ra m rc, .slice rd nv re, .slice rf pv rg] 37) := ⟨_, rfl⟩
        rw [← hwz]
        have bz : Below x3.heap.size x3 wz := by rw [hwz]; exact (Below.refl _ _).alloc (Nat.le_refl _) _
        have hz : wz.heap[x3.heap.size]? = some (.cells #[.slice oo1 ooK oo2, .slice oo3 ooV oo4, .slice oo5 ooP oo6, .slice ba1 bank ba2, .slice ba3 bans ba4, .slice ba5 banp ba6, .slice bc1 bcnk bc2, .slice bc3 bcns bc4, .slice bc5 bcnp bc6, .slice ra m rc, .slice rd nv re, .slice rf pv rg] 37 (0, 0)) := by rw [hwz]; exact heap_alloc_new _ _
        have hzs : x3.heap.size < wz.heap.size := by rw [hwz]; simp
        have kz := kx3.trans (bz.mono kx3.size)
        have obx : ∀ {ks : List Int} {vs ps : List Str}, OBd ks vs ps → ks.length ≤ 64 ∧ (∀ x ∈ ks, I64 x) ∧ vs.length ≤ 1000 ∧ ps.length ≤ 1000 := fun h => ⟨h.1, h.2.2.2.1, by rw [h.2.1]; have := h.1; omega, by have := h.2.2.1; omega⟩
        have key := Lib.hid (show ∀ k : Nat, k < 4 → ∃ a1 a2 a3 b1 b2 b3 c1 c2 c3, ∃ (kk : List Int) (kv kp : List Str), (∀ W, Below wz.heap.size wz W → W.cell? ⟨x3.heap.size, k * 3, none⟩ = some (.slice a1 a2 a3) ∧ W.cell? ⟨x3.heap.size, k * 3 + 1, none⟩ = some (.slice b1 b2 b3) ∧ W.cell? ⟨x3.heap.size, k * 3 + 2, none⟩ = some (.slice c1 c2 c3)) ∧ (∀ W, Below wz.heap.size wz W → OpV W (.agg #[.slice a1 a2 a3, .slice b1 b2 b3, .slice c1 c2 c3]) kk kv kp) ∧ (kk.length ≤ 64 ∧ (∀ x ∈ kk, I64 x) ∧ kv.length ≤ 1000 ∧ kp.length ≤ 1000) from fun k hk => by
         have hB : ∀ W, Below wz.heap.size wz W → W.heap[x3.heap.size]? = some (.cells #[.slice oo1 ooK oo2, .slice oo3 ooV oo4, .slice oo5 ooP oo6, .slice ba1 bank ba2, .slice ba3 bans ba4, .slice ba5 banp ba6, .slice bc1 bcnk bc2, .slice bc3 bcns bc4, .slice bc5 bcnp bc6, .slice ra m rc, .slice rd nv re, .slice rf pv rg] 37 (0, 0)) := fun W B => (B.block _ hzs).trans hz
         have hcell : ∀ W, Below wz.heap.size wz W → ∀ i, W.cell? ⟨x3.heap.size, i, none⟩ = (#[.slice oo1 ooK oo2, .slice oo3 ooV oo4, .slice oo5 ooP oo6, .slice ba1 bank ba2, .slice ba3 bans ba4, .slice ba5 banp ba6, .slice bc1 bcnk bc2, .slice bc3 bcns bc4, .slice bc5 bcnp bc6, .slice ra m rc, .slice rd nv re, .slice rf pv rg] : Array Value)[i]? := fun W B i => cell_of_row _ _ _ _ _ _ (hB W B)
         match k, hk with
          | 0, _ => exact ⟨oo1, ooK, oo2, oo3, ooV, oo4, oo5, ooP, oo6, ks, valsL L ks, pathL L ks, fun W B => ⟨hcell W B 0, hcell W B 1, hcell W B 2⟩, fun W B => hOs.out.below (kz.trans (B.mono kz.size)), obx hbdO.out⟩
          | 1, _ => exact ⟨ba1, bank, ba2, ba3, bans, ba4, ba5, banp, ba6, bak, bas, bap, fun W B => ⟨hcell W B 3, hcell W B 4, hcell W B 5⟩, fun W B => ((bah.out.below (x1to.out)).below (bz.trans (B.mono bz.size))), obx bab.out⟩
          | 2, _ => exact ⟨bc1, bcnk, bc2, bc3, bcns, bc4, bc5, bcnp, bc6, bck, bcs, bcp, fun W B => ⟨hcell W B 6, hcell W B 7, hcell W B 8⟩, fun W B => (bch.out.below (bz.trans (B.mono bz.size))), obx bcb.out⟩
          | 3, _ => exact ⟨ra, m, rc, rd, nv, re, rf, pv, rg, rks.take m, rvs.take nv, rps.take pv, fun W B => ⟨hcell W B 9, hcell W B 10, hcell W B 11⟩, fun W B => hRs.out W (kz.trans (B.mono kz.size)), ⟨by rw [List.length_take]; omega, fun x hx => hAI.out x (List.mem_of_mem_take hx), by rw [List.length_take]; omega, by rw [List.length_take]; omega⟩⟩)
        have toW := Lib.hid (show ∀ W, Below wz.heap.size wz W → Below w.heap.size w W from fun W B => (kw4.out.trans (kz.mono kw4.out.size)).trans (B.mono (Nat.le_trans kw4.out.size kz.size)))
        have fCz := Lib.hid (show ∀ W, Below wz.heap.size wz W → SE W (.slice z1 z2 z3) C from fun W B => fC.out W (kz.trans (B.mono kz.size)))
        clear hwz hz hzs bz kz kx1 kx2 kx3 hOs hRs bah bbh bch bab bbb bcb kw4 sK hHeld x1to
        obtain ⟨bz, hbz⟩ : ∃ g, x3.heap.size = g := ⟨_, rfl⟩
        rw [hbz] at key ⊢
        clear hbz
        go_wp2_with fail
        go_loopw [126] (fun iv wr => ∃ k : Nat, k ≤ 4 ∧ iv = .int .i64 k ∧ Below wz.heap.size wz wr) (fun iv _ => 4 - (intOf iv).toNat)
        case atStart => exact ⟨0, by omega, rfl, Below.refl _ _⟩
        case round =>
         obtain ⟨k, hk, rfl, B⟩ := hrel
         by_cases hlt4 : k < 4
         ·have i0 : (0 : Int) ≤ (k : Int) := by omega
          have i1 : (k : Int) < 4 := by omega
          obtain ⟨a1, a2, a3, b1, b2, b3, c1, c2, c3, kk, kv, kp, hc, hOp, hb1, hbI, hb2, hb3⟩ := key.out k hlt4
          obtain ⟨c0, c1', c2'⟩ := hc wr B
          have hOph := Lib.hid hOp
          have cRd := Lib.hid (show ∀ W, Below wz.heap.size wz W → Calls Tryd.prog 23 #[.string ⟨RL.toArray⟩, .agg #[.slice a1 a2 a3, .slice b1 b2 b3, .slice c1 c2 c3]] W (ReadU RL kk kv kp W) from fun W B' => (Read_any RL _ kk kv kp W rfl (hOp W B') (by omega) (by omega) (by omega) (hT.out.below (toW.out W B'))).mono (fun _ _ h => read_uni h))
          have cRr := Lib.hid (show ∀ W, Below wz.heap.size wz W → Calls Tryd.prog 24 #[.string ⟨RL.toArray⟩, .agg #[.slice a1 a2 a3, .slice b1 b2 b3, .slice c1 c2 c3]] W (ReadU RL kk kv kp W) from fun W B' => (ReadR_any RL _ kk kv kp W (hOp W B') rfl (by omega) hbI (by omega) (by omega)).mono (fun _ _ h => read_uni h))
          have cUp := Lib.hid (show ∀ W vc E, Below wz.heap.size wz W → SE W vc E → E.length ≤ 1000 → Calls Tryd.prog 27 #[.string ⟨RL.toArray⟩, .agg #[.slice a1 a2 a3, .slice b1 b2 b3, .slice c1 c2 c3], vc] W (UpdPost RL kk kv kp E W) from fun W vc E B' h1 h2 => Update_any RL _ vc kk kv kp E W rfl (hOp W B') h1 (by omega) (by omega) (by omega) (by omega) (hT.out.below (toW.out W B')))
          have cUr := Lib.hid (show ∀ W vc E, Below wz.heap.size wz W → SE W vc E → E.length ≤ 1000 → (∀ e ∈ E, I64 e.1) → Calls Tryd.prog 28 #[.string ⟨RL.toArray⟩, .agg #[.slice a1 a2 a3, .slice b1 b2 b3, .slice c1 c2 c3], vc] W (UpdPost RL kk kv kp E W) from fun W vc E B' h1 h2 h3 => UpdateR_any RL _ vc kk kv kp E W rfl (hOp W B') h1 (by omega) hbI (by omega) (by omega) h2 h3)
          have hEE := Lib.hid (rE_len RL kk kv kp)
          have hAA := Lib.hid (rA_len RL kk kv kp)
          have hb1h := Lib.hid hb1
          clear hc hOp hbI hb1 hb2 hb3
          go_upto_region 19 with (fail)
          obtain ⟨wb, hwb⟩ : ∃ W, W = wr.alloc (.cells #[.slice a1 a2 a3, .slice b1 b2 b3, .slice c1 c2 c3] 37) := ⟨_, rfl⟩
          rw [← hwb]
          obtain ⟨bb, zb, hbx⟩ := box_world wr wb _ _ _ 37 hwb
          have Bb := B.trans (bb.mono B.size)
          have hbx := Lib.hid hbx
          rename_i xo; clear xo hwb bb zb c0 c1' c2'
          obtain ⟨gX, hgX⟩ : ∃ g, wr.heap.size = g := ⟨_, rfl⟩
          rw [hgX] at hbx ⊢
          clear hgX
          obtain ⟨d0, d1, d2⟩ := hbx.out wb (Below.refl _ _)
          go_wp2_with fail
          with_reducible refine (cRd.out _ Bb).mono ?_
          rintro e w6' ⟨t1, u1, rfl, ht1, hu1, b⟩
          clear d0 d1 d2
          have B6 := Bb.trans (b.mono Bb.size)
          have k6 := Lib.hid b
          obtain ⟨d0, d1, d2⟩ := hbx.out w6' k6.out
          clear b
          go_wp2_with fail
          with_reducible refine (cRr.out _ B6).mono ?_
          rintro e w7 ⟨t2, u2, rfl, ht2, hu2, b⟩
          have B7 := B6.trans (b.mono B6.size)
          replace k6 := Lib.hid (k6.out.trans (b.mono k6.out.size))
          have ht1 := ht1.below b
          have hu1 := hu1.below b
          clear d0 d1 d2 b cRd cRr B6
          obtain ⟨bS, hbS⟩ : ∃ b, shownB RL kk kv kp = b := ⟨_, rfl⟩
          rw [hbS]
          obtain ⟨EE, hEEq⟩ : ∃ b, rE RL kk kv kp = b := ⟨_, rfl⟩
          obtain ⟨AE, hAEq⟩ : ∃ b, rA RL kk kv kp = b := ⟨_, rfl⟩
          rw [hEEq] at ht1 ht2 hEE
          rw [hAEq] at hu1 hu2 hAA
          clear hbS hEEq hAEq
          have hEl := hEE.out
          have hAl := hAA.out
          have hb1 := hb1h.out
          have fE1 := Lib.hid (fun W (B : Below w7.heap.size w7 W) => ht1.below B)
          have fE2 := Lib.hid (fun W (B : Below w7.heap.size w7 W) => ht2.below B)
          have fA1 := Lib.hid (fun W (B : Below w7.heap.size w7 W) => hu1.below B)
          have fA2 := Lib.hid (fun W (B : Below w7.heap.size w7 W) => hu2.below B)
          have cSE := Lib.hid (show ∀ W, Below w7.heap.size w7 W → Calls Tryd.prog 25 #[t1, t2] W fun e w' => e = .returned (.bool true) ∧ Below W.heap.size W w' from fun W B' => by
           have h := SameEntries_any _ _ EE EE W (fE1.out W B') (fE2.out W B') (by omega) (by omega)
           simpa using h)
          have cSI := Lib.hid (show ∀ W, Below w7.heap.size w7 W → Calls Tryd.prog 26 #[u1, u2] W fun e w' => e = .returned (.bool true) ∧ Below W.heap.size W w' from fun W B' => by
           have h := Ints_any _ _ AE AE W (fA1.out W B') (fA2.out W B') (by omega) (by omega)
           simpa using h)
          obtain ⟨t11, t12, t13, rfl, _⟩ := ht1.shape'
          obtain ⟨t21, t22, t23, rfl, _⟩ := ht2.shape'
          obtain ⟨u11, u12, u13, rfl, _⟩ := hu1.shape'
          obtain ⟨u21, u22, u23, rfl, _⟩ := hu2.shape'
          have hbb : (bS != bS) = false := by simp
          have k7 := Lib.hid (Below.refl w7.heap.size w7)
          clear ht1 ht2 hu1 hu2 hEl hAl hb1 hEE hAA fE1 fE2 fA1 fA2 hb1h
          go_wp2_with fail
          with_reducible refine (cSE.out _ k7.out).mono ?_
          rintro e w8 ⟨rfl, b⟩
          have B8 := B7.trans (b.mono B7.size)
          replace k6 := Lib.hid (k6.out.trans (b.mono k6.out.size))
          replace k7 := Lib.hid (k7.out.trans (b.mono k7.out.size))
          clear b cSE
          go_wp2_with fail
          with_reducible refine (cSI.out _ k7.out).mono ?_
          rintro e w9 ⟨rfl, b⟩
          have B9 := B8.trans (b.mono B8.size)
          replace k6 := Lib.hid (k6.out.trans (b.mono k6.out.size))
          clear b cSI k7 hbb B7 B8
          go_wp2_with fail
          with_reducible refine (cFew.out _ (toW.out _ B9)).mono ?_
          rintro e w10 ⟨vf, rfl, of, b⟩
          obtain ⟨f1, f2, f3, rfl, _⟩ := (OwnG.SL eE_len of).shape'
          have fF := Lib.hid (fun W (B : Below w10.heap.size w10 W) => (OwnG.SL eE_len of).below B)
          have B10 := B9.trans (b.mono B9.size)
          replace k6 := Lib.hid (k6.out.trans (b.mono k6.out.size))
          clear b of B9
          go_upto_region 24 with (fail)
          obtain ⟨wq, hwq⟩ : ∃ W, W = w10.alloc (.cells #[.slice f1 f2 f3, .slice z1 z2 z3] 23) := ⟨_, rfl⟩
          rw [← hwq]
          have bq : Below w10.heap.size w10 wq := by rw [hwq]; exact (Below.refl _ _).alloc (Nat.le_refl _) _
          have hz : wq.heap[w10.heap.size]? = some (.cells #[.slice f1 f2 f3, .slice z1 z2 z3] 23 (0, 0)) := by rw [hwq]; exact heap_alloc_new _ _
          have hzs : w10.heap.size < wq.heap.size := by rw [hwq]; simp
          have Bq := B10.trans (bq.mono B10.size)
          have hbq := Lib.hid (show ∀ W, Below wq.heap.size wq W → _ from fun W B => hbx.out W ((k6.out.trans (bq.mono k6.out.size)).trans (B.mono (Nat.le_trans k6.out.size bq.size))))
          have key2 := Lib.hid (show ∀ i : Nat, i < 2 → ∃ s1 s2 s3, ∃ (E : List Ent), (∀ W, Below wq.heap.size wq W → W.cell? ⟨w10.heap.size, i, none⟩ = some (.slice s1 s2 s3)) ∧ (∀ W, Below wq.heap.size wq W → SE W (.slice s1 s2 s3) E) ∧ E.length ≤ 1000 ∧ (∀ e ∈ E, I64 e.1) from fun i hi => by
           have hcell : ∀ W, Below wq.heap.size wq W → ∀ i, W.cell? ⟨w10.heap.size, i, none⟩ = (#[.slice f1 f2 f3, .slice z1 z2 z3] : Array Value)[i]? := fun W B i => cell_of_row _ _ _ _ _ _ ((B.block _ hzs).trans hz)
           match i, hi with
           | 0, _ => exact ⟨f1, f2, f3, F, fun W B => hcell W B 0, fun W B => fF.out W (bq.trans (B.mono bq.size)), by have := hFl.out; omega, hFI.out⟩
           | 1, _ => exact ⟨z1, z2, z3, C, fun W B => hcell W B 1, fun W B => fCz.out W (Bq.trans (B.mono Bq.size)), by have := hCl0.out; omega, hCI.out⟩)
          have toZ := Lib.hid (show ∀ W, Below wq.heap.size wq W → Below wz.heap.size wz W from fun W B => Bq.trans (B.mono Bq.size))
          clear hwq hz hzs bq B10 hbx k6 fF B Bq
          obtain ⟨bq, hbqq⟩ : ∃ g, w10.heap.size = g := ⟨_, rfl⟩
          rw [hbqq] at key2 ⊢
          clear hbqq
          go_wp2_with fail
          go_loopw [164] (fun iv wr => ∃ i : Nat, i ≤ 2 ∧ iv = .int .i64 i ∧ Below wq.heap.size wq wr) (fun iv _ => 2 - (intOf iv).toNat)
          case atStart => exact ⟨0, by omega, rfl, Below.refl _ _⟩
          case round =>
           obtain ⟨i, hi, rfl, Bi⟩ := hrel
           by_cases hli : i < 2
           ·have i2 : (0 : Int) ≤ (i : Int) := by omega
            have i3 : (i : Int) < 2 := by omega
            obtain ⟨s1, s2, s3, E, hcE, hSE, hEl, hEI⟩ := key2.out i hli
            have g3 := hcE _ Bi
            obtain ⟨us, hus⟩ : ∃ s, updS RL kk kv kp E = s := ⟨_, rfl⟩
            obtain ⟨ub, hub⟩ : ∃ s, updB RL kk kv kp E = s := ⟨_, rfl⟩
            have cU1 := Lib.hid (show ∀ W, Below wq.heap.size wq W → Calls Tryd.prog 27 #[.string ⟨RL.toArray⟩, .agg #[.slice a1 a2 a3, .slice b1 b2 b3, .slice c1 c2 c3], .slice s1 s2 s3] W fun e w' => e = .returned (.tuple #[.string ⟨us.toArray⟩, .bool ub]) ∧ Below W.heap.size W w' from fun W B' => by
             rw [← hus, ← hub]; exact cUp.out W _ E (toZ.out W B') (hSE W B') hEl)
            have cU2 := Lib.hid (show ∀ W, Below wq.heap.size wq W → Calls Tryd.prog 28 #[.string ⟨RL.toArray⟩, .agg #[.slice a1 a2 a3, .slice b1 b2 b3, .slice c1 c2 c3], .slice s1 s2 s3] W fun e w' => e = .returned (.tuple #[.string ⟨us.toArray⟩, .bool ub]) ∧ Below W.heap.size W w' from fun W B' => by
             rw [← hus, ← hub]; exact cUr.out W _ E (toZ.out W B') (hSE W B') hEl hEI)
            have hub2 : (ub != ub) = false := by simp
            have hus2 : (us == us) = true := by simp
            clear hus hub hSE hEl hEI hcE
            obtain ⟨d0, d1, d2⟩ := hbq.out _ Bi
            go_wp2_with fail
            with_reducible refine (cU1.out _ Bi).mono ?_
            rintro e y1 ⟨rfl, b⟩
            have By := Bi.trans (b.mono Bi.size)
            clear d0 d1 d2 b g3 Bi
            obtain ⟨d0, d1, d2⟩ := hbq.out _ By
            go_wp2_with fail
            with_reducible refine (cU2.out _ By).mono ?_
            rintro e y2 ⟨rfl, b⟩
            have Bw := By.trans (b.mono By.size)
            clear d0 d1 d2 b By
            go_wp2_with fail
            go_roundw
            case rel => exact ⟨i + 1, by omega, by go_num, Bw⟩
            case measure => simp [intOf]; omega
           ·have i3 : ¬ (i : Int) < 2 := by omega
            have hend := Lib.hid (toZ.out _ Bi)
            go_wp2_with fail
            go_roundw
            case rel => exact ⟨k + 1, by omega, by go_num, hend.out⟩
            case measure => simp [intOf]; omega
         ·have i1 : ¬ (k : Int) < 4 := by omega
          have hend := Lib.hid (toW.out _ B)
          go_wp2_with fail
          go_ret
          exact ⟨rfl, hend.out⟩
       exact AllReadyH.nil
      exact AllReadyH.nil
     exact AllReadyH.nil
    exact AllReadyH.nil
  ·have i0 : (0 : Int) ≤ (n : Int) := by omega
   have i1 : ¬ (n : Int) < (ooK : Int) := by omega
   rw [fCf.out n (.inl (by rw [hKK.out]; omega))] at oc
   have fC := Lib.hid (fun W (B : Below wr.heap.size wr W) => (OwnG.SL eE_len oc).below B)
   have kw4 := Lib.hid (kw3.out.trans (B.mono kw3.out.size))
   have hOs := Lib.hid (hO3.out.below B)
   have sK := Lib.hid (show ∀ W, Below wr.heap.size wr W → W.cell? ⟨go, 0, none⟩ = some (.slice oo1 ooK oo2) ∧ W.cell? ⟨go, 1, none⟩ = some (.slice oo3 ooV oo4) ∧ W.cell? ⟨go, 2, none⟩ = some (.slice oo5 ooP oo6) ∧ W.cell? ⟨gR, 0, none⟩ = some (.slice ra m rc) ∧ W.cell? ⟨gR, 1, none⟩ = some (.slice rd nv re) ∧ W.cell? ⟨gR, 2, none⟩ = some (.slice rf pv rg) ∧ W.cell? ⟨gR + 1, 0, none⟩ = some (.int .i64 q0) ∧ W.cell? ⟨gR + 1, 1, none⟩ = some (.int .i64 q1) ∧ W.cell? ⟨gR + 1, 2, none⟩ = some (.int .i64 q2) ∧ W.cell? ⟨gR + 1, 3, none⟩ = some (.int .i64 q3) ∧ W.cell? ⟨gR + 1, 4, none⟩ = some (.int .i64 q4) ∧ W.cell? ⟨gR + 1, 5, none⟩ = some (.int .i64 q5) from fun W BW' => by
    have BW := B.trans (BW'.mono B.size)
    exact ⟨cell_of_row _ _ 0 _ 37 (0, 0) ((BW.block _ (Array.getElem?_eq_some_iff.1 bO3.out).1).trans bO3.out), cell_of_row _ _ 1 _ 37 (0, 0) ((BW.block _ (Array.getElem?_eq_some_iff.1 bO3.out).1).trans bO3.out), cell_of_row _ _ 2 _ 37 (0, 0) ((BW.block _ (Array.getElem?_eq_some_iff.1 bO3.out).1).trans bO3.out), cell_of_row _ _ 0 _ 37 (0, 0) ((BW.block _ (Array.getElem?_eq_some_iff.1 BRh.out).1).trans BRh.out), cell_of_row _ _ 1 _ 37 (0, 0) ((BW.block _ (Array.getElem?_eq_some_iff.1 BRh.out).1).trans BRh.out), cell_of_row _ _ 2 _ 37 (0, 0) ((BW.block _ (Array.getElem?_eq_some_iff.1 BRh.out).1).trans BRh.out), cell_of_row _ _ 0 _ 43 (0, 0) ((BW.block _ (Array.getElem?_eq_some_iff.1 bH3.out).1).trans bH3.out), cell_of_row _ _ 1 _ 43 (0, 0) ((BW.block _ (Array.getElem?_eq_some_iff.1 bH3.out).1).trans bH3.out), cell_of_row _ _ 2 _ 43 (0, 0) ((BW.block _ (Array.getElem?_eq_some_iff.1 bH3.out).1).trans bH3.out), cell_of_row _ _ 3 _ 43 (0, 0) ((BW.block _ (Array.getElem?_eq_some_iff.1 bH3.out).1).trans bH3.out), cell_of_row _ _ 4 _ 43 (0, 0) ((BW.block _ (Array.getElem?_eq_some_iff.1 bH3.out).1).trans bH3.out), cell_of_row _ _ 5 _ 43 (0, 0) ((BW.block _ (Array.getElem?_eq_some_iff.1 bH3.out).1).trans bH3.out)⟩)
   have hbdO := Lib.hid (obd_proved L ks hmph.out hasch.out)
   have cB0 := Lib.hid (fun vo ks vs ps W ho hb => bent_any vo ks vs ps q0 q1 q2 W ho rfl hb hqh.out.1.1 hqh.out.1.2.1 hqh.out.1.2.2)
   have cB1 := Lib.hid (fun vo ks vs ps W ho hb => bent_any vo ks vs ps q3 q4 q5 W ho rfl hb hqh.out.2.1 hqh.out.2.2.1 hqh.out.2.2.2)
   have hRs := Lib.hid (show ∀ W, Below wr.heap.size wr W → OpV W (.agg #[.slice ra m rc, .slice rd nv re, .slice rf pv rg]) (rks.take m) (rvs.take nv) (rps.take pv) from fun W BW => by
    have B' := kw4.out.trans (BW.mono kw4.out.size)
    exact ⟨_, _, _, rfl, SLG.take (fA.out W B') (by rw [← hrn.out]; omega), SLG.take (fB.out W B') (by rw [← hrv.out]; omega), SLG.take (fC0.out W B') (by rw [← hrp.out]; omega)⟩)
   clear oc B fKk fVk fCs fCl
   go_wp2_with fail
   refine wp_region_held_drew (S := (fun w' : World => w'.cell? ⟨go, 0, none⟩ = some (.slice oo1 ooK oo2) ∧ w'.cell? ⟨go, 1, none⟩ = some (.slice oo3 ooV oo4) ∧ w'.cell? ⟨go, 2, none⟩ = some (.slice oo5 ooP oo6) ∧ w'.cell? ⟨gR, 0, none⟩ = some (.slice ra m rc) ∧ w'.cell? ⟨gR, 1, none⟩ = some (.slice rd nv re) ∧ w'.cell? ⟨gR, 2, none⟩ = some (.slice rf pv rg) ∧ w'.cell? ⟨gR + 1, 0, none⟩ = some (.int .i64 q0) ∧ w'.cell? ⟨gR + 1, 1, none⟩ = some (.int .i64 q1) ∧ w'.cell? ⟨gR + 1, 2, none⟩ = some (.int .i64 q2) ∧ w'.cell? ⟨gR + 1, 3, none⟩ = some (.int .i64 q3) ∧ w'.cell? ⟨gR + 1, 4, none⟩ = some (.int .i64 q4) ∧ w'.cell? ⟨gR + 1, 5, none⟩ = some (.int .i64 q5))) (by kernel_rfl) (sK.out _ (Below.refl _ wr).drew) (fun hHeld => ?_)
   refine takeH (i := 0) (oi := { dst := some 111, op := .load 37 (.tmp 16), type := _, pos := _, after := _, guard := none }) (v := ?_) rfl (Or.inl ⟨by rfl, ?_⟩) (by assumption) ?_
   rotate_left
   ·(intro w hSw; (try dsimp only at hSw); go_simp) <;> with_reducible rfl
   try simp only [Act.put, zT, z0, zS]
   refine takeH (i := 1) (oi := { dst := some 112, op := .load 37 (.tmp 16), type := _, pos := _, after := _, guard := none }) (v := ?_) rfl (Or.inl ⟨by rfl, ?_⟩) (by assumption) ?_
   rotate_left
   ·(intro w hSw; (try dsimp only at hSw); go_simp) <;> with_reducible rfl
   try simp only [Act.put, zT, z0, zS]
   refine takeH (i := 2) (oi := { dst := some 113, op := .indexAddr 43 (.tmp 9) ((Operand.const (Value.int IntKind.i64 0))), type := _, pos := _, after := _, guard := none }) (v := ?_) rfl (Or.inl ⟨by rfl, ?_⟩) (by assumption) ?_
   rotate_left
   ·(intro w hSw; (try dsimp only at hSw); go_simp) <;> with_reducible rfl
   try simp only [Act.put, zT, z0, zS]
   refine takeH (i := 3) (oi := { dst := some 114, op := .load 42 (.tmp 113), type := _, pos := _, after := _, guard := none }) (v := ?_) rfl (Or.inl ⟨by rfl, ?_⟩) (by assumption) ?_
   rotate_left
   ·(intro w hSw; (try dsimp only at hSw); go_simp) <;> with_reducible rfl
   try simp only [Act.put, zT, z0, zS]
   refine takeH (i := 5) (oi := { dst := some 116, op := .load 37 (.tmp 16), type := _, pos := _, after := _, guard := none }) (v := ?_) rfl (Or.inl ⟨by rfl, ?_⟩) (by assumption) ?_
   rotate_left
   ·(intro w hSw; (try dsimp only at hSw); go_simp) <;> with_reducible rfl
   try simp only [Act.put, zT, z0, zS]
   refine takeH (i := 6) (oi := { dst := some 117, op := .indexAddr 43 (.tmp 9) ((Operand.const (Value.int IntKind.i64 0))), type := _, pos := _, after := _, guard := none }) (v := ?_) rfl (Or.inl ⟨by rfl, ?_⟩) (by assumption) ?_
   rotate_left
   ·(intro w hSw; (try dsimp only at hSw); go_simp) <;> with_reducible rfl
   try simp only [Act.put, zT, z0, zS]
   refine takeH (i := 7) (oi := { dst := some 118, op := .load 42 (.tmp 117), type := _, pos := _, after := _, guard := none }) (v := ?_) rfl (Or.inl ⟨by rfl, ?_⟩) (by assumption) ?_
   rotate_left
   ·(intro w hSw; (try dsimp only at hSw); go_simp) <;> with_reducible rfl
   try simp only [Act.put, zT, z0, zS]
   refine takeH (i := 9) (oi := { dst := some 120, op := .indexAddr 43 (.tmp 9) ((Operand.const (Value.int IntKind.i64 1))), type := _, pos := _, after := _, guard := none }) (v := ?_) rfl (Or.inl ⟨by rfl, ?_⟩) (by assumption) ?_
   rotate_left
   ·(intro w hSw; (try dsimp only at hSw); go_simp) <;> with_reducible rfl
   try simp only [Act.put, zT, z0, zS]
   refine takeH (i := 10) (oi := { dst := some 121, op := .load 42 (.tmp 120), type := _, pos := _, after := _, guard := none }) (v := ?_) rfl (Or.inl ⟨by rfl, ?_⟩) (by assumption) ?_
   rotate_left
   ·(intro w hSw; (try dsimp only at hSw); go_simp) <;> with_reducible rfl
   try simp only [Act.put, zT, z0, zS]
   refine takeH (i := 12) (oi := { dst := some 123, op := .load 37 (.tmp 8), type := _, pos := _, after := _, guard := none }) (v := ?_) rfl (Or.inl ⟨by rfl, ?_⟩) (by assumption) ?_
   rotate_left
   ·(intro w hSw; (try dsimp only at hSw); go_simp) <;> with_reducible rfl
   try simp only [Act.put, zT, z0, zS]
   refine takeH (i := 15) (oi := { dst := some 126, op := .move ((Operand.const (Value.int IntKind.i64 0))), type := _, pos := _, after := _, guard := none }) (v := ?_) rfl (Or.inl ⟨by rfl, ?_⟩) (by assumption) ?_
   rotate_left
   ·(intro w hSw; (try dsimp only at hSw); go_simp) <;> with_reducible rfl
   try simp only [Act.put, zT, z0, zS]
   refine wpAnyH_ready (rs := [4]) (by kernel_rfl) (by simp) ?_
   refine AllReadyH.cons (o := { dst := some 115, op := .call { callee := .value (.func 22), args := #[(.tmp 112), (.tmp 114)], argTypes := #[37, 42] }, type := _, pos := _, after := _, guard := none }) rfl (fun K hK => ?_) ?_
   ·skip
    go_simp
    with_reducible refine (cB0.out _ _ _ _ wr.drew (hOs.out.below (Below.refl _ wr).drew) hbdO.out).mono ?_
    rintro e x1 ⟨bav, bak, bas, bap, rfl, bao, bad, b⟩
    have kx1 : Below wr.heap.size wr x1 := (Below.refl wr.heap.size wr).drew.trans b
    obtain ⟨bank, hbak⟩ : ∃ n, Hid (bak.length = n) := ⟨_, rfl⟩
    obtain ⟨bans, hbas⟩ : ∃ n, Hid (bas.length = n) := ⟨_, rfl⟩
    obtain ⟨banp, hbap⟩ : ∃ n, Hid (bap.length = n) := ⟨_, rfl⟩
    obtain ⟨ba1, ba2, ba3, ba4, ba5, ba6, rfl⟩ := bao.form bank bans banp hbak.out hbas.out hbap.out
    have bah := Lib.hid bao
    have bab := Lib.hid bad
    have x1to := Lib.hid (Below.refl x1.heap.size x1)
    clear bao bad b
    go_wp2_with fail
    refine hK.out _ _ ?_ (fun hHeld => ?_)
    ·exact sK.out _ kx1
    clear hK K
    try simp only [Act.put, zT, z0, zS]
    refine wpAnyH_ready (rs := [8]) (by kernel_rfl) (by simp) ?_
    refine AllReadyH.cons (o := { dst := some 119, op := .call { callee := .value (.func 22), args := #[(.tmp 116), (.tmp 118)], argTypes := #[37, 42] }, type := _, pos := _, after := _, guard := none }) rfl (fun K hK => ?_) ?_
    ·skip
     go_simp
     with_reducible refine (cB0.out _ _ _ _ x1 (hOs.out.below kx1) hbdO.out).mono ?_
     rintro e x2 ⟨bbv, bbk, bbs, bbp, rfl, bbo, bbd, b⟩
     have kx2 : Below wr.heap.size wr x2 := kx1.trans (b.mono kx1.size)
     obtain ⟨bbnk, hbbk⟩ : ∃ n, Hid (bbk.length = n) := ⟨_, rfl⟩
     obtain ⟨bbns, hbbs⟩ : ∃ n, Hid (bbs.length = n) := ⟨_, rfl⟩
     obtain ⟨bbnp, hbbp⟩ : ∃ n, Hid (bbp.length = n) := ⟨_, rfl⟩
     obtain ⟨bb1, bb2, bb3, bb4, bb5, bb6, rfl⟩ := bbo.form bbnk bbns bbnp hbbk.out hbbs.out hbbp.out
     have bbh := Lib.hid bbo
     have bbb := Lib.hid bbd
     replace x1to := Lib.hid (x1to.out.trans (b.mono x1to.out.size))
     clear bbo bbd b
     go_wp2_with fail
     refine hK.out _ _ ?_ (fun hHeld => ?_)
     ·exact sK.out _ kx2
     clear hK K
     try simp only [Act.put, zT, z0, zS]
     refine wpAnyH_ready (rs := [11]) (by kernel_rfl) (by simp) ?_
     refine AllReadyH.cons (o := { dst := some 122, op := .call { callee := .value (.func 22), args := #[(.tmp 119), (.tmp 121)], argTypes := #[37, 42] }, type := _, pos := _, after := _, guard := none }) rfl (fun K hK => ?_) ?_
     ·skip
      go_simp
      with_reducible refine (cB1.out _ _ _ _ x2 bbh.out bbb.out).mono ?_
      rintro e x3 ⟨bcv, bck, bcs, bcp, rfl, bco, bcd, b⟩
      have kx3 : Below wr.heap.size wr x3 := kx2.trans (b.mono kx2.size)
      obtain ⟨bcnk, hbck⟩ : ∃ n, Hid (bck.length = n) := ⟨_, rfl⟩
      obtain ⟨bcns, hbcs⟩ : ∃ n, Hid (bcs.length = n) := ⟨_, rfl⟩
      obtain ⟨bcnp, hbcp⟩ : ∃ n, Hid (bcp.length = n) := ⟨_, rfl⟩
      obtain ⟨bc1, bc2, bc3, bc4, bc5, bc6, rfl⟩ := bco.form bcnk bcns bcnp hbck.out hbcs.out hbcp.out
      have bch := Lib.hid bco
      have bcb := Lib.hid bcd
      replace x1to := Lib.hid (x1to.out.trans (b.mono x1to.out.size))
      clear bco bcd b
      go_wp2_with fail
      refine hK.out _ _ ?_ (fun hHeld => ?_)
      ·exact sK.out _ kx3
      clear hK K
      try simp only [Act.put, zT, z0, zS]
      refine wpAnyH_ready (rs := [13]) (by kernel_rfl) (by simp) ?_
      refine AllReadyH.cons (o := { dst := some 124, op := .buildSlice 48 4 #[(0, (.tmp 111)), (1, (.tmp 115)), (2, (.tmp 122)), (3, (.tmp 123))], type := _, pos := _, after := _, guard := none }) rfl (fun K hK => ?_) ?_
      ·skip
       go_simp
       go_wp2_with fail
       refine hK.out _ _ ?_ (fun hHeld => ?_)
       ·exact sK.out _ (kx3.alloc kx3.size _)
       clear hK K
       try simp only [Act.put, zT, z0, zS]
       refine takeH (i := 14) (oi := { dst := some 125, op := .call { callee := .builtin .len, args := #[(.tmp 124)], argTypes := #[48] }, type := _, pos := _, after := _, guard := none }) (v := ?_) rfl (Or.inl ⟨by rfl, ?_⟩) (by assumption) ?_
       rotate_left
       ·(intro w hSw; (try dsimp only at hSw); go_simp) <;> with_reducible rfl
       try simp only [Act.put, zT, z0, zS]
       refine wpAnyH_done (by kernel_rfl) ?_ _
       obtain ⟨wz, hwz⟩ : ∃ W, W = x3.alloc (.cells #[.slice oo1 ooK oo2, .slice oo3 ooV oo4, .slice oo5 ooP oo6, .slice ba1 bank ba2, .slice ba3 bans ba4, .slice ba5 banp ba6, .slice bc1 bcnk bc2, .slice bc3 bcns bc4, .slice bc5 bcnp bc6, .slice ra m rc, .slice rd nv re, .slice rf pv rg] 37) := ⟨_, rfl⟩
       rw [← hwz]
       have bz : Below x3.heap.size x3 wz := by rw [hwz]; exact (Below.refl _ _).alloc (Nat.le_refl _) _
       have hz : wz.heap[x3.heap.size]? = some (.cells #[.slice oo1 ooK oo2, .slice oo3 ooV oo4, .slice oo5 ooP oo6, .slice ba1 bank ba2, .slice ba3 bans ba4, .slice ba5 banp ba6, .slice bc1 bcnk bc2, .slice bc3 bcns bc4, .slice bc5 bcnp bc6, .slice ra m rc, .slice rd nv re, .slice rf pv rg] 37 (0, 0)) := by rw [hwz]; exact heap_alloc_new _ _
       have hzs : x3.heap.size < wz.heap.size := by rw [hwz]; simp
       have kz := kx3.trans (bz.mono kx3.size)
       have obx : ∀ {ks : List Int} {vs ps : List Str}, OBd ks vs ps → ks.length ≤ 64 ∧ (∀ x ∈ ks, I64 x) ∧ vs.length ≤ 1000 ∧ ps.length ≤ 1000 := fun h => ⟨h.1, h.2.2.2.1, by rw [h.2.1]; have := h.1; omega, by have := h.2.2.1; omega⟩
       have key := Lib.hid (show ∀ k : Nat, k < 4 → ∃ a1 a2 a3 b1 b2 b3 c1 c2 c3, ∃ (kk : List Int) (kv kp : List Str), (∀ W, Below wz.heap.size wz W → W.cell? ⟨x3.heap.size, k * 3, none⟩ = some (.slice a1 a2 a3) ∧ W.cell? ⟨x3.heap.size, k * 3 + 1, none⟩ = some (.slice b1 b2 b3) ∧ W.cell? ⟨x3.heap.size, k * 3 + 2, none⟩ = some (.slice c1 c2 c3)) ∧ (∀ W, Below wz.heap.size wz W → OpV W (.agg #[.slice a1 a2 a3, .slice b1 b2 b3, .slice c1 c2 c3]) kk kv kp) ∧ (kk.length ≤ 64 ∧ (∀ x ∈ kk, I64 x) ∧ kv.length ≤ 1000 ∧ kp.length ≤ 1000) from fun k hk => by
        have hB : ∀ W, Below wz.heap.size wz W → W.heap[x3.heap.size]? = some (.cells #[.slice oo1 ooK oo2, .slice oo3 ooV oo4, .slice oo5 ooP oo6, .slice ba1 bank ba2, .slice ba3 bans ba4, .slice ba5 banp ba6, .slice bc1 bcnk bc2, .slice bc3 bcns bc4, .slice bc5 bcnp bc6, .slice ra m rc, .slice rd nv re, .slice rf pv rg] 37 (0, 0)) := fun W B => (B.block _ hzs).trans hz
        have hcell : ∀ W, Below wz.heap.size wz W → ∀ i, W.cell? ⟨x3.heap.size, i, none⟩ = (#[.slice oo1 ooK oo2, .slice oo3 ooV oo4, .slice oo5 ooP oo6, .slice ba1 bank ba2, .slice ba3 bans ba4, .slice ba5 banp ba6, .slice bc1 bcnk bc2, .slice bc3 bcns bc4, .slice bc5 bcnp bc6, .slice ra m rc, .slice rd nv re, .slice rf pv rg] : Array Value)[i]? := fun W B i => cell_of_row _ _ _ _ _ _ (hB W B)
        match k, hk with
         | 0, _ => exact ⟨oo1, ooK, oo2, oo3, ooV, oo4, oo5, ooP, oo6, ks, valsL L ks, pathL L ks, fun W B => ⟨hcell W B 0, hcell W B 1, hcell W B 2⟩, fun W B => hOs.out.below (kz.trans (B.mono kz.size)), obx hbdO.out⟩
         | 1, _ => exact ⟨ba1, bank, ba2, ba3, bans, ba4, ba5, banp, ba6, bak, bas, bap, fun W B => ⟨hcell W B 3, hcell W B 4, hcell W B 5⟩, fun W B => ((bah.out.below (x1to.out)).below (bz.trans (B.mono bz.size))), obx bab.out⟩
         | 2, _ => exact ⟨bc1, bcnk, bc2, bc3, bcns, bc4, bc5, bcnp, bc6, bck, bcs, bcp, fun W B => ⟨hcell W B 6, hcell W B 7, hcell W B 8⟩, fun W B => (bch.out.below (bz.trans (B.mono bz.size))), obx bcb.out⟩
         | 3, _ => exact ⟨ra, m, rc, rd, nv, re, rf, pv, rg, rks.take m, rvs.take nv, rps.take pv, fun W B => ⟨hcell W B 9, hcell W B 10, hcell W B 11⟩, fun W B => hRs.out W (kz.trans (B.mono kz.size)), ⟨by rw [List.length_take]; omega, fun x hx => hAI.out x (List.mem_of_mem_take hx), by rw [List.length_take]; omega, by rw [List.length_take]; omega⟩⟩)
       have toW := Lib.hid (show ∀ W, Below wz.heap.size wz W → Below w.heap.size w W from fun W B => (kw4.out.trans (kz.mono kw4.out.size)).trans (B.mono (Nat.le_trans kw4.out.size kz.size)))
       have fCz := Lib.hid (show ∀ W, Below wz.heap.size wz W → SE W (.slice z1 z2 z3) C from fun W B => fC.out W (kz.trans (B.mono kz.size)))
       clear hwz hz hzs bz kz kx1 kx2 kx3 hOs hRs bah bbh bch bab bbb bcb kw4 sK hHeld x1to
       obtain ⟨bz, hbz⟩ : ∃ g, x3.heap.size = g := ⟨_, rfl⟩
       rw [hbz] at key ⊢
       clear hbz
       go_wp2_with fail
       go_loopw [126] (fun iv wr => ∃ k : Nat, k ≤ 4 ∧ iv = .int .i64 k ∧ Below wz.heap.size wz wr) (fun iv _ => 4 - (intOf iv).toNat)
       case atStart => exact ⟨0, by omega, rfl, Below.refl _ _⟩
       case round =>
        obtain ⟨k, hk, rfl, B⟩ := hrel
        by_cases hlt4 : k < 4
        ·have i0 : (0 : Int) ≤ (k : Int) := by omega
         have i1 : (k : Int) < 4 := by omega
         obtain ⟨a1, a2, a3, b1, b2, b3, c1, c2, c3, kk, kv, kp, hc, hOp, hb1, hbI, hb2, hb3⟩ := key.out k hlt4
         obtain ⟨c0, c1', c2'⟩ := hc wr B
         have hOph := Lib.hid hOp
         have cRd := Lib.hid (show ∀ W, Below wz.heap.size wz W → Calls Tryd.prog 23 #[.string ⟨RL.toArray⟩, .agg #[.slice a1 a2 a3, .slice b1 b2 b3, .slice c1 c2 c3]] W (ReadU RL kk kv kp W) from fun W B' => (Read_any RL _ kk kv kp W rfl (hOp W B') (by omega) (by omega) (by omega) (hT.out.below (toW.out W B'))).mono (fun _ _ h => read_uni h))
         have cRr := Lib.hid (show ∀ W, Below wz.heap.size wz W → Calls Tryd.prog 24 #[.string ⟨RL.toArray⟩, .agg #[.slice a1 a2 a3, .slice b1 b2 b3, .slice c1 c2 c3]] W (ReadU RL kk kv kp W) from fun W B' => (ReadR_any RL _ kk kv kp W (hOp W B') rfl (by omega) hbI (by omega) (by omega)).mono (fun _ _ h => read_uni h))
         have cUp := Lib.hid (show ∀ W vc E, Below wz.heap.size wz W → SE W vc E → E.length ≤ 1000 → Calls Tryd.prog 27 #[.string ⟨RL.toArray⟩, .agg #[.slice a1 a2 a3, .slice b1 b2 b3, .slice c1 c2 c3], vc] W (UpdPost RL kk kv kp E W) from fun W vc E B' h1 h2 => Update_any RL _ vc kk kv kp E W rfl (hOp W B') h1 (by omega) (by omega) (by omega) (by omega) (hT.out.below (toW.out W B')))
         have cUr := Lib.hid (show ∀ W vc E, Below wz.heap.size wz W → SE W vc E → E.length ≤ 1000 → (∀ e ∈ E, I64 e.1) → Calls Tryd.prog 28 #[.string ⟨RL.toArray⟩, .agg #[.slice a1 a2 a3, .slice b1 b2 b3, .slice c1 c2 c3], vc] W (UpdPost RL kk kv kp E W) from fun W vc E B' h1 h2 h3 => UpdateR_any RL _ vc kk kv kp E W rfl (hOp W B') h1 (by omega) hbI (by omega) (by omega) h2 h3)
         have hEE := Lib.hid (rE_len RL kk kv kp)
         have hAA := Lib.hid (rA_len RL kk kv kp)
         have hb1h := Lib.hid hb1
         clear hc hOp hbI hb1 hb2 hb3
         go_upto_region 19 with (fail)
         obtain ⟨wb, hwb⟩ : ∃ W, W = wr.alloc (.cells #[.slice a1 a2 a3, .slice b1 b2 b3, .slice c1 c2 c3] 37) := ⟨_, rfl⟩
         rw [← hwb]
         obtain ⟨bb, zb, hbx⟩ := box_world wr wb _ _ _ 37 hwb
         have Bb := B.trans (bb.mono B.size)
         have hbx := Lib.hid hbx
         rename_i xo; clear xo hwb bb zb c0 c1' c2'
         obtain ⟨gX, hgX⟩ : ∃ g, wr.heap.size = g := ⟨_, rfl⟩
         rw [hgX] at hbx ⊢
         clear hgX
         obtain ⟨d0, d1, d2⟩ := hbx.out wb (Below.refl _ _)
         go_wp2_with fail
         with_reducible refine (cRd.out _ Bb).mono ?_
         rintro e w6' ⟨t1, u1, rfl, ht1, hu1, b⟩
         clear d0 d1 d2
         have B6 := Bb.trans (b.mono Bb.size)
         have k6 := Lib.hid b
         obtain ⟨d0, d1, d2⟩ := hbx.out w6' k6.out
         clear b
         go_wp2_with fail
         with_reducible refine (cRr.out _ B6).mono ?_
         rintro e w7 ⟨t2, u2, rfl, ht2, hu2, b⟩
         have B7 := B6.trans (b.mono B6.size)
         replace k6 := Lib.hid (k6.out.trans (b.mono k6.out.size))
         have ht1 := ht1.below b
         have hu1 := hu1.below b
         clear d0 d1 d2 b cRd cRr B6
         obtain ⟨bS, hbS⟩ : ∃ b, shownB RL kk kv kp = b := ⟨_, rfl⟩
         rw [hbS]
         obtain ⟨EE, hEEq⟩ : ∃ b, rE RL kk kv kp = b := ⟨_, rfl⟩
         obtain ⟨AE, hAEq⟩ : ∃ b, rA RL kk kv kp = b := ⟨_, rfl⟩
         rw [hEEq] at ht1 ht2 hEE
         rw [hAEq] at hu1 hu2 hAA
         clear hbS hEEq hAEq
         have hEl := hEE.out
         have hAl := hAA.out
         have hb1 := hb1h.out
         have fE1 := Lib.hid (fun W (B : Below w7.heap.size w7 W) => ht1.below B)
         have fE2 := Lib.hid (fun W (B : Below w7.heap.size w7 W) => ht2.below B)
         have fA1 := Lib.hid (fun W (B : Below w7.heap.size w7 W) => hu1.below B)
         have fA2 := Lib.hid (fun W (B : Below w7.heap.size w7 W) => hu2.below B)
         have cSE := Lib.hid (show ∀ W, Below w7.heap.size w7 W → Calls Tryd.prog 25 #[t1, t2] W fun e w' => e = .returned (.bool true) ∧ Below W.heap.size W w' from fun W B' => by
          have h := SameEntries_any _ _ EE EE W (fE1.out W B') (fE2.out W B') (by omega) (by omega)
          simpa using h)
         have cSI := Lib.hid (show ∀ W, Below w7.heap.size w7 W → Calls Tryd.prog 26 #[u1, u2] W fun e w' => e = .returned (.bool true) ∧ Below W.heap.size W w' from fun W B' => by
          have h := Ints_any _ _ AE AE W (fA1.out W B') (fA2.out W B') (by omega) (by omega)
          simpa using h)
         obtain ⟨t11, t12, t13, rfl, _⟩ := ht1.shape'
         obtain ⟨t21, t22, t23, rfl, _⟩ := ht2.shape'
         obtain ⟨u11, u12, u13, rfl, _⟩ := hu1.shape'
         obtain ⟨u21, u22, u23, rfl, _⟩ := hu2.shape'
         have hbb : (bS != bS) = false := by simp
         have k7 := Lib.hid (Below.refl w7.heap.size w7)
         clear ht1 ht2 hu1 hu2 hEl hAl hb1 hEE hAA fE1 fE2 fA1 fA2 hb1h
         go_wp2_with fail
         with_reducible refine (cSE.out _ k7.out).mono ?_
         rintro e w8 ⟨rfl, b⟩
         have B8 := B7.trans (b.mono B7.size)
         replace k6 := Lib.hid (k6.out.trans (b.mono k6.out.size))
         replace k7 := Lib.hid (k7.out.trans (b.mono k7.out.size))
         clear b cSE
         go_wp2_with fail
         with_reducible refine (cSI.out _ k7.out).mono ?_
         rintro e w9 ⟨rfl, b⟩
         have B9 := B8.trans (b.mono B8.size)
         replace k6 := Lib.hid (k6.out.trans (b.mono k6.out.size))
         clear b cSI k7 hbb B7 B8
         go_wp2_with fail
         with_reducible refine (cFew.out _ (toW.out _ B9)).mono ?_
         rintro e w10 ⟨vf, rfl, of, b⟩
         obtain ⟨f1, f2, f3, rfl, _⟩ := (OwnG.SL eE_len of).shape'
         have fF := Lib.hid (fun W (B : Below w10.heap.size w10 W) => (OwnG.SL eE_len of).below B)
         have B10 := B9.trans (b.mono B9.size)
         replace k6 := Lib.hid (k6.out.trans (b.mono k6.out.size))
         clear b of B9
         go_upto_region 24 with (fail)
         obtain ⟨wq, hwq⟩ : ∃ W, W = w10.alloc (.cells #[.slice f1 f2 f3, .slice z1 z2 z3] 23) := ⟨_, rfl⟩
         rw [← hwq]
         have bq : Below w10.heap.size w10 wq := by rw [hwq]; exact (Below.refl _ _).alloc (Nat.le_refl _) _
         have hz : wq.heap[w10.heap.size]? = some (.cells #[.slice f1 f2 f3, .slice z1 z2 z3] 23 (0, 0)) := by rw [hwq]; exact heap_alloc_new _ _
         have hzs : w10.heap.size < wq.heap.size := by rw [hwq]; simp
         have Bq := B10.trans (bq.mono B10.size)
         have hbq := Lib.hid (show ∀ W, Below wq.heap.size wq W → _ from fun W B => hbx.out W ((k6.out.trans (bq.mono k6.out.size)).trans (B.mono (Nat.le_trans k6.out.size bq.size))))
         have key2 := Lib.hid (show ∀ i : Nat, i < 2 → ∃ s1 s2 s3, ∃ (E : List Ent), (∀ W, Below wq.heap.size wq W → W.cell? ⟨w10.heap.size, i, none⟩ = some (.slice s1 s2 s3)) ∧ (∀ W, Below wq.heap.size wq W → SE W (.slice s1 s2 s3) E) ∧ E.length ≤ 1000 ∧ (∀ e ∈ E, I64 e.1) from fun i hi => by
          have hcell : ∀ W, Below wq.heap.size wq W → ∀ i, W.cell? ⟨w10.heap.size, i, none⟩ = (#[.slice f1 f2 f3, .slice z1 z2 z3] : Array Value)[i]? := fun W B i => cell_of_row _ _ _ _ _ _ ((B.block _ hzs).trans hz)
          match i, hi with
          | 0, _ => exact ⟨f1, f2, f3, F, fun W B => hcell W B 0, fun W B => fF.out W (bq.trans (B.mono bq.size)), by have := hFl.out; omega, hFI.out⟩
          | 1, _ => exact ⟨z1, z2, z3, C, fun W B => hcell W B 1, fun W B => fCz.out W (Bq.trans (B.mono Bq.size)), by have := hCl0.out; omega, hCI.out⟩)
         have toZ := Lib.hid (show ∀ W, Below wq.heap.size wq W → Below wz.heap.size wz W from fun W B => Bq.trans (B.mono Bq.size))
         clear hwq hz hzs bq B10 hbx k6 fF B Bq
         obtain ⟨bq, hbqq⟩ : ∃ g, w10.heap.size = g := ⟨_, rfl⟩
         rw [hbqq] at key2 ⊢
         clear hbqq
         go_wp2_with fail
         go_loopw [164] (fun iv wr => ∃ i : Nat, i ≤ 2 ∧ iv = .int .i64 i ∧ Below wq.heap.size wq wr) (fun iv _ => 2 - (intOf iv).toNat)
         case atStart => exact ⟨0, by omega, rfl, Below.refl _ _⟩
         case round =>
          obtain ⟨i, hi, rfl, Bi⟩ := hrel
          by_cases hli : i < 2
          ·have i2 : (0 : Int) ≤ (i : Int) := by omega
           have i3 : (i : Int) < 2 := by omega
           obtain ⟨s1, s2, s3, E, hcE, hSE, hEl, hEI⟩ := key2.out i hli
           have g3 := hcE _ Bi
           obtain ⟨us, hus⟩ : ∃ s, updS RL kk kv kp E = s := ⟨_, rfl⟩
           obtain ⟨ub, hub⟩ : ∃ s, updB RL kk kv kp E = s := ⟨_, rfl⟩
           have cU1 := Lib.hid (show ∀ W, Below wq.heap.size wq W → Calls Tryd.prog 27 #[.string ⟨RL.toArray⟩, .agg #[.slice a1 a2 a3, .slice b1 b2 b3, .slice c1 c2 c3], .slice s1 s2 s3] W fun e w' => e = .returned (.tuple #[.string ⟨us.toArray⟩, .bool ub]) ∧ Below W.heap.size W w' from fun W B' => by
            rw [← hus, ← hub]; exact cUp.out W _ E (toZ.out W B') (hSE W B') hEl)
           have cU2 := Lib.hid (show ∀ W, Below wq.heap.size wq W → Calls Tryd.prog 28 #[.string ⟨RL.toArray⟩, .agg #[.slice a1 a2 a3, .slice b1 b2 b3, .slice c1 c2 c3], .slice s1 s2 s3] W fun e w' => e = .returned (.tuple #[.string ⟨us.toArray⟩, .bool ub]) ∧ Below W.heap.size W w' from fun W B' => by
            rw [← hus, ← hub]; exact cUr.out W _ E (toZ.out W B') (hSE W B') hEl hEI)
           have hub2 : (ub != ub) = false := by simp
           have hus2 : (us == us) = true := by simp
           clear hus hub hSE hEl hEI hcE
           obtain ⟨d0, d1, d2⟩ := hbq.out _ Bi
           go_wp2_with fail
           with_reducible refine (cU1.out _ Bi).mono ?_
           rintro e y1 ⟨rfl, b⟩
           have By := Bi.trans (b.mono Bi.size)
           clear d0 d1 d2 b g3 Bi
           obtain ⟨d0, d1, d2⟩ := hbq.out _ By
           go_wp2_with fail
           with_reducible refine (cU2.out _ By).mono ?_
           rintro e y2 ⟨rfl, b⟩
           have Bw := By.trans (b.mono By.size)
           clear d0 d1 d2 b By
           go_wp2_with fail
           go_roundw
           case rel => exact ⟨i + 1, by omega, by go_num, Bw⟩
           case measure => simp [intOf]; omega
          ·have i3 : ¬ (i : Int) < 2 := by omega
           have hend := Lib.hid (toZ.out _ Bi)
           go_wp2_with fail
           go_roundw
           case rel => exact ⟨k + 1, by omega, by go_num, hend.out⟩
           case measure => simp [intOf]; omega
        ·have i1 : ¬ (k : Int) < 4 := by omega
         have hend := Lib.hid (toW.out _ B)
         go_wp2_with fail
         go_ret
         exact ⟨rfl, hend.out⟩
      exact AllReadyH.nil
     exact AllReadyH.nil
    exact AllReadyH.nil
   exact AllReadyH.nil
end Go.Proofs.YtegahpfmkepfmaaDoor
