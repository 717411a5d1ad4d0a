/- The reference's maps and keys that integers determine. -/
import Derived.Test.YtegahpfmkepfmaaDoorRf
import Derived.Test.YtegahpfmkepfmaaDoorHel
namespace Go.Proofs.YtegahpfmkepfmaaDoor
open Go.RowKit
theorem SP.at {W : World} {v : Value} {l : List (Int × Int)} (h : SP W v l) (k : Nat) (hk : k < l.length) : ∃ b o c, v = .slice (some ⟨b, o, none⟩) l.length c ∧ ∀ W', Below W.heap.size W W' → W'.cell? ⟨b, o + k * 2, none⟩ = some (.int .i64 l[k].1) ∧ W'.cell? ⟨b, o + k * 2 + 1, none⟩ = some (.int .i64 l[k].2) := by
  obtain ⟨b, o, c, h1, _, h3⟩ := SLG.cells h k hk
  exact ⟨b, o, c, h1, fun W' B => ⟨by simpa using h3 W' B 0 (.int .i64 l[k].1) rfl, h3 W' B 1 (.int .i64 l[k].2) rfl⟩⟩
/-- the values of int -/
def I64 (x : Int) : Prop := -9223372036854775808 ≤ x ∧ x ≤ 9223372036854775807
/-- an argument that reads as the pairs l -/
def ArgP (W : World) (v : Value) (l : List (Int × Int)) : Prop := SP W v l ∧ l.length ≤ 9223372036854775807 ∧ ∀ p ∈ l, I64 p.1 ∧ I64 p.2
def ArgI (W : World) (v : Value) (l : List Int) : Prop := SI W v l ∧ l.length ≤ 9223372036854775807 ∧ ∀ x ∈ l, I64 x
def sv (i : Nat) : Str := match i with | 0 => [97] | 1 => [98, 99] | _ => [100, 32, 101, 32, 102]
/-- a map comes back -/
def MapPost (w : World) (e : Ending) (w' : World) : Prop := ∃ v l, e = .returned v ∧ OE w' w.heap.size v l ∧ Mp l ∧ l.length ≤ 64 ∧ Below w.heap.size w w'
theorem Mp_len (l : List Ent) (h : Mp l) : l.length ≤ 64 := by
  have h2 := (mapB_facts l ((mapB_iff l).2 h)).1
  exact h2
theorem sv_len (i : Nat) : (sv i).length ≤ 65536 := by unfold sv; split <;> simp

set_option linter.unusedSimpArgs false in
set_option maxRecDepth 100000 in
set_option maxHeartbeats 2000000 in
theorem Made_any (v : Value) (x : List (Int × Int)) (w : World) {W0 : World} (hv : ArgP W0 v x) (hW : W0 = w) : Calls Tryd.prog 11 #[v] w (MapPost w) := by
  subst hW
  obtain ⟨hv, hn, hb⟩ := hv
  have hc := Lib.hid (show ∀ (k : Nat) (hk : k < x.length), _ from fun k hk => SP.at hv k hk)
  obtain ⟨a, N, c, rfl, hN⟩ := hv.shape'
  have hbh := Lib.hid hb
  rw [← hN.out] at hn
  clear hv hb
  go_enter Tryd.func11, Tryd.ntmps11
  go_wp2_with fail
  go_loopw [3, 4] (fun ov iv wr => ∃ i : Nat, i ≤ N ∧ i ≤ 12 ∧ iv = .int .i64 i ∧ ∃ L, (∃ x1 x2 x3, ov = .slice x1 x2 x3) ∧ OE wr W0.heap.size ov L ∧ Mp L ∧ Below W0.heap.size W0 wr) (fun _ iv _ => N - (intOf iv).toNat)
  case atStart => exact ⟨0, by omega, by omega, rfl, [], ⟨_, _, _, rfl⟩, OwnG.nil _ _, ⟨(fun e h => by cases h), List.Pairwise.nil⟩, Below.refl _ _⟩
  case round =>
    obtain ⟨i, hi, hi12, rfl, L, ⟨x1, x2, x3, rfl⟩, hown, hmp, B⟩ := hrel
    by_cases hlt : i < N
    · by_cases h12 : i < 12
      · have hil : i < x.length := by rw [← hN.out]; exact hlt
        obtain ⟨b, o, c', he, hcell⟩ := hc.out i hil
        injection he with he1 he2 he3
        subst he1
        have hcc := Lib.hid hcell
        have hu := hbh.out x[i] (List.getElem_mem hil)
        obtain ⟨⟨u1, u2⟩, u3, u4⟩ := hu
        have hml := Mp_len L hmp
        clear hcell he2 he3
        have i0 : (0 : Int) ≤ (i : Int) := by omega
        have i1 : (i : Int) < (N : Int) := by omega
        have i2 : (i : Int) < 12 := by omega
        generalize x[i].1 = y1 at *
        generalize x[i].2 = y2 at *
        have p1 := Wr.pickR_any y1 64 
        have p2 := Wr.pickR_any y2 3
        have q1 := Wr.pk_lo y1 64 (by omega)
        have q2 := Wr.pk_lt y1 64 (by omega)
        have q3 := Wr.pk_lo y2 3 (by omega)
        have q4 := Wr.pk_lt y2 3 (by omega)
        have p1 := Lib.hid (fun W => p1 W u1 u2 (by omega) (by omega))
        have p2 := Lib.hid (fun W => p2 W u3 u4 (by omega) (by omega))
        rename_i p1o p2o
        clear p1o p2o
        obtain ⟨k1, hk1⟩ : ∃ k1 : Nat, Wr.pk y1 64 = (k1 : Int) := ⟨(Wr.pk y1 64).toNat, by omega⟩
        obtain ⟨k2, hk2⟩ : ∃ k2 : Nat, Wr.pk y2 3 = (k2 : Int) := ⟨(Wr.pk y2 3).toNat, by omega⟩
        rw [hk1] at p1 q1 q2
        rw [hk2] at p2 q3 q4
        clear hk1 hk2
        have hput := Lib.hid (show ∀ W, Below wr.heap.size wr W → _ from fun W BW => Put_any (.slice x1 x2 x3) L (k1 : Int) (sv k2) W ((OwnG.SL eE_len hown).below BW) rfl (by omega))
        have hnew := Lib.hid (putE_mp L (k1 : Int) (sv k2) hmp (by omega) (by omega) (sv_len k2))
        have hS0 := Lib.hid (hcc.out wr B)
        have Bh := Lib.hid B
        have hKP := Lib.hid (show ∀ W, Below wr.heap.size wr W → _ from fun W BW => hcc.out W (B.trans (BW.mono B.size)))
        have hk3 : k2 < 3 := by omega
        have h15 : (#[.string ⟨#[97]⟩, .string ⟨#[98, 99]⟩, .string ⟨#[100, 32, 101, 32, 102]⟩] : Array Value)[k2]? = some (.string ⟨(sv k2).toArray⟩) := by
          match k2, hk3 with
          | 0, _ => rfl
          | 1, _ => rfl
          | 2, _ => rfl
        have h17 : ([.string ⟨#[97]⟩, .string ⟨#[98, 99]⟩, .string ⟨#[100, 32, 101, 32, 102]⟩] : List Value)[k2]'(by simp; omega) = .string ⟨(sv k2).toArray⟩ := by
          have h := h15
          rw [List.getElem?_toArray, List.getElem?_eq_getElem (by simp; omega)] at h
          exact Option.some.inj h
        have h16 : ([.string ⟨#[97]⟩, .string ⟨#[98, 99]⟩, .string ⟨#[100, 32, 101, 32, 102]⟩] : List Value)[k2]? = some (.string ⟨(sv k2).toArray⟩) := by simpa using h15
        generalize sv k2 = s2 at *
        clear B hmp hown hcc hml
        go_wp2_with fail
        refine wp_region_F (fun w' : World => w'.cell? ⟨b, o + i * 2, none⟩ = some (.int .i64 y1) ∧ w'.cell? ⟨b, o + i * 2 + 1, none⟩ = some (.int .i64 y2)) 17 (by kernel_rfl) (hKP.out _ (Below.refl _ wr).drew) (fun hHeld => ?_)
        refine wpAnyF_take (i := 0) (oi := { dst := some 15, op := Op.move (Operand.tmp 3), type := _, pos := _, after := _, guard := none }) (v := ?_) rfl (by kernel_rfl) (by kernel_rfl) (by kernel_rfl) (by kernel_rfl) (fun _ _ _ h => h) (Or.inl ⟨by rfl, ?_⟩) (by assumption) ?_
        rotate_left
        · ((intro w hSw; (try dsimp only at hSw); go_simp) <;> with_reducible rfl)
        try simp only [Act.put, List.setIfInBounds_toArray, List.set_cons_zero, List.set_cons_succ]
        refine wpAnyF_take (i := 1) (oi := { dst := some 16, op := Op.move (Operand.tmp 0), type := _, pos := _, after := _, guard := none }) (v := ?_) rfl (by kernel_rfl) (by kernel_rfl) (by kernel_rfl) (by kernel_rfl) (fun _ _ _ h => h) (Or.inl ⟨by rfl, ?_⟩) (by assumption) ?_
        rotate_left
        · ((intro w hSw; (try dsimp only at hSw); go_simp) <;> with_reducible rfl)
        try simp only [Act.put, List.setIfInBounds_toArray, List.set_cons_zero, List.set_cons_succ]
        refine wpAnyF_take (i := 2) (oi := { dst := some 17, op := Op.move (Operand.tmp 4), type := _, pos := _, after := _, guard := none }) (v := ?_) rfl (by kernel_rfl) (by kernel_rfl) (by kernel_rfl) (by kernel_rfl) (fun _ _ _ h => h) (Or.inl ⟨by rfl, ?_⟩) (by assumption) ?_
        rotate_left
        · ((intro w hSw; (try dsimp only at hSw); go_simp) <;> with_reducible rfl)
        try simp only [Act.put, List.setIfInBounds_toArray, List.set_cons_zero, List.set_cons_succ]
        refine wpAnyF_take (i := 3) (oi := { dst := some 18, op := Op.indexAddr 22 (Operand.tmp 16) (Operand.tmp 17), type := _, pos := _, after := _, guard := none }) (v := ?_) rfl (by kernel_rfl) (by kernel_rfl) (by kernel_rfl) (by kernel_rfl) (fun _ _ _ h => h) (Or.inl ⟨by rfl, ?_⟩) (by assumption) ?_
        rotate_left
        · ((intro w hSw; (try dsimp only at hSw); go_simp) <;> with_reducible rfl)
        try simp only [Act.put, List.setIfInBounds_toArray, List.set_cons_zero, List.set_cons_succ]
        refine wpAnyF_take (i := 4) (oi := { dst := some 19, op := Op.indexAddr 65 (Operand.tmp 18) ((Operand.const (Value.int IntKind.i64 0))), type := _, pos := _, after := _, guard := none }) (v := ?_) rfl (by kernel_rfl) (by kernel_rfl) (by kernel_rfl) (by kernel_rfl) (fun _ _ _ h => h) (Or.inl ⟨by rfl, ?_⟩) (by assumption) ?_
        rotate_left
        · ((intro w hSw; (try dsimp only at hSw); go_simp) <;> with_reducible rfl)
        try simp only [Act.put, List.setIfInBounds_toArray, List.set_cons_zero, List.set_cons_succ]
        refine wpAnyF_take (i := 5) (oi := { dst := some 20, op := Op.load 3 (Operand.tmp 19), type := _, pos := _, after := _, guard := none }) (v := ?_) rfl (by kernel_rfl) (by kernel_rfl) (by kernel_rfl) (by kernel_rfl) (fun _ _ _ h => h) (Or.inl ⟨by rfl, ?_⟩) (by assumption) ?_
        rotate_left
        · ((intro w hSw; (try dsimp only at hSw); go_simp) <;> with_reducible rfl)
        try simp only [Act.put, List.setIfInBounds_toArray, List.set_cons_zero, List.set_cons_succ]
        refine wpAnyF_take (i := 8) (oi := { dst := some 23, op := Op.move (Operand.tmp 0), type := _, pos := _, after := _, guard := none }) (v := ?_) rfl (by kernel_rfl) (by kernel_rfl) (by kernel_rfl) (by kernel_rfl) (fun _ _ _ h => h) (Or.inl ⟨by rfl, ?_⟩) (by assumption) ?_
        rotate_left
        · ((intro w hSw; (try dsimp only at hSw); go_simp) <;> with_reducible rfl)
        try simp only [Act.put, List.setIfInBounds_toArray, List.set_cons_zero, List.set_cons_succ]
        refine wpAnyF_take (i := 9) (oi := { dst := some 24, op := Op.move (Operand.tmp 4), type := _, pos := _, after := _, guard := none }) (v := ?_) rfl (by kernel_rfl) (by kernel_rfl) (by kernel_rfl) (by kernel_rfl) (fun _ _ _ h => h) (Or.inl ⟨by rfl, ?_⟩) (by assumption) ?_
        rotate_left
        · ((intro w hSw; (try dsimp only at hSw); go_simp) <;> with_reducible rfl)
        try simp only [Act.put, List.setIfInBounds_toArray, List.set_cons_zero, List.set_cons_succ]
        refine wpAnyF_take (i := 10) (oi := { dst := some 25, op := Op.indexAddr 22 (Operand.tmp 23) (Operand.tmp 24), type := _, pos := _, after := _, guard := none }) (v := ?_) rfl (by kernel_rfl) (by kernel_rfl) (by kernel_rfl) (by kernel_rfl) (fun _ _ _ h => h) (Or.inl ⟨by rfl, ?_⟩) (by assumption) ?_
        rotate_left
        · ((intro w hSw; (try dsimp only at hSw); go_simp) <;> with_reducible rfl)
        try simp only [Act.put, List.setIfInBounds_toArray, List.set_cons_zero, List.set_cons_succ]
        refine wpAnyF_take (i := 11) (oi := { dst := some 26, op := Op.indexAddr 65 (Operand.tmp 25) ((Operand.const (Value.int IntKind.i64 1))), type := _, pos := _, after := _, guard := none }) (v := ?_) rfl (by kernel_rfl) (by kernel_rfl) (by kernel_rfl) (by kernel_rfl) (fun _ _ _ h => h) (Or.inl ⟨by rfl, ?_⟩) (by assumption) ?_
        rotate_left
        · ((intro w hSw; (try dsimp only at hSw); go_simp) <;> with_reducible rfl)
        try simp only [Act.put, List.setIfInBounds_toArray, List.set_cons_zero, List.set_cons_succ]
        refine wpAnyF_take (i := 12) (oi := { dst := some 27, op := Op.load 3 (Operand.tmp 26), type := _, pos := _, after := _, guard := none }) (v := ?_) rfl (by kernel_rfl) (by kernel_rfl) (by kernel_rfl) (by kernel_rfl) (fun _ _ _ h => h) (Or.inl ⟨by rfl, ?_⟩) (by assumption) ?_
        rotate_left
        · ((intro w hSw; (try dsimp only at hSw); go_simp) <;> with_reducible rfl)
        try simp only [Act.put, List.setIfInBounds_toArray, List.set_cons_zero, List.set_cons_succ]
        refine wpAnyF_ready (rs := [6, 7]) (by kernel_rfl) (by simp) ?_
        refine AllReadyF.cons (o := { dst := some 21, op := Op.call { callee := Callee.value (Operand.func 36), args := #[(Operand.tmp 20), (Operand.const (Value.int IntKind.i64 64))], argTypes := #[3, 3] }, type := _, pos := _, after := _, guard := none }) rfl (fun K hK => ?_) ?_
        · skip
          go_simp
          refine (p1.out _).mono ?_
          rintro e w' ⟨rfl, rfl⟩
          go_wp2_with fail
          refine hK.out _ _ ?_ (fun hHeld => ?_)
          · exact hKP.out _ (Below.refl _ wr).drew
          clear hK K
          try simp only [Act.put, List.setIfInBounds_toArray, List.set_cons_zero, List.set_cons_succ]
          refine wpAnyF_ready (rs := [7, 13]) (by kernel_rfl) (by simp) ?_
          refine AllReadyF.cons (o := { dst := some 22, op := Op.buildSlice 35 3 #[(0, (Operand.const (Value.string { data := #[97] }))), (1, (Operand.const (Value.string { data := #[98, 99] }))), (2, (Operand.const (Value.string { data := #[100, 32, 101, 32, 102] })))], type := _, pos := _, after := _, guard := none }) rfl (fun K hK => ?_) ?_
          · skip
            go_simp
            go_wp2_with fail
            refine hK.out _ _ ?_ (fun hHeld => ?_)
            · exact hKP.out _ ((Below.refl _ wr).drew.alloc (Nat.le_refl _) _)
            clear hK K
            try simp only [Act.put, List.setIfInBounds_toArray, List.set_cons_zero, List.set_cons_succ]
            refine wpAnyF_ready (rs := [13]) (by kernel_rfl) (by simp) ?_
            refine AllReadyF.cons (o := { dst := some 28, op := Op.call { callee := Callee.value (Operand.func 36), args := #[(Operand.tmp 27), (Operand.const (Value.int IntKind.i64 3))], argTypes := #[3, 3] }, type := _, pos := _, after := _, guard := none }) rfl (fun K hK => ?_) ?_
            · skip
              go_simp
              refine (p2.out _).mono ?_
              rintro e w' ⟨rfl, rfl⟩
              go_wp2_with fail
              refine hK.out _ _ ?_ (fun hHeld => ?_)
              · exact hKP.out _ ((Below.refl _ wr).drew.alloc (Nat.le_refl _) _)
              clear hK K
              try simp only [Act.put, List.setIfInBounds_toArray, List.set_cons_zero, List.set_cons_succ]
              refine wpAnyF_take (i := 14) (oi := { dst := some 29, op := Op.indexAddr 35 (Operand.tmp 22) (Operand.tmp 28), type := _, pos := _, after := _, guard := none }) (v := ?_) rfl (by kernel_rfl) (by kernel_rfl) (by kernel_rfl) (by kernel_rfl) (fun _ _ _ h => h) (Or.inl ⟨by rfl, ?_⟩) (by assumption) ?_
              rotate_left
              · ((intro w hSw; (try dsimp only at hSw); go_simp) <;> with_reducible rfl)
              try simp only [Act.put, List.setIfInBounds_toArray, List.set_cons_zero, List.set_cons_succ]
              refine wpAnyF_ready (rs := [15]) (by kernel_rfl) (by simp) ?_
              refine AllReadyF.cons (o := { dst := some 30, op := Op.load 9 (Operand.tmp 29), type := _, pos := _, after := _, guard := none }) rfl (fun K hK => ?_) ?_
              · skip
                go_simp
                go_wp2_with fail
                refine hK.out _ _ ?_ (fun hHeld => ?_)
                · exact hKP.out _ ((Below.refl _ wr).drew.alloc (Nat.le_refl _) _)
                clear hK K
                try simp only [Act.put, List.setIfInBounds_toArray, List.set_cons_zero, List.set_cons_succ]
                refine wpAnyF_ready (rs := [16]) (by kernel_rfl) (by simp) ?_
                refine AllReadyF.cons (o := { dst := some 31, op := Op.call { callee := Callee.value (Operand.func 33), args := #[(Operand.tmp 15), (Operand.tmp 21), (Operand.tmp 30)], argTypes := #[23, 3, 9] }, type := _, pos := _, after := _, guard := none }) rfl (fun K hK => ?_) ?_
                · skip
                  go_simp
                  with_reducible refine (hput.out _ ((Below.refl _ wr).alloc (Nat.le_refl _) _).drew).mono ?_
                  rintro e W3 ⟨r, rfl, oR, bR⟩
                  have hB3 : Below wr.heap.size wr W3 := ((Below.refl _ wr).alloc (Nat.le_refl _) _).drew.trans (bR.mono (by simp))
                  go_wp2_with fail
                  refine hK.out _ _ ?_ (fun hHeld => ?_)
                  · exact hKP.out _ hB3
                  clear hK K
                  try simp only [Act.put, List.setIfInBounds_toArray, List.set_cons_zero, List.set_cons_succ]
                  refine wpAnyF_ready (rs := [17]) (by kernel_rfl) (by simp) ?_
                  refine AllReadyF.last (o := { dst := some 3, op := Op.assign (Operand.tmp 31), type := _, pos := _, after := _, guard := none }) rfl (fun K hK => ?_) ?_
                  · skip
                    go_simp
                    refine hK.out _ _ ?_
                    clear hK K
                    try simp only [Act.put, List.setIfInBounds_toArray, List.set_cons_zero, List.set_cons_succ]
                    refine wpAnyF_done (by kernel_rfl) ?_ _
                    obtain ⟨ra, rc, hrs⟩ := (OwnG.SL eE_len oR).shape
                    have hend := Lib.hid (show OE W3 W0.heap.size r (putE L (k1 : Int) s2) ∧ Below W0.heap.size W0 W3 from ⟨oR.mono (Bh.out.trans ((((Below.refl _ wr).alloc (Nat.le_refl _) _).drew).mono Bh.out.size)).size, Bh.out.trans (hB3.mono Bh.out.size)⟩)
                    subst hrs
                    clear oR bR hB3
                    go_wp2_with fail
                    go_roundw
                    case rel => exact ⟨i + 1, by omega, by omega, by go_num, _, ⟨_, _, _, rfl⟩, hend.out.1, hnew.out, hend.out.2⟩
                    case measure => simp [intOf]; omega
                  exact AllReadyF.nil
                exact AllReadyF.nil
              exact AllReadyF.nil
            exact AllReadyF.nil
          refine AllReadyF.cons (o := { dst := some 28, op := Op.call { callee := Callee.value (Operand.func 36), args := #[(Operand.tmp 27), (Operand.const (Value.int IntKind.i64 3))], argTypes := #[3, 3] }, type := _, pos := _, after := _, guard := none }) rfl (fun K hK => ?_) ?_
          · skip
            go_simp
            refine (p2.out _).mono ?_
            rintro e w' ⟨rfl, rfl⟩
            go_wp2_with fail
            refine hK.out _ _ ?_ (fun hHeld => ?_)
            · exact hKP.out _ (Below.refl _ wr).drew
            clear hK K
            try simp only [Act.put, List.setIfInBounds_toArray, List.set_cons_zero, List.set_cons_succ]
            refine wpAnyF_ready (rs := [7]) (by kernel_rfl) (by simp) ?_
            refine AllReadyF.cons (o := { dst := some 22, op := Op.buildSlice 35 3 #[(0, (Operand.const (Value.string { data := #[97] }))), (1, (Operand.const (Value.string { data := #[98, 99] }))), (2, (Operand.const (Value.string { data := #[100, 32, 101, 32, 102] })))], type := _, pos := _, after := _, guard := none }) rfl (fun K hK => ?_) ?_
            · skip
              go_simp
              go_wp2_with fail
              refine hK.out _ _ ?_ (fun hHeld => ?_)
              · exact hKP.out _ ((Below.refl _ wr).drew.alloc (Nat.le_refl _) _)
              clear hK K
              try simp only [Act.put, List.setIfInBounds_toArray, List.set_cons_zero, List.set_cons_succ]
              refine wpAnyF_take (i := 14) (oi := { dst := some 29, op := Op.indexAddr 35 (Operand.tmp 22) (Operand.tmp 28), type := _, pos := _, after := _, guard := none }) (v := ?_) rfl (by kernel_rfl) (by kernel_rfl) (by kernel_rfl) (by kernel_rfl) (fun _ _ _ h => h) (Or.inl ⟨by rfl, ?_⟩) (by assumption) ?_
              rotate_left
              · ((intro w hSw; (try dsimp only at hSw); go_simp) <;> with_reducible rfl)
              try simp only [Act.put, List.setIfInBounds_toArray, List.set_cons_zero, List.set_cons_succ]
              refine wpAnyF_ready (rs := [15]) (by kernel_rfl) (by simp) ?_
              refine AllReadyF.cons (o := { dst := some 30, op := Op.load 9 (Operand.tmp 29), type := _, pos := _, after := _, guard := none }) rfl (fun K hK => ?_) ?_
              · skip
                go_simp
                go_wp2_with fail
                refine hK.out _ _ ?_ (fun hHeld => ?_)
                · exact hKP.out _ ((Below.refl _ wr).drew.alloc (Nat.le_refl _) _)
                clear hK K
                try simp only [Act.put, List.setIfInBounds_toArray, List.set_cons_zero, List.set_cons_succ]
                refine wpAnyF_ready (rs := [16]) (by kernel_rfl) (by simp) ?_
                refine AllReadyF.cons (o := { dst := some 31, op := Op.call { callee := Callee.value (Operand.func 33), args := #[(Operand.tmp 15), (Operand.tmp 21), (Operand.tmp 30)], argTypes := #[23, 3, 9] }, type := _, pos := _, after := _, guard := none }) rfl (fun K hK => ?_) ?_
                · skip
                  go_simp
                  with_reducible refine (hput.out _ ((Below.refl _ wr).alloc (Nat.le_refl _) _).drew).mono ?_
                  rintro e W3 ⟨r, rfl, oR, bR⟩
                  have hB3 : Below wr.heap.size wr W3 := ((Below.refl _ wr).alloc (Nat.le_refl _) _).drew.trans (bR.mono (by simp))
                  go_wp2_with fail
                  refine hK.out _ _ ?_ (fun hHeld => ?_)
                  · exact hKP.out _ hB3
                  clear hK K
                  try simp only [Act.put, List.setIfInBounds_toArray, List.set_cons_zero, List.set_cons_succ]
                  refine wpAnyF_ready (rs := [17]) (by kernel_rfl) (by simp) ?_
                  refine AllReadyF.last (o := { dst := some 3, op := Op.assign (Operand.tmp 31), type := _, pos := _, after := _, guard := none }) rfl (fun K hK => ?_) ?_
                  · skip
                    go_simp
                    refine hK.out _ _ ?_
                    clear hK K
                    try simp only [Act.put, List.setIfInBounds_toArray, List.set_cons_zero, List.set_cons_succ]
                    refine wpAnyF_done (by kernel_rfl) ?_ _
                    obtain ⟨ra, rc, hrs⟩ := (OwnG.SL eE_len oR).shape
                    have hend := Lib.hid (show OE W3 W0.heap.size r (putE L (k1 : Int) s2) ∧ Below W0.heap.size W0 W3 from ⟨oR.mono (Bh.out.trans ((((Below.refl _ wr).alloc (Nat.le_refl _) _).drew).mono Bh.out.size)).size, Bh.out.trans (hB3.mono Bh.out.size)⟩)
                    subst hrs
                    clear oR bR hB3
                    go_wp2_with fail
                    go_roundw
                    case rel => exact ⟨i + 1, by omega, by omega, by go_num, _, ⟨_, _, _, rfl⟩, hend.out.1, hnew.out, hend.out.2⟩
                    case measure => simp [intOf]; omega
                  exact AllReadyF.nil
                exact AllReadyF.nil
              exact AllReadyF.nil
            exact AllReadyF.nil
          exact AllReadyF.nil
        refine AllReadyF.cons (o := { dst := some 22, op := Op.buildSlice 35 3 #[(0, (Operand.const (Value.string { data := #[97] }))), (1, (Operand.const (Value.string { data := #[98, 99] }))), (2, (Operand.const (Value.string { data := #[100, 32, 101, 32, 102] })))], type := _, pos := _, after := _, guard := none }) rfl (fun K hK => ?_) ?_
        · skip
          go_simp
          go_wp2_with fail
          refine hK.out _ _ ?_ (fun hHeld => ?_)
          · exact hKP.out _ ((Below.refl _ wr).drew.alloc (Nat.le_refl _) _)
          clear hK K
          try simp only [Act.put, List.setIfInBounds_toArray, List.set_cons_zero, List.set_cons_succ]
          refine wpAnyF_ready (rs := [6]) (by kernel_rfl) (by simp) ?_
          refine AllReadyF.cons (o := { dst := some 21, op := Op.call { callee := Callee.value (Operand.func 36), args := #[(Operand.tmp 20), (Operand.const (Value.int IntKind.i64 64))], argTypes := #[3, 3] }, type := _, pos := _, after := _, guard := none }) rfl (fun K hK => ?_) ?_
          · skip
            go_simp
            refine (p1.out _).mono ?_
            rintro e w' ⟨rfl, rfl⟩
            go_wp2_with fail
            refine hK.out _ _ ?_ (fun hHeld => ?_)
            · exact hKP.out _ ((Below.refl _ wr).drew.alloc (Nat.le_refl _) _)
            clear hK K
            try simp only [Act.put, List.setIfInBounds_toArray, List.set_cons_zero, List.set_cons_succ]
            refine wpAnyF_ready (rs := [13]) (by kernel_rfl) (by simp) ?_
            refine AllReadyF.cons (o := { dst := some 28, op := Op.call { callee := Callee.value (Operand.func 36), args := #[(Operand.tmp 27), (Operand.const (Value.int IntKind.i64 3))], argTypes := #[3, 3] }, type := _, pos := _, after := _, guard := none }) rfl (fun K hK => ?_) ?_
            · skip
              go_simp
              refine (p2.out _).mono ?_
              rintro e w' ⟨rfl, rfl⟩
              go_wp2_with fail
              refine hK.out _ _ ?_ (fun hHeld => ?_)
              · exact hKP.out _ ((Below.refl _ wr).drew.alloc (Nat.le_refl _) _)
              clear hK K
              try simp only [Act.put, List.setIfInBounds_toArray, List.set_cons_zero, List.set_cons_succ]
              refine wpAnyF_take (i := 14) (oi := { dst := some 29, op := Op.indexAddr 35 (Operand.tmp 22) (Operand.tmp 28), type := _, pos := _, after := _, guard := none }) (v := ?_) rfl (by kernel_rfl) (by kernel_rfl) (by kernel_rfl) (by kernel_rfl) (fun _ _ _ h => h) (Or.inl ⟨by rfl, ?_⟩) (by assumption) ?_
              rotate_left
              · ((intro w hSw; (try dsimp only at hSw); go_simp) <;> with_reducible rfl)
              try simp only [Act.put, List.setIfInBounds_toArray, List.set_cons_zero, List.set_cons_succ]
              refine wpAnyF_ready (rs := [15]) (by kernel_rfl) (by simp) ?_
              refine AllReadyF.cons (o := { dst := some 30, op := Op.load 9 (Operand.tmp 29), type := _, pos := _, after := _, guard := none }) rfl (fun K hK => ?_) ?_
              · skip
                go_simp
                go_wp2_with fail
                refine hK.out _ _ ?_ (fun hHeld => ?_)
                · exact hKP.out _ ((Below.refl _ wr).drew.alloc (Nat.le_refl _) _)
                clear hK K
                try simp only [Act.put, List.setIfInBounds_toArray, List.set_cons_zero, List.set_cons_succ]
                refine wpAnyF_ready (rs := [16]) (by kernel_rfl) (by simp) ?_
                refine AllReadyF.cons (o := { dst := some 31, op := Op.call { callee := Callee.value (Operand.func 33), args := #[(Operand.tmp 15), (Operand.tmp 21), (Operand.tmp 30)], argTypes := #[23, 3, 9] }, type := _, pos := _, after := _, guard := none }) rfl (fun K hK => ?_) ?_
                · skip
                  go_simp
                  with_reducible refine (hput.out _ ((Below.refl _ wr).alloc (Nat.le_refl _) _).drew).mono ?_
                  rintro e W3 ⟨r, rfl, oR, bR⟩
                  have hB3 : Below wr.heap.size wr W3 := ((Below.refl _ wr).alloc (Nat.le_refl _) _).drew.trans (bR.mono (by simp))
                  go_wp2_with fail
                  refine hK.out _ _ ?_ (fun hHeld => ?_)
                  · exact hKP.out _ hB3
                  clear hK K
                  try simp only [Act.put, List.setIfInBounds_toArray, List.set_cons_zero, List.set_cons_succ]
                  refine wpAnyF_ready (rs := [17]) (by kernel_rfl) (by simp) ?_
                  refine AllReadyF.last (o := { dst := some 3, op := Op.assign (Operand.tmp 31), type := _, pos := _, after := _, guard := none }) rfl (fun K hK => ?_) ?_
                  · skip
                    go_simp
                    refine hK.out _ _ ?_
                    clear hK K
                    try simp only [Act.put, List.setIfInBounds_toArray, List.set_cons_zero, List.set_cons_succ]
                    refine wpAnyF_done (by kernel_rfl) ?_ _
                    obtain ⟨ra, rc, hrs⟩ := (OwnG.SL eE_len oR).shape
                    have hend := Lib.hid (show OE W3 W0.heap.size r (putE L (k1 : Int) s2) ∧ Below W0.heap.size W0 W3 from ⟨oR.mono (Bh.out.trans ((((Below.refl _ wr).alloc (Nat.le_refl _) _).drew).mono Bh.out.size)).size, Bh.out.trans (hB3.mono Bh.out.size)⟩)
                    subst hrs
                    clear oR bR hB3
                    go_wp2_with fail
                    go_roundw
                    case rel => exact ⟨i + 1, by omega, by omega, by go_num, _, ⟨_, _, _, rfl⟩, hend.out.1, hnew.out, hend.out.2⟩
                    case measure => simp [intOf]; omega
                  exact AllReadyF.nil
                exact AllReadyF.nil
              exact AllReadyF.nil
            exact AllReadyF.nil
          exact AllReadyF.nil
        exact AllReadyF.nil
      · have t : ¬ (i : Int) < 12 := by omega
        have t1 : (i : Int) < (N : Int) := by omega
        clear hc hbh
        go_wp2_with fail
        go_ret
        exact ⟨_, L, rfl, hown, hmp, Mp_len L hmp, B⟩
    · have t : ¬ (i : Int) < (N : Int) := by omega
      clear hc hbh
      go_wp2_with fail
      go_ret
      exact ⟨_, L, rfl, hown, hmp, Mp_len L hmp, B⟩
end Go.Proofs.YtegahpfmkepfmaaDoor
