import Derived.Test.YthdfadlniacdcaaDoorChb
import Derived.Test.YthdfadlniacdcaaDoorBnd
namespace Go.Proofs.YthdfadlniacdcaaDoor
open Go.RowKit
/-- what lies in the longer list where the shorter one ends -/
def ZeroAt (x y : List Str) : Prop := x.length ≠ y.length ∧ ∃ z, (if y.length > x.length then y else x)[min x.length y.length]? = some z ∧ sha z = zero32
theorem chain_cases (A B : List Str) (hne : A ≠ B) (he : (hR sha A.reverse).2 = (hR sha B.reverse).2) :
    Coll sha (hR sha A.reverse).1 (hR sha B.reverse).1 ∨ ZeroAt (hR sha A.reverse).1 (hR sha B.reverse).1 := by
  rcases chain_binding sha sha_len A.reverse B.reverse he with h | h | ⟨h1, z, h2, h3⟩
  · exact absurd (List.reverse_inj.1 h) hne
  · exact .inl h
  · refine .inr ⟨by rw [hR_size, hR_size]; exact h1, z, ?_, h3⟩
    rw [hR_size, hR_size]
    exact h2
/-- 32 zero bytes, made anywhere -/
theorem zero_any : ∃ M : Array Value, (∀ W : World, (Instr.makeSlice 43 (.int .i64 32) (.int .i64 32)).run Tryd.prog W = .ok (.slice (some ⟨W.heap.size, 0, none⟩) 32 32) (W.alloc (.cells M 5))) ∧
    (∀ W : World, (convert 43 9 (.slice (some ⟨W.heap.size, 0, none⟩) 32 32)).run Tryd.prog (W.alloc (.cells M 5)) = .ok (.string ⟨zero32.toArray⟩) (W.alloc (.cells M 5))) ∧
    ∀ (W : World) (b : Nat), W.heap[b]? = some (.cells M 5 (0, 0)) → (convert 43 9 (.slice (some ⟨b, 0, none⟩) 32 32)).run Tryd.prog W = .ok (.string ⟨zero32.toArray⟩) W := by
  obtain ⟨i0, hi, hz0, hz1, hz2⟩ := info_parts info5z
  have key : ∀ (W : World) (b : Nat), W.heap[b]? = some (.cells (madeCells (Value.int .u8 0).cells 32) 5 (0, 0)) → (convert 43 9 (.slice (some ⟨b, 0, none⟩) 32 32)).run Tryd.prog W = .ok (.string ⟨zero32.toArray⟩) W := fun W b hb => by
    have h := run_convert_bytes_back (P := Tryd.prog) W 43 9 5 ⟨b, 0, none⟩ 32 zero32 Tryd.underlying43 Tryd.underlying5 Tryd.underlying9 (fun j hj => by
      have hj2 : j < 32 := by simpa [zero32] using hj
      rw [Addr.add_lit, cell_of_row _ _ _ _ _ _ hb]
      have e : madeCells (Value.int .u8 0).cells 32 = Array.replicate 32 (.int .u8 0) := by kernel_rfl
      have e2 : zero32[j]'hj = 0 := List.eq_of_mem_replicate (n := 32) (List.getElem_mem hj)
      rw [e, show ((zero32[j]'hj).toNat : Int) = ((0 : UInt8).toNat : Int) from by rw [e2], Nat.zero_add, Array.getElem?_replicate, if_pos hj2]
      rfl)
    exact h
  refine ⟨madeCells (Value.int .u8 0).cells 32, fun W => ?_, fun W => key _ _ (heap_alloc_new W _), key⟩
  have h := run_make (P := Tryd.prog) W 43 5 i0 (.int .u8 0) Tryd.underlying43 hi hz0 .i64 .i64 32 32 (by omega) (by omega) (by rw [hz2]; omega) (by omega)
  rw [hz1] at h
  simpa using h

set_option maxRecDepth 100000 in
set_option maxHeartbeats 4000000 in
set_option linter.unusedSimpArgs false in
theorem ChainBinding_any (va vb : Value) (a b : List Str) (w : World) (ha : ArgS w va a) (hb : ArgS w vb b) (hT : Tab w) :
    Calls Tryd.prog 9 #[va, vb] w fun e w' => e = .returned (.bool true) ∧ Below w.heap.size w w' := by
  obtain ⟨M, zm1, zm2, zm3⟩ := zero_any
  have zm3h := Lib.hid zm3
  have zm2d : ∀ W : World, (convert 43 9 (.slice (some ⟨W.heap.size, 0, none⟩) 32 32)).run Tryd.prog (W.alloc (.cells M 5)).drew = .ok (.string ⟨zero32.toArray⟩) (W.alloc (.cells M 5)).drew := fun W => zm3 _ _ (heap_alloc_new W _)
  clear zm3
  have c1 := Lib.hid (sane_any w hT)
  have c2 := Lib.hid (fun w' (B : Below w.heap.size w w') => few_any va a 20 w' (ha.below B) (by omega))
  have c3 := Lib.hid (fun w' (B : Below w.heap.size w w') => few_any vb b 20 w' (hb.below B) (by omega))
  have hT2 := Lib.hid hT
  have hP1 := fewS_len a 20
  have hP2 := fewS_small a 20
  have hQ1 := fewS_len b 20
  have hQ2 := fewS_small b 20
  generalize fewS a 20 = A at *
  generalize fewS b 20 = B at *
  have hPl : A.length ≤ 20 := by omega
  have hQl : B.length ≤ 20 := by omega
  have hAu : ∀ u ∈ A, List.length u ≤ 1000 := fun u hu => by have := hP2 u hu; omega
  have hBu : ∀ u ∈ B, List.length u ≤ 1000 := fun u hu => by have := hQ2 u hu; omega
  have hAr := hR_small A.reverse (fun u hu => hAu u (by simpa using hu))
  have hBr := hR_small B.reverse (fun u hu => hBu u (by simpa using hu))
  have sA := hR_size sha A.reverse
  have sB := hR_size sha B.reverse
  rw [List.length_reverse] at sA sB
  have lA := hR_len sha sha_len A.reverse
  have lB := hR_len sha sha_len B.reverse
  have hcc := chain_cases A B
  have hsame : A = B → hR sha A.reverse = hR sha B.reverse := fun e => by rw [e]
  have hAu2 := Lib.hid hAu
  have hBu2 := Lib.hid hBu
  have hd : (A = B ∧ hR sha A.reverse = hR sha B.reverse) ∨ (A ≠ B ∧ (hR sha A.reverse).2 ≠ (hR sha B.reverse).2) ∨ (A ≠ B ∧ (hR sha A.reverse).2 = (hR sha B.reverse).2 ∧ (Coll sha (hR sha A.reverse).1 (hR sha B.reverse).1 ∨ ZeroAt (hR sha A.reverse).1 (hR sha B.reverse).1)) := by
    by_cases e : A = B
    · exact .inl ⟨e, hsame e⟩
    · by_cases e2 : (hR sha A.reverse).2 = (hR sha B.reverse).2
      · exact .inr (.inr ⟨e, e2, hcc e e2⟩)
      · exact .inr (.inl ⟨e, e2⟩)
  clear hcc hsame ha hb hP1 hP2 hQ1 hQ2 hAu hBu hT
  go_enter Tryd.func9, Tryd.ntmps9
  go_wp2_with fail
  refine c1.out.mono ?_
  rintro e w1 ⟨rfl, B1⟩
  go_wp2_with fail
  refine (c2.out _ B1).mono ?_
  rintro e w2 ⟨v2, rfl, o2, d2⟩
  have B2 := B1.trans (d2.mono B1.size)
  have s2 := own_SL o2
  clear o2 d2
  go_wp2_with fail
  refine (c3.out _ B2).mono ?_
  rintro e w3 ⟨v3, rfl, o3, d3⟩
  have B3 := B2.trans (d3.mono B2.size)
  have s3 := own_SL o3
  have s2 := s2.below d3
  have hT3 := hT2.out.below B3
  clear o3 d3
  have k1 := Lib.hid (fun w' (B : Below w3.heap.size w3 w') => heads_any v2 A w' (s2.below B) (by omega) hAu2.out (hT3.below B))
  have k2 := Lib.hid (fun w' (D : Below w3.heap.size w3 w') => heads_any v3 B w' (s3.below D) (by omega) hBu2.out (hT3.below D))
  have k3 := Lib.hid (fun w' (D : Below w3.heap.size w3 w') => same_any v2 v3 A B w' (s2.below D) (s3.below D) (by omega) (by omega))
  have fin := Lib.hid (fun w' (B : Below w3.heap.size w3 w') => B3.trans (B.mono B3.size))
  have hT4 := Lib.hid hT3
  obtain ⟨p2, q2, rfl⟩ := s2.shape
  obtain ⟨p3, q3, rfl⟩ := s3.shape
  clear s2 s3 hT3 B3 B2 B1 c1 c2 c3 hAu2 hBu2
  have bb := Below.refl w3.heap.size w3
  generalize hR sha A.reverse = X at *
  generalize hR sha B.reverse = Y at *
  obtain ⟨X1, X2⟩ := X
  obtain ⟨Y1, Y2⟩ := Y
  dsimp only at *
  have hd2 := Lib.hid hd
  clear hd
  go_wp2_with fail
  refine (k1.out _ bb).mono ?_
  rintro e w4 ⟨v4, rfl, s4, d⟩
  have bb := bb.trans (d.mono bb.size)
  clear d
  go_wp2_with fail
  refine (k2.out _ bb).mono ?_
  rintro e w5 ⟨v5, rfl, s5, d⟩
  have s4 := s4.below d
  have bb := bb.trans (d.mono bb.size)
  clear d
  go_wp2_with fail
  refine (k3.out _ bb).mono ?_
  rintro e w6 ⟨rfl, d⟩
  have s4 := s4.below d
  have s5 := s5.below d
  have bb := bb.trans (d.mono bb.size)
  clear d
  have t32 : ((X2.length : Int) != 32) = false := by rw [lA]; rfl
  generalize A.length = nA at *
  generalize hs : (A == B) = sm at *
  rcases hd2.out with ⟨h1, h2⟩ | ⟨h1, h2⟩ | ⟨h1, h2, h3⟩
  · obtain rfl : sm = true := by rw [← hs]; simpa using h1
    obtain ⟨rfl, rfl⟩ : X1 = Y1 ∧ X2 = Y2 := by simpa using h2
    clear hd2 h1 h2 hs
    have t1 : (X2 != X2) = false := by simp
    have lAh := Lib.hid lA
    clear lA lB
    go_wp2_with fail
    go_ret
    exact ⟨rfl, fin.out _ bb⟩
  · obtain rfl : sm = false := by rw [← hs]; simpa using h1
    have t1 : (X2 != Y2) = true := by simpa using h2
    have t2 : (X2 == Y2) = false := by simpa using h2
    clear hd2 h1 h2 hs
    have lAh := Lib.hid lA
    clear lA lB
    go_wp2_with fail
    go_ret
    exact ⟨rfl, fin.out _ bb⟩
  · obtain rfl : sm = false := by rw [← hs]; simpa using h1
    subst h2
    have t1 : (X2 != X2) = false := by simp
    clear hd2 h1 hs
    have lAh := Lib.hid lA
    clear lA lB
    have n1 : X1.length ≤ 20 := by omega
    have n2 : Y1.length ≤ 20 := by omega
    have kc := Lib.hid (fun w' (B : Below w6.heap.size w6 w') => collide_dec _ _ X1 Y1 w' (s4.below B) (s5.below B) (by omega) (by omega) hAr hBr ((hT4.out.below bb).below B))
    -- the longer list
    rcases Nat.lt_trichotomy X1.length Y1.length with hlt | heq | hgt
    · obtain ⟨bL, oL, kL, rfl, f1, f2, f3⟩ := s5.own (fun e => by rw [e] at hlt; simp at hlt)
      obtain ⟨p4, q4, rfl⟩ := s4.shape
      have hz : ∃ z, Y1[X1.length]? = some z ∧ (Coll sha X1 Y1 ∨ sha z = zero32) := by
        refine ⟨Y1[X1.length], List.getElem?_eq_getElem hlt, ?_⟩
        rcases h3 with h | ⟨_, z, e1, e2⟩
        · exact .inl h
        · rw [if_pos (show Y1.length > X1.length from hlt), Nat.min_eq_left (Nat.le_of_lt hlt)] at e1
          rw [List.getElem?_eq_getElem hlt] at e1
          simp at e1
          exact .inr (by rw [e1]; exact e2)
      obtain ⟨z, hz1, hz2⟩ := hz
      have hzl : z.length ≤ 100000 := hBr z (List.mem_of_getElem? hz1)
      have fw := Lib.hid (fun w' (B : Below w6.heap.size w6 w') => ((B.cell (p := ⟨bL, oL + X1.length, none⟩) f2).trans (f3 _ _ hz1)))
      have s1 := Lib.hid (fun w' (B : Below w6.heap.size w6 w') => Sum_any z w' (by omega) ((hT4.out.below bb).below B))
      have hmin : ∀ ts ty w, (Builtin.min_ ts ty #[.int .i64 (X1.length : Int), .int .i64 (Y1.length : Int)]).run Tryd.prog w = .ok (.int .i64 (X1.length : Int)) w := fun ts ty w => by
        have h := min_run X1.length Y1.length ts ty w _ rfl
        rw [Nat.min_eq_left (Nat.le_of_lt hlt)] at h
        exact h
      have hzc : (sha z == zero32) = true ∨ ((sha z == zero32) = false ∧ Hid (Coll sha X1 Y1)) := by
        by_cases e : sha z = zero32
        · exact .inl (by simpa using e)
        · exact .inr ⟨by simpa using e, hz2.elim id (fun h => absurd h e)⟩
      have bL6 : bL < w6.heap.size := f2
      clear hz1 hz2 h3 hT4 f3 hAr hBr
      generalize sha z = dz at *
      generalize zero32 = zr at *
      clear sA sB
      generalize X1.length = N at *
      generalize Y1.length = M' at *
      have hne : ((N : Int) != (M' : Int)) = true := by rw [bne_iff_ne]; omega
      have u1 : decide ((M' : Int) > (N : Int)) = true := by rw [decide_eq_true_iff]; omega
      have u1n : decide ((N : Int) < (M' : Int)) = true := by rw [decide_eq_true_iff]; omega
      have u1i : (N : Int) < (M' : Int) := by omega
      have i0 : (0 : Int) ≤ (N : Int) := by omega
      have i1 : (N : Int) < (M' : Int) := by omega
      have fw0 := fw.out _ (Below.refl _ _)
      have hfinb : ∀ b : Bool, (Coll sha X1 Y1 → b = true) → b = true ∨ ((dz == zr) = true ∧ b = false) := fun b h => by
        rcases hzc with e | ⟨_, e⟩
        · cases b
          · exact .inr ⟨e, rfl⟩
          · exact .inl rfl
        · exact .inl (h e.out)
      have hfinh := Lib.hid hfinb
      have hzc2 : (dz == zr) = true ∨ (dz == zr) = false := hzc.imp id (fun h => h.1)
      clear hfinb hzc
      rcases hzc2 with hzc | hzc
      all_goals
        go_wp2_with fail
        refine wp_region_held_drew (S := (fun w' : World => w'.cell? ⟨bL, oL + N, none⟩ = some (.string ⟨z.toArray⟩))) (by kernel_rfl) fw0 (fun hHeld => ?_)
        refine wpAnyH_take (i := 0) (oi := { dst := some 61, op := Op.move (Operand.tmp 6), type := 26, pos := _, after := _, guard := none }) (v := ?_) rfl (by kernel_rfl) (by kernel_rfl) (by kernel_rfl) (fun _ _ _ h => h) (Or.inl ⟨by rfl, ?_⟩) (by assumption) ?_
        rotate_left
        · ((intro w hSw; (try dsimp only at hSw); go_simp) <;> with_reducible rfl)
        try simp only [Act.put, List.setIfInBounds_toArray, List.set_cons_zero, List.set_cons_succ]
        refine wpAnyH_take (i := 1) (oi := { dst := some 62, op := Op.call { callee := Callee.builtin Builtin.len, args := #[Operand.tmp 61], argTypes := #[26] }, type := 3, pos := _, after := _, guard := none }) (v := ?_) rfl (by kernel_rfl) (by kernel_rfl) (by kernel_rfl) (fun _ _ _ h => h) (Or.inl ⟨by rfl, ?_⟩) (by assumption) ?_
        rotate_left
        · ((intro w hSw; (try dsimp only at hSw); go_simp) <;> with_reducible rfl)
        try simp only [Act.put, List.setIfInBounds_toArray, List.set_cons_zero, List.set_cons_succ]
        refine wpAnyH_take (i := 2) (oi := { dst := some 63, op := Op.move (Operand.tmp 8), type := 26, pos := _, after := _, guard := none }) (v := ?_) rfl (by kernel_rfl) (by kernel_rfl) (by kernel_rfl) (fun _ _ _ h => h) (Or.inl ⟨by rfl, ?_⟩) (by assumption) ?_
        rotate_left
        · ((intro w hSw; (try dsimp only at hSw); go_simp) <;> with_reducible rfl)
        try simp only [Act.put, List.setIfInBounds_toArray, List.set_cons_zero, List.set_cons_succ]
        refine wpAnyH_take (i := 3) (oi := { dst := some 64, op := Op.call { callee := Callee.builtin Builtin.len, args := #[Operand.tmp 63], argTypes := #[26] }, type := 3, pos := _, after := _, guard := none }) (v := ?_) rfl (by kernel_rfl) (by kernel_rfl) (by kernel_rfl) (fun _ _ _ h => h) (Or.inl ⟨by rfl, ?_⟩) (by assumption) ?_
        rotate_left
        · ((intro w hSw; (try dsimp only at hSw); go_simp) <;> with_reducible rfl)
        try simp only [Act.put, List.setIfInBounds_toArray, List.set_cons_zero, List.set_cons_succ]
        refine wpAnyH_take (i := 4) (oi := { dst := some 65, op := Op.binOp BinOp.neq 3 (Operand.tmp 62) (Operand.tmp 64) 3, type := 4, pos := _, after := _, guard := none }) (v := ?_) rfl (by kernel_rfl) (by kernel_rfl) (by kernel_rfl) (fun _ _ _ h => h) (Or.inl ⟨by rfl, ?_⟩) (by assumption) ?_
        rotate_left
        · ((intro w hSw; (try dsimp only at hSw); go_simp) <;> with_reducible rfl)
        try simp only [Act.put, List.setIfInBounds_toArray, List.set_cons_zero, List.set_cons_succ]
        refine wpAnyH_take (i := 5) (oi := { dst := some 66, op := Op.move (Operand.tmp 65), type := 4, pos := _, after := _, guard := none }) (v := ?_) rfl (by kernel_rfl) (by kernel_rfl) (by kernel_rfl) (fun _ _ _ h => h) (Or.inl ⟨by rfl, ?_⟩) (by assumption) ?_
        rotate_left
        · ((intro w hSw; (try dsimp only at hSw); go_simp) <;> with_reducible rfl)
        try simp only [Act.put, List.setIfInBounds_toArray, List.set_cons_zero, List.set_cons_succ]
        refine wpAnyH_take (i := 6) (oi := { dst := some 67, op := Op.move (Operand.tmp 11), type := 26, pos := _, after := _, guard := some (5, true) }) (v := ?_) rfl (by kernel_rfl) (by kernel_rfl) (by kernel_rfl) (fun _ _ _ h => h) (Or.inl ⟨by rfl, ?_⟩) (by assumption) ?_
        rotate_left
        · ((intro w hSw; (try dsimp only at hSw); go_simp) <;> with_reducible rfl)
        try simp only [Act.put, List.setIfInBounds_toArray, List.set_cons_zero, List.set_cons_succ]
        refine wpAnyH_take (i := 7) (oi := { dst := some 68, op := Op.move (Operand.tmp 6), type := 26, pos := _, after := _, guard := some (5, true) }) (v := ?_) rfl (by kernel_rfl) (by kernel_rfl) (by kernel_rfl) (fun _ _ _ h => h) (Or.inl ⟨by rfl, ?_⟩) (by assumption) ?_
        rotate_left
        · ((intro w hSw; (try dsimp only at hSw); go_simp) <;> with_reducible rfl)
        try simp only [Act.put, List.setIfInBounds_toArray, List.set_cons_zero, List.set_cons_succ]
        refine wpAnyH_take (i := 8) (oi := { dst := some 69, op := Op.call { callee := Callee.builtin Builtin.len, args := #[Operand.tmp 68], argTypes := #[26] }, type := 3, pos := _, after := _, guard := some (5, true) }) (v := ?_) rfl (by kernel_rfl) (by kernel_rfl) (by kernel_rfl) (fun _ _ _ h => h) (Or.inl ⟨by rfl, ?_⟩) (by assumption) ?_
        rotate_left
        · ((intro w hSw; (try dsimp only at hSw); go_simp) <;> with_reducible rfl)
        try simp only [Act.put, List.setIfInBounds_toArray, List.set_cons_zero, List.set_cons_succ]
        refine wpAnyH_take (i := 9) (oi := { dst := some 70, op := Op.move (Operand.tmp 8), type := 26, pos := _, after := _, guard := some (5, true) }) (v := ?_) rfl (by kernel_rfl) (by kernel_rfl) (by kernel_rfl) (fun _ _ _ h => h) (Or.inl ⟨by rfl, ?_⟩) (by assumption) ?_
        rotate_left
        · ((intro w hSw; (try dsimp only at hSw); go_simp) <;> with_reducible rfl)
        try simp only [Act.put, List.setIfInBounds_toArray, List.set_cons_zero, List.set_cons_succ]
        refine wpAnyH_take (i := 10) (oi := { dst := some 71, op := Op.call { callee := Callee.builtin Builtin.len, args := #[Operand.tmp 70], argTypes := #[26] }, type := 3, pos := _, after := _, guard := some (5, true) }) (v := ?_) rfl (by kernel_rfl) (by kernel_rfl) (by kernel_rfl) (fun _ _ _ h => h) (Or.inl ⟨by rfl, ?_⟩) (by assumption) ?_
        rotate_left
        · ((intro w hSw; (try dsimp only at hSw); go_simp) <;> with_reducible rfl)
        try simp only [Act.put, List.setIfInBounds_toArray, List.set_cons_zero, List.set_cons_succ]
        refine wpAnyH_take (i := 11) (oi := { dst := some 72, op := Op.call { callee := Callee.builtin Builtin.min, args := #[Operand.tmp 69, Operand.tmp 71], argTypes := #[3, 3] }, type := 3, pos := _, after := _, guard := some (5, true) }) (v := ?_) rfl (by kernel_rfl) (by kernel_rfl) (by kernel_rfl) (fun _ _ _ h => h) (Or.inl ⟨by rfl, ?_⟩) (by assumption) ?_
        rotate_left
        · ((intro w hSw; (try dsimp only at hSw); go_simp) <;> with_reducible rfl)
        try simp only [Act.put, List.setIfInBounds_toArray, List.set_cons_zero, List.set_cons_succ]
        refine wpAnyH_take (i := 12) (oi := { dst := some 73, op := Op.indexAddr 26 (Operand.tmp 67) (Operand.tmp 72), type := 0, pos := _, after := _, guard := some (5, true) }) (v := ?_) rfl (by kernel_rfl) (by kernel_rfl) (by kernel_rfl) (fun _ _ _ h => h) (Or.inl ⟨by rfl, ?_⟩) (by assumption) ?_
        rotate_left
        · ((intro w hSw; (try dsimp only at hSw); go_simp) <;> with_reducible rfl)
        try simp only [Act.put, List.setIfInBounds_toArray, List.set_cons_zero, List.set_cons_succ]
        refine wpAnyH_take (i := 13) (oi := { dst := some 74, op := Op.load 9 (Operand.tmp 73), type := 9, pos := _, after := _, guard := some (5, true) }) (v := ?_) rfl (by kernel_rfl) (by kernel_rfl) (by kernel_rfl) (fun _ _ _ h => h) (Or.inl ⟨by rfl, ?_⟩) (by assumption) ?_
        rotate_left
        · ((intro w hSw; (try dsimp only at hSw); go_simp) <;> with_reducible rfl)
        try simp only [Act.put, List.setIfInBounds_toArray, List.set_cons_zero, List.set_cons_succ]
        refine wpAnyH_ready (rs := [14, 15]) (by kernel_rfl) (by simp) ?_
        refine AllReadyH.cons (o := { dst := some 75, op := Op.call { callee := Callee.value (Operand.func 13), args := #[Operand.tmp 74], argTypes := #[9] }, type := 9, pos := _, after := _, guard := some (5, true) }) rfl (fun K hK => ?_) ?_
        · skip
          go_simp
          with_reducible refine (s1.out _ ((Below.refl _ w6).drew)).mono ?_
          rintro e w8 ⟨rfl, hb3⟩
          have B3 : Below w6.heap.size w6 w8 := ((Below.refl _ w6).drew).trans (hb3.mono (Nat.le_refl _))
          go_wp2_with fail
          refine hK.out _ _ ?_ (fun hHeld => ?_)
          · exact fw.out _ B3
          clear hK K
          try simp only [Act.put, List.setIfInBounds_toArray, List.set_cons_zero, List.set_cons_succ]
          refine wpAnyH_ready (rs := [15]) (by kernel_rfl) (by simp) ?_
          refine AllReadyH.cons (o := { dst := some 76, op := Op.makeSlice 43 (Operand.const (Value.int IntKind.i64 32)) (Operand.const (Value.int IntKind.i64 32)), type := 43, pos := _, after := _, guard := some (5, true) }) rfl (fun K hK => ?_) ?_
          · skip
            go_simp
            refine hK.out _ _ ?_ (fun hHeld => ?_)
            · exact fw.out _ (B3.alloc B3.size _)
            clear hK K
            try simp only [Act.put, List.setIfInBounds_toArray, List.set_cons_zero, List.set_cons_succ]
            refine wpAnyH_ready (rs := [16]) (by kernel_rfl) (by simp) ?_
            refine AllReadyH.cons (o := { dst := some 77, op := Op.convert 43 9 (Operand.tmp 76), type := 9, pos := _, after := _, guard := some (5, true) }) rfl (fun K hK => ?_) ?_
            · skip
              go_simp
              refine hK.out _ _ ?_ (fun hHeld => ?_)
              · assumption
              clear hK K
              try simp only [Act.put, List.setIfInBounds_toArray, List.set_cons_zero, List.set_cons_succ]
              refine wpAnyH_take (i := 17) (oi := { dst := some 78, op := Op.binOp BinOp.eql 9 (Operand.tmp 75) (Operand.tmp 77) 9, type := 4, pos := _, after := _, guard := some (5, true) }) (v := ?_) rfl (by kernel_rfl) (by kernel_rfl) (by kernel_rfl) (fun _ _ _ h => h) (Or.inl ⟨by rfl, ?_⟩) (by assumption) ?_
              rotate_left
              · ((intro w hSw; (try dsimp only at hSw); go_simp) <;> with_reducible rfl)
              try simp only [Act.put, List.setIfInBounds_toArray, List.set_cons_zero, List.set_cons_succ]
              refine wpAnyH_take (i := 18) (oi := { dst := some 79, op := Op.pick (Operand.tmp 66) (Operand.tmp 78) (Operand.const (Value.bool false)), type := 4, pos := _, after := _, guard := none }) (v := ?_) rfl (by kernel_rfl) (by kernel_rfl) (by kernel_rfl) (fun _ _ _ h => h) (Or.inl ⟨by rfl, ?_⟩) (by assumption) ?_
              rotate_left
              · ((intro w hSw; (try dsimp only at hSw); go_simp) <;> with_reducible rfl)
              try simp only [Act.put, List.setIfInBounds_toArray, List.set_cons_zero, List.set_cons_succ]
              refine wpAnyH_take (i := 19) (oi := { dst := some 12, op := Op.assign (Operand.tmp 79), type := 4, pos := _, after := _, guard := none }) (v := ?_) rfl (by kernel_rfl) (by kernel_rfl) (by kernel_rfl) (fun _ _ _ h => h) (Or.inl ⟨by rfl, ?_⟩) (by assumption) ?_
              rotate_left
              · ((intro w hSw; (try dsimp only at hSw); go_simp) <;> with_reducible rfl)
              try simp only [Act.put, List.setIfInBounds_toArray, List.set_cons_zero, List.set_cons_succ]
              refine wpAnyH_done (by kernel_rfl) ?_ _
              have Bz : Below w6.heap.size w6 (w8.alloc (.cells M 5)) := B3.alloc B3.size _
              go_wp2_with fail
              refine (kc.out _ Bz).mono ?_
              rintro e w9 ⟨b, rfl, hb, d⟩
              have Be : Below w6.heap.size w6 w9 := Bz.trans (d.mono Bz.size)
              rcases hfinh.out b hb with rfl | ⟨hx, rfl⟩
              · go_wp2_with fail
                go_ret
                exact ⟨rfl, fin.out _ (bb.trans (Be.mono bb.size))⟩
              · first
                  | (go_wp2_with fail
                     go_ret
                     exact ⟨rfl, fin.out _ (bb.trans (Be.mono bb.size))⟩)
                  | (exact absurd (hx.symm.trans hzc) (by decide))
            exact AllReadyH.nil
          exact AllReadyH.nil
        refine AllReadyH.cons (o := { dst := some 76, op := Op.makeSlice 43 (Operand.const (Value.int IntKind.i64 32)) (Operand.const (Value.int IntKind.i64 32)), type := 43, pos := _, after := _, guard := some (5, true) }) rfl (fun K hK => ?_) ?_
        · skip
          go_simp
          refine hK.out _ _ ?_ (fun hHeld => ?_)
          · exact fw.out _ (((Below.refl _ w6).alloc (Nat.le_refl _) (.cells M 5)).drew)
          clear hK K
          try simp only [Act.put, List.setIfInBounds_toArray, List.set_cons_zero, List.set_cons_succ]
          refine wpAnyH_ready (rs := [14, 16]) (by kernel_rfl) (by simp) ?_
          refine AllReadyH.cons (o := { dst := some 75, op := Op.call { callee := Callee.value (Operand.func 13), args := #[Operand.tmp 74], argTypes := #[9] }, type := 9, pos := _, after := _, guard := some (5, true) }) rfl (fun K hK => ?_) ?_
          · skip
            go_simp
            with_reducible refine (s1.out _ (((Below.refl _ w6).alloc (Nat.le_refl _) (.cells M 5)).drew)).mono ?_
            rintro e w8 ⟨rfl, hb3⟩
            have B3 : Below w6.heap.size w6 w8 := (((Below.refl _ w6).alloc (Nat.le_refl _) (.cells M 5)).drew).trans (hb3.mono (((Below.refl _ w6).alloc (Nat.le_refl _) (.cells M 5)).drew).size)
            have zm4 := zm3h.out w8 w6.heap.size (by rw [hb3.block _ (show w6.heap.size < (w6.alloc (.cells M 5)).heap.size by simp)]; exact heap_alloc_new _ _)
            go_wp2_with fail
            refine hK.out _ _ ?_ (fun hHeld => ?_)
            · exact fw.out _ B3
            clear hK K
            try simp only [Act.put, List.setIfInBounds_toArray, List.set_cons_zero, List.set_cons_succ]
            refine wpAnyH_ready (rs := [16]) (by kernel_rfl) (by simp) ?_
            refine AllReadyH.cons (o := { dst := some 77, op := Op.convert 43 9 (Operand.tmp 76), type := 9, pos := _, after := _, guard := some (5, true) }) rfl (fun K hK => ?_) ?_
            · skip
              go_simp
              refine hK.out _ _ ?_ (fun hHeld => ?_)
              · assumption
              clear hK K
              try simp only [Act.put, List.setIfInBounds_toArray, List.set_cons_zero, List.set_cons_succ]
              refine wpAnyH_take (i := 17) (oi := { dst := some 78, op := Op.binOp BinOp.eql 9 (Operand.tmp 75) (Operand.tmp 77) 9, type := 4, pos := _, after := _, guard := some (5, true) }) (v := ?_) rfl (by kernel_rfl) (by kernel_rfl) (by kernel_rfl) (fun _ _ _ h => h) (Or.inl ⟨by rfl, ?_⟩) (by assumption) ?_
              rotate_left
              · ((intro w hSw; (try dsimp only at hSw); go_simp) <;> with_reducible rfl)
              try simp only [Act.put, List.setIfInBounds_toArray, List.set_cons_zero, List.set_cons_succ]
              refine wpAnyH_take (i := 18) (oi := { dst := some 79, op := Op.pick (Operand.tmp 66) (Operand.tmp 78) (Operand.const (Value.bool false)), type := 4, pos := _, after := _, guard := none }) (v := ?_) rfl (by kernel_rfl) (by kernel_rfl) (by kernel_rfl) (fun _ _ _ h => h) (Or.inl ⟨by rfl, ?_⟩) (by assumption) ?_
              rotate_left
              · ((intro w hSw; (try dsimp only at hSw); go_simp) <;> with_reducible rfl)
              try simp only [Act.put, List.setIfInBounds_toArray, List.set_cons_zero, List.set_cons_succ]
              refine wpAnyH_take (i := 19) (oi := { dst := some 12, op := Op.assign (Operand.tmp 79), type := 4, pos := _, after := _, guard := none }) (v := ?_) rfl (by kernel_rfl) (by kernel_rfl) (by kernel_rfl) (fun _ _ _ h => h) (Or.inl ⟨by rfl, ?_⟩) (by assumption) ?_
              rotate_left
              · ((intro w hSw; (try dsimp only at hSw); go_simp) <;> with_reducible rfl)
              try simp only [Act.put, List.setIfInBounds_toArray, List.set_cons_zero, List.set_cons_succ]
              refine wpAnyH_done (by kernel_rfl) ?_ _
              have Bz : Below w6.heap.size w6 w8 := B3
              go_wp2_with fail
              refine (kc.out _ Bz).mono ?_
              rintro e w9 ⟨b, rfl, hb, d⟩
              have Be : Below w6.heap.size w6 w9 := Bz.trans (d.mono Bz.size)
              rcases hfinh.out b hb with rfl | ⟨hx, rfl⟩
              · go_wp2_with fail
                go_ret
                exact ⟨rfl, fin.out _ (bb.trans (Be.mono bb.size))⟩
              · first
                  | (go_wp2_with fail
                     go_ret
                     exact ⟨rfl, fin.out _ (bb.trans (Be.mono bb.size))⟩)
                  | (exact absurd (hx.symm.trans hzc) (by decide))
            exact AllReadyH.nil
          refine AllReadyH.cons (o := { dst := some 77, op := Op.convert 43 9 (Operand.tmp 76), type := 9, pos := _, after := _, guard := some (5, true) }) rfl (fun K hK => ?_) ?_
          · skip
            go_simp
            refine hK.out _ _ ?_ (fun hHeld => ?_)
            · assumption
            clear hK K
            try simp only [Act.put, List.setIfInBounds_toArray, List.set_cons_zero, List.set_cons_succ]
            refine wpAnyH_ready (rs := [14]) (by kernel_rfl) (by simp) ?_
            refine AllReadyH.cons (o := { dst := some 75, op := Op.call { callee := Callee.value (Operand.func 13), args := #[Operand.tmp 74], argTypes := #[9] }, type := 9, pos := _, after := _, guard := some (5, true) }) rfl (fun K hK => ?_) ?_
            · skip
              go_simp
              with_reducible refine (s1.out _ (((Below.refl _ w6).alloc (Nat.le_refl _) (.cells M 5)).drew)).mono ?_
              rintro e w8 ⟨rfl, hb3⟩
              have B3 : Below w6.heap.size w6 w8 := (((Below.refl _ w6).alloc (Nat.le_refl _) (.cells M 5)).drew).trans (hb3.mono (((Below.refl _ w6).alloc (Nat.le_refl _) (.cells M 5)).drew).size)
              go_wp2_with fail
              refine hK.out _ _ ?_ (fun hHeld => ?_)
              · exact fw.out _ B3
              clear hK K
              try simp only [Act.put, List.setIfInBounds_toArray, List.set_cons_zero, List.set_cons_succ]
              refine wpAnyH_take (i := 17) (oi := { dst := some 78, op := Op.binOp BinOp.eql 9 (Operand.tmp 75) (Operand.tmp 77) 9, type := 4, pos := _, after := _, guard := some (5, true) }) (v := ?_) rfl (by kernel_rfl) (by kernel_rfl) (by kernel_rfl) (fun _ _ _ h => h) (Or.inl ⟨by rfl, ?_⟩) (by assumption) ?_
              rotate_left
              · ((intro w hSw; (try dsimp only at hSw); go_simp) <;> with_reducible rfl)
              try simp only [Act.put, List.setIfInBounds_toArray, List.set_cons_zero, List.set_cons_succ]
              refine wpAnyH_take (i := 18) (oi := { dst := some 79, op := Op.pick (Operand.tmp 66) (Operand.tmp 78) (Operand.const (Value.bool false)), type := 4, pos := _, after := _, guard := none }) (v := ?_) rfl (by kernel_rfl) (by kernel_rfl) (by kernel_rfl) (fun _ _ _ h => h) (Or.inl ⟨by rfl, ?_⟩) (by assumption) ?_
              rotate_left
              · ((intro w hSw; (try dsimp only at hSw); go_simp) <;> with_reducible rfl)
              try simp only [Act.put, List.setIfInBounds_toArray, List.set_cons_zero, List.set_cons_succ]
              refine wpAnyH_take (i := 19) (oi := { dst := some 12, op := Op.assign (Operand.tmp 79), type := 4, pos := _, after := _, guard := none }) (v := ?_) rfl (by kernel_rfl) (by kernel_rfl) (by kernel_rfl) (fun _ _ _ h => h) (Or.inl ⟨by rfl, ?_⟩) (by assumption) ?_
              rotate_left
              · ((intro w hSw; (try dsimp only at hSw); go_simp) <;> with_reducible rfl)
              try simp only [Act.put, List.setIfInBounds_toArray, List.set_cons_zero, List.set_cons_succ]
              refine wpAnyH_done (by kernel_rfl) ?_ _
              have Bz : Below w6.heap.size w6 w8 := B3
              go_wp2_with fail
              refine (kc.out _ Bz).mono ?_
              rintro e w9 ⟨b, rfl, hb, d⟩
              have Be : Below w6.heap.size w6 w9 := Bz.trans (d.mono Bz.size)
              rcases hfinh.out b hb with rfl | ⟨hx, rfl⟩
              · go_wp2_with fail
                go_ret
                exact ⟨rfl, fin.out _ (bb.trans (Be.mono bb.size))⟩
              · first
                  | (go_wp2_with fail
                     go_ret
                     exact ⟨rfl, fin.out _ (bb.trans (Be.mono bb.size))⟩)
                  | (exact absurd (hx.symm.trans hzc) (by decide))
            exact AllReadyH.nil
          exact AllReadyH.nil
        exact AllReadyH.nil
    · have hC : Coll sha X1 Y1 := h3.elim id (fun h => absurd heq h.1)
      have hCh := Lib.hid hC
      obtain ⟨p4, q4, rfl⟩ := s4.shape
      obtain ⟨p5, q5, rfl⟩ := s5.shape
      clear h3 hC hT4 hAr hBr
      rw [← heq] at kc ⊢
      clear heq sA sB n1 n2 s4 s5
      generalize X1.length = N at *
      have u1 : decide ((N : Int) > (N : Int)) = false := by rw [decide_eq_false_iff_not]; omega
      have u2 : ((N : Int) != (N : Int)) = false := by simp
      go_wp2_with fail
      go_quiet (fail)
      go_wp2_with fail
      refine (kc.out _ (below_drewN (Below.refl _ _) _)).mono ?_
      rintro e w7 ⟨b, rfl, hb, d⟩
      have := hb hCh.out
      subst this
      go_wp2_with fail
      go_ret
      exact ⟨rfl, fin.out _ ((below_drewN bb _).trans (d.mono bb.size))⟩
    · obtain ⟨bL, oL, kL, rfl, f1, f2, f3⟩ := s4.own (fun e => by rw [e] at hgt; simp at hgt)
      obtain ⟨p5, q5, rfl⟩ := s5.shape
      have hz : ∃ z, X1[Y1.length]? = some z ∧ (Coll sha X1 Y1 ∨ sha z = zero32) := by
        refine ⟨X1[Y1.length], List.getElem?_eq_getElem hgt, ?_⟩
        rcases h3 with h | ⟨_, z, e1, e2⟩
        · exact .inl h
        · rw [if_neg (show ¬ Y1.length > X1.length by omega), Nat.min_eq_right (Nat.le_of_lt hgt)] at e1
          rw [List.getElem?_eq_getElem hgt] at e1
          simp at e1
          exact .inr (by rw [e1]; exact e2)
      obtain ⟨z, hz1, hz2⟩ := hz
      have hzl : z.length ≤ 100000 := hAr z (List.mem_of_getElem? hz1)
      have fw := Lib.hid (fun w' (B : Below w6.heap.size w6 w') => ((B.cell (p := ⟨bL, oL + Y1.length, none⟩) f2).trans (f3 _ _ hz1)))
      have s1 := Lib.hid (fun w' (B : Below w6.heap.size w6 w') => Sum_any z w' (by omega) ((hT4.out.below bb).below B))
      have hmin : ∀ ts ty w, (Builtin.min_ ts ty #[.int .i64 (X1.length : Int), .int .i64 (Y1.length : Int)]).run Tryd.prog w = .ok (.int .i64 (Y1.length : Int)) w := fun ts ty w => by
        have h := min_run X1.length Y1.length ts ty w _ rfl
        rw [Nat.min_eq_right (Nat.le_of_lt hgt)] at h
        exact h
      have hzc : (sha z == zero32) = true ∨ ((sha z == zero32) = false ∧ Hid (Coll sha X1 Y1)) := by
        by_cases e : sha z = zero32
        · exact .inl (by simpa using e)
        · exact .inr ⟨by simpa using e, hz2.elim id (fun h => absurd h e)⟩
      have bL6 : bL < w6.heap.size := f2
      clear hz1 hz2 h3 hT4 f3 hAr hBr
      generalize sha z = dz at *
      generalize zero32 = zr at *
      clear sA sB
      generalize X1.length = N at *
      generalize Y1.length = M' at *
      have hne : ((N : Int) != (M' : Int)) = true := by rw [bne_iff_ne]; omega
      have u1 : decide ((M' : Int) > (N : Int)) = false := by rw [decide_eq_false_iff_not]; omega
      have u1n : decide ((N : Int) < (M' : Int)) = false := by rw [decide_eq_false_iff_not]; omega
      have u1i : ¬ (N : Int) < (M' : Int) := by omega
      have u1j : (M' : Int) < (N : Int) := by omega
      have i0 : (0 : Int) ≤ (M' : Int) := by omega
      have i1 : (M' : Int) < (N : Int) := by omega
      have fw0 := fw.out _ (Below.refl _ _)
      have hfinb : ∀ b : Bool, (Coll sha X1 Y1 → b = true) → b = true ∨ ((dz == zr) = true ∧ b = false) := fun b h => by
        rcases hzc with e | ⟨_, e⟩
        · cases b
          · exact .inr ⟨e, rfl⟩
          · exact .inl rfl
        · exact .inl (h e.out)
      have hfinh := Lib.hid hfinb
      have hzc2 : (dz == zr) = true ∨ (dz == zr) = false := hzc.imp id (fun h => h.1)
      clear hfinb hzc
      rcases hzc2 with hzc | hzc
      all_goals
        go_wp2_with fail
        refine wp_region_held_drew (S := (fun w' : World => w'.cell? ⟨bL, oL + M', none⟩ = some (.string ⟨z.toArray⟩))) (by kernel_rfl) fw0 (fun hHeld => ?_)
        refine wpAnyH_take (i := 0) (oi := { dst := some 61, op := Op.move (Operand.tmp 6), type := 26, pos := _, after := _, guard := none }) (v := ?_) rfl (by kernel_rfl) (by kernel_rfl) (by kernel_rfl) (fun _ _ _ h => h) (Or.inl ⟨by rfl, ?_⟩) (by assumption) ?_
        rotate_left
        · ((intro w hSw; (try dsimp only at hSw); go_simp) <;> with_reducible rfl)
        try simp only [Act.put, List.setIfInBounds_toArray, List.set_cons_zero, List.set_cons_succ]
        refine wpAnyH_take (i := 1) (oi := { dst := some 62, op := Op.call { callee := Callee.builtin Builtin.len, args := #[Operand.tmp 61], argTypes := #[26] }, type := 3, pos := _, after := _, guard := none }) (v := ?_) rfl (by kernel_rfl) (by kernel_rfl) (by kernel_rfl) (fun _ _ _ h => h) (Or.inl ⟨by rfl, ?_⟩) (by assumption) ?_
        rotate_left
        · ((intro w hSw; (try dsimp only at hSw); go_simp) <;> with_reducible rfl)
        try simp only [Act.put, List.setIfInBounds_toArray, List.set_cons_zero, List.set_cons_succ]
        refine wpAnyH_take (i := 2) (oi := { dst := some 63, op := Op.move (Operand.tmp 8), type := 26, pos := _, after := _, guard := none }) (v := ?_) rfl (by kernel_rfl) (by kernel_rfl) (by kernel_rfl) (fun _ _ _ h => h) (Or.inl ⟨by rfl, ?_⟩) (by assumption) ?_
        rotate_left
        · ((intro w hSw; (try dsimp only at hSw); go_simp) <;> with_reducible rfl)
        try simp only [Act.put, List.setIfInBounds_toArray, List.set_cons_zero, List.set_cons_succ]
        refine wpAnyH_take (i := 3) (oi := { dst := some 64, op := Op.call { callee := Callee.builtin Builtin.len, args := #[Operand.tmp 63], argTypes := #[26] }, type := 3, pos := _, after := _, guard := none }) (v := ?_) rfl (by kernel_rfl) (by kernel_rfl) (by kernel_rfl) (fun _ _ _ h => h) (Or.inl ⟨by rfl, ?_⟩) (by assumption) ?_
        rotate_left
        · ((intro w hSw; (try dsimp only at hSw); go_simp) <;> with_reducible rfl)
        try simp only [Act.put, List.setIfInBounds_toArray, List.set_cons_zero, List.set_cons_succ]
        refine wpAnyH_take (i := 4) (oi := { dst := some 65, op := Op.binOp BinOp.neq 3 (Operand.tmp 62) (Operand.tmp 64) 3, type := 4, pos := _, after := _, guard := none }) (v := ?_) rfl (by kernel_rfl) (by kernel_rfl) (by kernel_rfl) (fun _ _ _ h => h) (Or.inl ⟨by rfl, ?_⟩) (by assumption) ?_
        rotate_left
        · ((intro w hSw; (try dsimp only at hSw); go_simp) <;> with_reducible rfl)
        try simp only [Act.put, List.setIfInBounds_toArray, List.set_cons_zero, List.set_cons_succ]
        refine wpAnyH_take (i := 5) (oi := { dst := some 66, op := Op.move (Operand.tmp 65), type := 4, pos := _, after := _, guard := none }) (v := ?_) rfl (by kernel_rfl) (by kernel_rfl) (by kernel_rfl) (fun _ _ _ h => h) (Or.inl ⟨by rfl, ?_⟩) (by assumption) ?_
        rotate_left
        · ((intro w hSw; (try dsimp only at hSw); go_simp) <;> with_reducible rfl)
        try simp only [Act.put, List.setIfInBounds_toArray, List.set_cons_zero, List.set_cons_succ]
        refine wpAnyH_take (i := 6) (oi := { dst := some 67, op := Op.move (Operand.tmp 11), type := 26, pos := _, after := _, guard := some (5, true) }) (v := ?_) rfl (by kernel_rfl) (by kernel_rfl) (by kernel_rfl) (fun _ _ _ h => h) (Or.inl ⟨by rfl, ?_⟩) (by assumption) ?_
        rotate_left
        · ((intro w hSw; (try dsimp only at hSw); go_simp) <;> with_reducible rfl)
        try simp only [Act.put, List.setIfInBounds_toArray, List.set_cons_zero, List.set_cons_succ]
        refine wpAnyH_take (i := 7) (oi := { dst := some 68, op := Op.move (Operand.tmp 6), type := 26, pos := _, after := _, guard := some (5, true) }) (v := ?_) rfl (by kernel_rfl) (by kernel_rfl) (by kernel_rfl) (fun _ _ _ h => h) (Or.inl ⟨by rfl, ?_⟩) (by assumption) ?_
        rotate_left
        · ((intro w hSw; (try dsimp only at hSw); go_simp) <;> with_reducible rfl)
        try simp only [Act.put, List.setIfInBounds_toArray, List.set_cons_zero, List.set_cons_succ]
        refine wpAnyH_take (i := 8) (oi := { dst := some 69, op := Op.call { callee := Callee.builtin Builtin.len, args := #[Operand.tmp 68], argTypes := #[26] }, type := 3, pos := _, after := _, guard := some (5, true) }) (v := ?_) rfl (by kernel_rfl) (by kernel_rfl) (by kernel_rfl) (fun _ _ _ h => h) (Or.inl ⟨by rfl, ?_⟩) (by assumption) ?_
        rotate_left
        · ((intro w hSw; (try dsimp only at hSw); go_simp) <;> with_reducible rfl)
        try simp only [Act.put, List.setIfInBounds_toArray, List.set_cons_zero, List.set_cons_succ]
        refine wpAnyH_take (i := 9) (oi := { dst := some 70, op := Op.move (Operand.tmp 8), type := 26, pos := _, after := _, guard := some (5, true) }) (v := ?_) rfl (by kernel_rfl) (by kernel_rfl) (by kernel_rfl) (fun _ _ _ h => h) (Or.inl ⟨by rfl, ?_⟩) (by assumption) ?_
        rotate_left
        · ((intro w hSw; (try dsimp only at hSw); go_simp) <;> with_reducible rfl)
        try simp only [Act.put, List.setIfInBounds_toArray, List.set_cons_zero, List.set_cons_succ]
        refine wpAnyH_take (i := 10) (oi := { dst := some 71, op := Op.call { callee := Callee.builtin Builtin.len, args := #[Operand.tmp 70], argTypes := #[26] }, type := 3, pos := _, after := _, guard := some (5, true) }) (v := ?_) rfl (by kernel_rfl) (by kernel_rfl) (by kernel_rfl) (fun _ _ _ h => h) (Or.inl ⟨by rfl, ?_⟩) (by assumption) ?_
        rotate_left
        · ((intro w hSw; (try dsimp only at hSw); go_simp) <;> with_reducible rfl)
        try simp only [Act.put, List.setIfInBounds_toArray, List.set_cons_zero, List.set_cons_succ]
        refine wpAnyH_take (i := 11) (oi := { dst := some 72, op := Op.call { callee := Callee.builtin Builtin.min, args := #[Operand.tmp 69, Operand.tmp 71], argTypes := #[3, 3] }, type := 3, pos := _, after := _, guard := some (5, true) }) (v := ?_) rfl (by kernel_rfl) (by kernel_rfl) (by kernel_rfl) (fun _ _ _ h => h) (Or.inl ⟨by rfl, ?_⟩) (by assumption) ?_
        rotate_left
        · ((intro w hSw; (try dsimp only at hSw); go_simp) <;> with_reducible rfl)
        try simp only [Act.put, List.setIfInBounds_toArray, List.set_cons_zero, List.set_cons_succ]
        refine wpAnyH_take (i := 12) (oi := { dst := some 73, op := Op.indexAddr 26 (Operand.tmp 67) (Operand.tmp 72), type := 0, pos := _, after := _, guard := some (5, true) }) (v := ?_) rfl (by kernel_rfl) (by kernel_rfl) (by kernel_rfl) (fun _ _ _ h => h) (Or.inl ⟨by rfl, ?_⟩) (by assumption) ?_
        rotate_left
        · ((intro w hSw; (try dsimp only at hSw); go_simp) <;> with_reducible rfl)
        try simp only [Act.put, List.setIfInBounds_toArray, List.set_cons_zero, List.set_cons_succ]
        refine wpAnyH_take (i := 13) (oi := { dst := some 74, op := Op.load 9 (Operand.tmp 73), type := 9, pos := _, after := _, guard := some (5, true) }) (v := ?_) rfl (by kernel_rfl) (by kernel_rfl) (by kernel_rfl) (fun _ _ _ h => h) (Or.inl ⟨by rfl, ?_⟩) (by assumption) ?_
        rotate_left
        · ((intro w hSw; (try dsimp only at hSw); go_simp) <;> with_reducible rfl)
        try simp only [Act.put, List.setIfInBounds_toArray, List.set_cons_zero, List.set_cons_succ]
        refine wpAnyH_ready (rs := [14, 15]) (by kernel_rfl) (by simp) ?_
        refine AllReadyH.cons (o := { dst := some 75, op := Op.call { callee := Callee.value (Operand.func 13), args := #[Operand.tmp 74], argTypes := #[9] }, type := 9, pos := _, after := _, guard := some (5, true) }) rfl (fun K hK => ?_) ?_
        · skip
          go_simp
          with_reducible refine (s1.out _ ((Below.refl _ w6).drew)).mono ?_
          rintro e w8 ⟨rfl, hb3⟩
          have B3 : Below w6.heap.size w6 w8 := ((Below.refl _ w6).drew).trans (hb3.mono (Nat.le_refl _))
          go_wp2_with fail
          refine hK.out _ _ ?_ (fun hHeld => ?_)
          · exact fw.out _ B3
          clear hK K
          try simp only [Act.put, List.setIfInBounds_toArray, List.set_cons_zero, List.set_cons_succ]
          refine wpAnyH_ready (rs := [15]) (by kernel_rfl) (by simp) ?_
          refine AllReadyH.cons (o := { dst := some 76, op := Op.makeSlice 43 (Operand.const (Value.int IntKind.i64 32)) (Operand.const (Value.int IntKind.i64 32)), type := 43, pos := _, after := _, guard := some (5, true) }) rfl (fun K hK => ?_) ?_
          · skip
            go_simp
            refine hK.out _ _ ?_ (fun hHeld => ?_)
            · exact fw.out _ (B3.alloc B3.size _)
            clear hK K
            try simp only [Act.put, List.setIfInBounds_toArray, List.set_cons_zero, List.set_cons_succ]
            refine wpAnyH_ready (rs := [16]) (by kernel_rfl) (by simp) ?_
            refine AllReadyH.cons (o := { dst := some 77, op := Op.convert 43 9 (Operand.tmp 76), type := 9, pos := _, after := _, guard := some (5, true) }) rfl (fun K hK => ?_) ?_
            · skip
              go_simp
              refine hK.out _ _ ?_ (fun hHeld => ?_)
              · assumption
              clear hK K
              try simp only [Act.put, List.setIfInBounds_toArray, List.set_cons_zero, List.set_cons_succ]
              refine wpAnyH_take (i := 17) (oi := { dst := some 78, op := Op.binOp BinOp.eql 9 (Operand.tmp 75) (Operand.tmp 77) 9, type := 4, pos := _, after := _, guard := some (5, true) }) (v := ?_) rfl (by kernel_rfl) (by kernel_rfl) (by kernel_rfl) (fun _ _ _ h => h) (Or.inl ⟨by rfl, ?_⟩) (by assumption) ?_
              rotate_left
              · ((intro w hSw; (try dsimp only at hSw); go_simp) <;> with_reducible rfl)
              try simp only [Act.put, List.setIfInBounds_toArray, List.set_cons_zero, List.set_cons_succ]
              refine wpAnyH_take (i := 18) (oi := { dst := some 79, op := Op.pick (Operand.tmp 66) (Operand.tmp 78) (Operand.const (Value.bool false)), type := 4, pos := _, after := _, guard := none }) (v := ?_) rfl (by kernel_rfl) (by kernel_rfl) (by kernel_rfl) (fun _ _ _ h => h) (Or.inl ⟨by rfl, ?_⟩) (by assumption) ?_
              rotate_left
              · ((intro w hSw; (try dsimp only at hSw); go_simp) <;> with_reducible rfl)
              try simp only [Act.put, List.setIfInBounds_toArray, List.set_cons_zero, List.set_cons_succ]
              refine wpAnyH_take (i := 19) (oi := { dst := some 12, op := Op.assign (Operand.tmp 79), type := 4, pos := _, after := _, guard := none }) (v := ?_) rfl (by kernel_rfl) (by kernel_rfl) (by kernel_rfl) (fun _ _ _ h => h) (Or.inl ⟨by rfl, ?_⟩) (by assumption) ?_
              rotate_left
              · ((intro w hSw; (try dsimp only at hSw); go_simp) <;> with_reducible rfl)
              try simp only [Act.put, List.setIfInBounds_toArray, List.set_cons_zero, List.set_cons_succ]
              refine wpAnyH_done (by kernel_rfl) ?_ _
              have Bz : Below w6.heap.size w6 (w8.alloc (.cells M 5)) := B3.alloc B3.size _
              go_wp2_with fail
              refine (kc.out _ Bz).mono ?_
              rintro e w9 ⟨b, rfl, hb, d⟩
              have Be : Below w6.heap.size w6 w9 := Bz.trans (d.mono Bz.size)
              rcases hfinh.out b hb with rfl | ⟨hx, rfl⟩
              · go_wp2_with fail
                go_ret
                exact ⟨rfl, fin.out _ (bb.trans (Be.mono bb.size))⟩
              · first
                  | (go_wp2_with fail
                     go_ret
                     exact ⟨rfl, fin.out _ (bb.trans (Be.mono bb.size))⟩)
                  | (exact absurd (hx.symm.trans hzc) (by decide))
            exact AllReadyH.nil
          exact AllReadyH.nil
        refine AllReadyH.cons (o := { dst := some 76, op := Op.makeSlice 43 (Operand.const (Value.int IntKind.i64 32)) (Operand.const (Value.int IntKind.i64 32)), type := 43, pos := _, after := _, guard := some (5, true) }) rfl (fun K hK => ?_) ?_
        · skip
          go_simp
          refine hK.out _ _ ?_ (fun hHeld => ?_)
          · exact fw.out _ (((Below.refl _ w6).alloc (Nat.le_refl _) (.cells M 5)).drew)
          clear hK K
          try simp only [Act.put, List.setIfInBounds_toArray, List.set_cons_zero, List.set_cons_succ]
          refine wpAnyH_ready (rs := [14, 16]) (by kernel_rfl) (by simp) ?_
          refine AllReadyH.cons (o := { dst := some 75, op := Op.call { callee := Callee.value (Operand.func 13), args := #[Operand.tmp 74], argTypes := #[9] }, type := 9, pos := _, after := _, guard := some (5, true) }) rfl (fun K hK => ?_) ?_
          · skip
            go_simp
            with_reducible refine (s1.out _ (((Below.refl _ w6).alloc (Nat.le_refl _) (.cells M 5)).drew)).mono ?_
            rintro e w8 ⟨rfl, hb3⟩
            have B3 : Below w6.heap.size w6 w8 := (((Below.refl _ w6).alloc (Nat.le_refl _) (.cells M 5)).drew).trans (hb3.mono (((Below.refl _ w6).alloc (Nat.le_refl _) (.cells M 5)).drew).size)
            have zm4 := zm3h.out w8 w6.heap.size (by rw [hb3.block _ (show w6.heap.size < (w6.alloc (.cells M 5)).heap.size by simp)]; exact heap_alloc_new _ _)
            go_wp2_with fail
            refine hK.out _ _ ?_ (fun hHeld => ?_)
            · exact fw.out _ B3
            clear hK K
            try simp only [Act.put, List.setIfInBounds_toArray, List.set_cons_zero, List.set_cons_succ]
            refine wpAnyH_ready (rs := [16]) (by kernel_rfl) (by simp) ?_
            refine AllReadyH.cons (o := { dst := some 77, op := Op.convert 43 9 (Operand.tmp 76), type := 9, pos := _, after := _, guard := some (5, true) }) rfl (fun K hK => ?_) ?_
            · skip
              go_simp
              refine hK.out _ _ ?_ (fun hHeld => ?_)
              · assumption
              clear hK K
              try simp only [Act.put, List.setIfInBounds_toArray, List.set_cons_zero, List.set_cons_succ]
              refine wpAnyH_take (i := 17) (oi := { dst := some 78, op := Op.binOp BinOp.eql 9 (Operand.tmp 75) (Operand.tmp 77) 9, type := 4, pos := _, after := _, guard := some (5, true) }) (v := ?_) rfl (by kernel_rfl) (by kernel_rfl) (by kernel_rfl) (fun _ _ _ h => h) (Or.inl ⟨by rfl, ?_⟩) (by assumption) ?_
              rotate_left
              · ((intro w hSw; (try dsimp only at hSw); go_simp) <;> with_reducible rfl)
              try simp only [Act.put, List.setIfInBounds_toArray, List.set_cons_zero, List.set_cons_succ]
              refine wpAnyH_take (i := 18) (oi := { dst := some 79, op := Op.pick (Operand.tmp 66) (Operand.tmp 78) (Operand.const (Value.bool false)), type := 4, pos := _, after := _, guard := none }) (v := ?_) rfl (by kernel_rfl) (by kernel_rfl) (by kernel_rfl) (fun _ _ _ h => h) (Or.inl ⟨by rfl, ?_⟩) (by assumption) ?_
              rotate_left
              · ((intro w hSw; (try dsimp only at hSw); go_simp) <;> with_reducible rfl)
              try simp only [Act.put, List.setIfInBounds_toArray, List.set_cons_zero, List.set_cons_succ]
              refine wpAnyH_take (i := 19) (oi := { dst := some 12, op := Op.assign (Operand.tmp 79), type := 4, pos := _, after := _, guard := none }) (v := ?_) rfl (by kernel_rfl) (by kernel_rfl) (by kernel_rfl) (fun _ _ _ h => h) (Or.inl ⟨by rfl, ?_⟩) (by assumption) ?_
              rotate_left
              · ((intro w hSw; (try dsimp only at hSw); go_simp) <;> with_reducible rfl)
              try simp only [Act.put, List.setIfInBounds_toArray, List.set_cons_zero, List.set_cons_succ]
              refine wpAnyH_done (by kernel_rfl) ?_ _
              have Bz : Below w6.heap.size w6 w8 := B3
              go_wp2_with fail
              refine (kc.out _ Bz).mono ?_
              rintro e w9 ⟨b, rfl, hb, d⟩
              have Be : Below w6.heap.size w6 w9 := Bz.trans (d.mono Bz.size)
              rcases hfinh.out b hb with rfl | ⟨hx, rfl⟩
              · go_wp2_with fail
                go_ret
                exact ⟨rfl, fin.out _ (bb.trans (Be.mono bb.size))⟩
              · first
                  | (go_wp2_with fail
                     go_ret
                     exact ⟨rfl, fin.out _ (bb.trans (Be.mono bb.size))⟩)
                  | (exact absurd (hx.symm.trans hzc) (by decide))
            exact AllReadyH.nil
          refine AllReadyH.cons (o := { dst := some 77, op := Op.convert 43 9 (Operand.tmp 76), type := 9, pos := _, after := _, guard := some (5, true) }) rfl (fun K hK => ?_) ?_
          · skip
            go_simp
            refine hK.out _ _ ?_ (fun hHeld => ?_)
            · assumption
            clear hK K
            try simp only [Act.put, List.setIfInBounds_toArray, List.set_cons_zero, List.set_cons_succ]
            refine wpAnyH_ready (rs := [14]) (by kernel_rfl) (by simp) ?_
            refine AllReadyH.cons (o := { dst := some 75, op := Op.call { callee := Callee.value (Operand.func 13), args := #[Operand.tmp 74], argTypes := #[9] }, type := 9, pos := _, after := _, guard := some (5, true) }) rfl (fun K hK => ?_) ?_
            · skip
              go_simp
              with_reducible refine (s1.out _ (((Below.refl _ w6).alloc (Nat.le_refl _) (.cells M 5)).drew)).mono ?_
              rintro e w8 ⟨rfl, hb3⟩
              have B3 : Below w6.heap.size w6 w8 := (((Below.refl _ w6).alloc (Nat.le_refl _) (.cells M 5)).drew).trans (hb3.mono (((Below.refl _ w6).alloc (Nat.le_refl _) (.cells M 5)).drew).size)
              go_wp2_with fail
              refine hK.out _ _ ?_ (fun hHeld => ?_)
              · exact fw.out _ B3
              clear hK K
              try simp only [Act.put, List.setIfInBounds_toArray, List.set_cons_zero, List.set_cons_succ]
              refine wpAnyH_take (i := 17) (oi := { dst := some 78, op := Op.binOp BinOp.eql 9 (Operand.tmp 75) (Operand.tmp 77) 9, type := 4, pos := _, after := _, guard := some (5, true) }) (v := ?_) rfl (by kernel_rfl) (by kernel_rfl) (by kernel_rfl) (fun _ _ _ h => h) (Or.inl ⟨by rfl, ?_⟩) (by assumption) ?_
              rotate_left
              · ((intro w hSw; (try dsimp only at hSw); go_simp) <;> with_reducible rfl)
              try simp only [Act.put, List.setIfInBounds_toArray, List.set_cons_zero, List.set_cons_succ]
              refine wpAnyH_take (i := 18) (oi := { dst := some 79, op := Op.pick (Operand.tmp 66) (Operand.tmp 78) (Operand.const (Value.bool false)), type := 4, pos := _, after := _, guard := none }) (v := ?_) rfl (by kernel_rfl) (by kernel_rfl) (by kernel_rfl) (fun _ _ _ h => h) (Or.inl ⟨by rfl, ?_⟩) (by assumption) ?_
              rotate_left
              · ((intro w hSw; (try dsimp only at hSw); go_simp) <;> with_reducible rfl)
              try simp only [Act.put, List.setIfInBounds_toArray, List.set_cons_zero, List.set_cons_succ]
              refine wpAnyH_take (i := 19) (oi := { dst := some 12, op := Op.assign (Operand.tmp 79), type := 4, pos := _, after := _, guard := none }) (v := ?_) rfl (by kernel_rfl) (by kernel_rfl) (by kernel_rfl) (fun _ _ _ h => h) (Or.inl ⟨by rfl, ?_⟩) (by assumption) ?_
              rotate_left
              · ((intro w hSw; (try dsimp only at hSw); go_simp) <;> with_reducible rfl)
              try simp only [Act.put, List.setIfInBounds_toArray, List.set_cons_zero, List.set_cons_succ]
              refine wpAnyH_done (by kernel_rfl) ?_ _
              have Bz : Below w6.heap.size w6 w8 := B3
              go_wp2_with fail
              refine (kc.out _ Bz).mono ?_
              rintro e w9 ⟨b, rfl, hb, d⟩
              have Be : Below w6.heap.size w6 w9 := Bz.trans (d.mono Bz.size)
              rcases hfinh.out b hb with rfl | ⟨hx, rfl⟩
              · go_wp2_with fail
                go_ret
                exact ⟨rfl, fin.out _ (bb.trans (Be.mono bb.size))⟩
              · first
                  | (go_wp2_with fail
                     go_ret
                     exact ⟨rfl, fin.out _ (bb.trans (Be.mono bb.size))⟩)
                  | (exact absurd (hx.symm.trans hzc) (by decide))
            exact AllReadyH.nil
          exact AllReadyH.nil
        exact AllReadyH.nil
end Go.Proofs.YthdfadlniacdcaaDoor
