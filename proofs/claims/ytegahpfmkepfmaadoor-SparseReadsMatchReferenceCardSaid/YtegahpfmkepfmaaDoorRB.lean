/- The reference's digest of a part, with the strings that are hashed. The reference's way out: two different strings with the same digest, or one whose digest is 32 zero bytes. -/
import Derived.Test.YtegahpfmkepfmaaDoorRf
import Derived.Test.YtegahpfmkepfmaaDoorBd
import Derived.Test.YtegahpfmkepfmaaDoorWs
import Derived.Test.YtegahpfmkepfmaaDoorRA
import Derived.Test.YtegahpfmkepfmaaDoorSumA
import Derived.BigQuiet
namespace Go.Proofs.YtegahpfmkepfmaaDoor
open Go.RowKit
theorem SumR (l : Str) (w : World) (hl : l.length ≤ 1000000) : Calls Tryd.prog 51 #[.string ⟨l.toArray⟩] w fun e w' => e = .returned (.string ⟨(sha l).toArray⟩) ∧ Below w.heap.size w w' := R2.SumR_any l w hl

set_option maxRecDepth 100000 in
set_option maxHeartbeats 1000000 in
theorem leafR_any (k : Nat) (s : Str) (w : World) (hk : k < 64) (hs : s.length ≤ 1000000) :
    Calls Tryd.prog 63 #[.int .i64 k, .string ⟨s.toArray⟩] w fun e w' => e = .returned (.string ⟨(leafT k s).toArray⟩) ∧ Below w.heap.size w w' := by
  have h1 := Lib.hid (Wr.RPutInt_any (k : Int) w (by omega) (by omega))
  have h1 : Hid (Calls Tryd.prog 85 #[.int .i64 k] w fun e w' => e = .returned (.tuple #[.string ⟨[UInt8.ofNat (2 * k)].toArray⟩, .int .i64 0]) ∧ Below w.heap.size w w') := by
    show Calls _ _ _ _ _
    rw [← putL_key k hk]; exact h1.out
  unfold leafT
  generalize UInt8.ofNat (2 * k) = c at *
  have hcat : Hid ((({ data := #[8] } : ByteArray) ++ { data := #[c] } ++ { data := List.toArray s }) = ⟨(8 :: c :: s).toArray⟩) := by
    show _ = _
    apply ByteArray.ext; simp
  go_enter Tryd.func63, Tryd.ntmps63
  go_wp2_with fail
  refine h1.out.mono ?_
  rintro e w1 ⟨rfl, b1⟩
  go_wp2_with fail
  rw [hcat.out]
  go_ret
  exact ⟨rfl, b1⟩

def mE (l : List Ent) : Nat → Str := fun k => lookE l k
theorem mE_map (l : List Ent) (h : Mp l) : vF (mapV l) = mE l := funext fun k => vF_map l k h
theorem hs_len (H : Str → Str) (c v : Nat → Str) : ∀ h i, (hsd H c v h i).length + 1 ≤ 2 ^ (h + 1) := by
  intro h
  induction h with
  | zero => intro i; unfold hsd; split <;> (try split) <;> simp
  | succ h ih =>
    intro i
    unfold hsd
    have a := ih (2 * i)
    have b := ih (2 * i + 1)
    have e : 2 ^ (h + 1 + 1) = 2 ^ (h + 1) + 2 ^ (h + 1) := by rw [Nat.pow_succ]; omega
    have p : 0 < 2 ^ (h + 1) := Nat.pow_pos (by omega)
    split
    · rw [List.length_append, List.length_append]
      split <;> simp <;> omega
    · simp; omega
def PartPost (W0 : World) (D : Str) (S : List Str) (e : Ending) (w' : World) : Prop := ∃ sv', e = .returned (.tuple #[.string ⟨D.toArray⟩, sv']) ∧ OS w' W0.heap.size sv' S ∧ Below W0.heap.size W0 w'
theorem PartPost.mk {W0 w' : World} {D D' : Str} {S S' : List Str} {v : Value} (hD : D = D') (hS : S = S') (ho : OS w' W0.heap.size v S) (hB : Below W0.heap.size W0 w') : PartPost W0 D' S' (.returned (.tuple #[.string ⟨D.toArray⟩, v])) w' := by
  subst hD hS; exact ⟨_, rfl, ho, hB⟩
theorem Ez_len (l : List Ent) (i : Nat) (hi : 1 ≤ i) : (E sha (fun _ => []) (mE l) i).length = 32 := E_len sha sha_len (mE l) i hi

set_option maxRecDepth 100000 in
set_option maxHeartbeats 4000000 in
theorem part_any (vl : Value) (l : List Ent) (W0 : World) (hl : SE W0 vl l) (hlen : l.length ≤ 100000000) (hb : ∀ k : Nat, (lookE l k).length ≤ 65536) :
    ∀ (h : Nat), h ≤ 6 → ∀ (i low : Nat) (sv : Value) (strs : List Str) (W : World), 1 ≤ i → low + 64 = i * 2 ^ h → (i + 1) * 2 ^ h ≤ 128 → Below W0.heap.size W0 W → OS W W0.heap.size sv strs → strs.length + 2 ^ (h + 1) ≤ 1000 →
      Calls Tryd.prog 40 #[vl, .int .i64 (low : Int), .int .i64 ((2 ^ h : Nat) : Int), sv] W (PartPost W0 (E sha (fun _ => []) (mE l) i) (strs ++ hsd sha (fun _ => []) (mE l) h i)) := by
  have hlh := Lib.hid (fun W B => SLG.below (W' := W) hl B)
  intro h
  induction h with
  | zero =>
    intro _ i low sv strs W hi hlow hhi B hs0 hn
    have hk : low < 64 := by omega
    obtain rfl : i = 64 + low := by omega
    have hat := Lib.hid (fun W (B : Below W0.heap.size W0 W) => At_any vl l (low : Int) W (hlh.out W B) rfl (by omega))
    have hbl := hb low
    have hE : E sha (fun _ => []) (mE l) (64 + low) = leafD sha low (lookE l low) := by
      rw [E_leaf sha _ _ _ (by omega), if_pos rfl, Nat.add_sub_cancel_left]; rfl
    have hH : hsd sha (fun _ => []) (mE l) 0 (64 + low) = if lookE l low = [] then [] else [leafT low (lookE l low)] := by
      unfold hsd; rw [if_pos rfl, Nat.add_sub_cancel_left]; rfl
    rw [hE, hH]
    have cZ := Lib.hid (fun W => Zero_any W)
    obtain ⟨sa, sc, rfl⟩ := (OwnG.SL eS_len hs0).shape
    generalize lookE l low = s at *
    by_cases hz : s = []
    · subst hz
      have hr : leafD sha low [] = zero32 := rfl
      rw [hr, if_pos rfl, List.append_nil]
      generalize zero32 = Z at *
      generalize strs.length = n at *
      have hsh := Lib.hid hs0
      clear hr hE hH hs0 hn hhi hlow
      go_enter Tryd.func40, Tryd.ntmps40
      go_wp2_with fail
      refine (hat.out _ B).mono ?_
      rintro e w1 ⟨rfl, rfl⟩
      go_wp2_with fail
      refine (cZ.out _).mono ?_
      rintro e w2 ⟨rfl, b2⟩
      have B2 := B.trans (b2.mono B.size)
      go_wp2_with fail
      go_ret2
      exact ⟨_, rfl, hsh.out.below b2, B2⟩
    · have hr : leafD sha low s = sha (leafT low s) := by rw [leafD, if_neg hz]
      have hz2 := not_empty hz
      rw [hr, if_neg hz]
      have cl := Lib.hid (fun W => leafR_any low s W hk (by omega))
      have cs := Lib.hid (fun W => SumR (leafT low s) W (by simp [leafT]; omega))
      generalize leafT low s = t at *
      generalize sha t = d at *
      have hsh := Lib.hid hs0
      obtain ⟨n, hnn⟩ : ∃ n, n = strs.length := ⟨_, rfl⟩
      have hsn : strs.length ≤ 1000 := by omega
      rw [← hnn] at hsh ⊢
      clear hr hE hH hs0 hn hhi hlow hnn hz
      go_enter Tryd.func40, Tryd.ntmps40
      go_wp2_with fail
      refine (hat.out _ B).mono ?_
      rintro e w1 ⟨rfl, rfl⟩
      go_wp2_with fail
      refine (cl.out _).mono ?_
      rintro e w2 ⟨rfl, b2⟩
      have B2 := B.trans (b2.mono B.size)
      go_wp2_with fail
      refine (cs.out _).mono ?_
      rintro e w3 ⟨rfl, b3⟩
      have B3 := B2.trans (b3.mono B2.size)
      obtain ⟨v', w', hrun, ho, hB⟩ := snocS w3 W0.heap.size _ strs t ((hsh.out.below b2).below b3) (by omega) B3.size
      have hend := Lib.hid (show OS w' W0.heap.size v' (strs ++ [t]) ∧ Below W0.heap.size W0 w' from ⟨ho, B3.trans hB⟩)
      clear ho hB b2 b3 B2 B3 B hsh
      go_wp2_with (at_builtin; refine wpList_append_runB rfl (.tmp 29) (.tmp 31) 35 rfl (.slice sa n sc) (.slice (some ⟨w3.heap.size, 0, none⟩) 1 1) rfl rfl _ _ hrun ?_)
      go_ret2
      exact ⟨_, rfl, hend.out⟩
  | succ h ih =>
    intro h6 i low sv strs W hi hlow hhi B hs0 hn
    have p2 := Nat.pow_pos (n := h) (show 0 < 2 by omega)
    have e1 : i * 2 ^ (h + 1) = 2 * i * 2 ^ h := by rw [Nat.pow_succ, Nat.mul_comm 2 i, Nat.mul_assoc, Nat.mul_comm 2]
    have e : (i + 1) * 2 ^ (h + 1) = (2 * i + 1 + 1) * 2 ^ h := by rw [Nat.pow_succ, show 2 * i + 1 + 1 = 2 * (i + 1) by omega, Nat.mul_comm 2 (i + 1), Nat.mul_assoc, Nat.mul_comm 2]
    have m1 : (2 * i + 1) * 2 ^ h = 2 * i * 2 ^ h + 2 ^ h := by rw [Nat.add_mul, Nat.one_mul]
    have m2 : (2 * i + 1 + 1) * 2 ^ h = (2 * i + 1) * 2 ^ h + 2 ^ h := by rw [Nat.add_mul _ 1, Nat.one_mul]
    have i64 : i < 64 := by
      have : (i + 1) * 2 ≤ (i + 1) * 2 ^ (h + 1) := Nat.mul_le_mul_left _ (by rw [Nat.pow_succ]; omega)
      omega
    have hl1 := hs_len sha (fun _ => []) (mE l) h (2 * i)
    have hl2 := hs_len sha (fun _ => []) (mE l) h (2 * i + 1)
    have ep : 2 ^ (h + 1 + 1) = 2 ^ (h + 1) + 2 ^ (h + 1) := by rw [Nat.pow_succ]; omega
    have eq2 : 2 ^ (h + 1) = 2 ^ h + 2 ^ h := by rw [Nat.pow_succ]; omega
    have hE : E sha (fun _ => []) (mE l) i = nodeD sha (E sha (fun _ => []) (mE l) (2 * i)) (E sha (fun _ => []) (mE l) (2 * i + 1)) := by
      rw [E_node sha _ _ i hi i64, if_pos rfl]
    have hH : hsd sha (fun _ => []) (mE l) (h + 1) i = hsd sha (fun _ => []) (mE l) h (2 * i) ++ hsd sha (fun _ => []) (mE l) h (2 * i + 1) ++ (if E sha (fun _ => []) (mE l) (2 * i) = zero32 ∧ E sha (fun _ => []) (mE l) (2 * i + 1) = zero32 then [] else [9 :: (E sha (fun _ => []) (mE l) (2 * i) ++ E sha (fun _ => []) (mE l) (2 * i + 1))]) := by
      rw [hsd, if_pos rfl]
    have la := Ez_len l (2 * i) (by omega)
    have lb := Ez_len l (2 * i + 1) (by omega)
    rw [hE, hH]
    have hA := Lib.hid (fun sv strs W B h1 h2 => ih (by omega) (2 * i) low sv strs W (by omega) (by omega) (by omega) B h1 h2)
    have hB := Lib.hid (fun sv strs W B h1 h2 => ih (by omega) (2 * i + 1) (low + 2 ^ h) sv strs W (by omega) (by omega) (by omega) B h1 h2)
    rw [Int.natCast_add] at hB
    have cZ := Lib.hid (fun W => Zero_any W)
    obtain ⟨sa, sc, rfl⟩ := (OwnG.SL eS_len hs0).shape
    have hdiv1 : ((2 ^ (h + 1) : Nat) : Int).tdiv 2 = ((2 ^ h : Nat) : Int) := by
      rw [eq2, Int.tdiv_eq_ediv_of_nonneg (by omega)]; omega
    have hdiv2 : ((2 ^ (h + 1) : Nat) : Int) / 2 = ((2 ^ h : Nat) : Int) := by rw [eq2]; omega
    have t1 : (((2 ^ (h + 1) : Nat) : Int) == 1) = false := by rw [beq_eq_false_iff_ne]; omega
    have w1 : 2 ^ (h + 1) ≤ 64 := by
      have : 1 * 2 ^ (h + 1) ≤ i * 2 ^ (h + 1) := Nat.mul_le_mul_right _ hi
      have : (i + 1) * 2 ^ (h + 1) = i * 2 ^ (h + 1) + 2 ^ (h + 1) := by rw [Nat.add_mul, Nat.one_mul]
      omega
    have w2 : low < 64 := by omega
    generalize E sha (fun _ => []) (mE l) (2 * i) = a at *
    generalize E sha (fun _ => []) (mE l) (2 * i + 1) = b at *
    generalize hsd sha (fun _ => []) (mE l) h (2 * i) = S1 at *
    generalize hsd sha (fun _ => []) (mE l) h (2 * i + 1) = S2 at *
    have hn1 : strs.length + 2 ^ (h + 1) ≤ 1000 := by omega
    have hn2 : (strs ++ S1).length + 2 ^ (h + 1) ≤ 1000 := by rw [List.length_append]; omega
    have hn3 : (strs ++ S1 ++ S2).length ≤ 1000 := by rw [List.length_append, List.length_append]; omega
    clear ih hE hH e1 e m1 m2 hl1 hl2 ep hlow hhi hn
    generalize 2 ^ (h + 1) = wd at *
    generalize 2 ^ h = q at *
    have cs := Lib.hid (fun W => SumR (9 :: (a ++ b)) W (by simp; omega))
    have hcat : Hid ((({ data := #[9] } : ByteArray) ++ { data := List.toArray a } ++ { data := List.toArray b }) = ⟨(9 :: (a ++ b)).toArray⟩) := by
      show _ = _
      apply ByteArray.ext; simp
    unfold nodeD
    have hsh := Lib.hid hs0
    have hn1 := Lib.hid hn1
    have hn2 := Lib.hid hn2
    have hn3 := Lib.hid hn3
    generalize zero32 = Z at *
    generalize sha (9 :: (a ++ b)) = d at *
    obtain ⟨RD, hRD⟩ : ∃ R, Hid (R = if a = Z ∧ b = Z then Z else d) := ⟨_, rfl⟩
    obtain ⟨RS, hRS⟩ : ∃ R, Hid (R = strs ++ (S1 ++ S2 ++ if a = Z ∧ b = Z then [] else [9 :: (a ++ b)])) := ⟨_, rfl⟩
    rw [← hRD.out, ← hRS.out]
    clear hs0 eq2 p2 hl hb
    rename_i x1 x2 x3; clear x1 x2 x3
    go_enter Tryd.func40, Tryd.ntmps40
    go_wp2_with fail
    refine (hA.out _ _ _ B hsh.out hn1.out).mono ?_
    rintro e w1 ⟨sv1, rfl, o1, B1⟩
    obtain ⟨a1, c1, hsh1⟩ := (OwnG.SL eS_len o1).shape
    generalize (strs ++ S1).length = n1 at hsh1
    subst hsh1
    have o1 := Lib.hid o1
    go_wp2_with fail
    refine (hB.out _ _ _ B1 o1.out hn2.out).mono ?_
    rintro e w2 ⟨sv2, rfl, o2, B2⟩
    obtain ⟨a2, c2, hsh2⟩ := (OwnG.SL eS_len o2).shape
    generalize (strs ++ S1 ++ S2).length = n2 at hsh2
    subst hsh2
    have o2 := Lib.hid o2
    go_wp2_with fail
    refine (cZ.out _).mono ?_
    rintro e w3 ⟨rfl, b3⟩
    have B3 := B2.trans (b3.mono B2.size)
    have o3 := Lib.hid (o2.out.below b3)
    by_cases haZ : a = Z
    · have t2 : (a == Z) = true := by rw [beq_iff_eq]; exact haZ
      by_cases hbZ : b = Z
      · have t3 : (b == Z) = true := by rw [beq_iff_eq]; exact hbZ
        have hD : Hid (Z = RD) := by show _ = _; rw [hRD.out, if_pos ⟨haZ, hbZ⟩]
        have hS : Hid (strs ++ S1 ++ S2 = RS) := by show _ = _; rw [hRS.out, if_pos ⟨haZ, hbZ⟩, List.append_nil, ← List.append_assoc]
        clear haZ hbZ hRD hRS
        go_wp2_with fail
        refine (cZ.out _).mono ?_
        rintro e w4 ⟨rfl, b4⟩
        have B4 := B3.trans (b4.mono B3.size)
        have o4 := Lib.hid (o3.out.below b4)
        go_wp2_with fail
        refine (cZ.out _).mono ?_
        rintro e w5 ⟨rfl, b5⟩
        have B5 := B4.trans (b5.mono B4.size)
        have o5 := Lib.hid (o4.out.below b5)
        go_wp2_with fail
        go_ret2
        exact PartPost.mk hD.out hS.out o5.out B5
      · have t3 : (b == Z) = false := by rw [beq_eq_false_iff_ne]; exact hbZ
        have hD : Hid (d = RD) := by show _ = _; rw [hRD.out, if_neg (fun h => hbZ h.2)]
        have hS : Hid (strs ++ S1 ++ S2 ++ [9 :: (a ++ b)] = RS) := by show _ = _; rw [hRS.out, if_neg (fun h => hbZ h.2), ← List.append_assoc, ← List.append_assoc]
        clear haZ hbZ hRD hRS
        go_wp2_with fail
        refine (cZ.out _).mono ?_
        rintro e w4 ⟨rfl, b4⟩
        have B4 := B3.trans (b4.mono B3.size)
        have o4 := Lib.hid (o3.out.below b4)
        go_wp2_with fail
        rw [hcat.out]
        refine (cs.out _).mono ?_
        rintro e w5 ⟨rfl, b5⟩
        have B5 := B4.trans (b5.mono B4.size)
        obtain ⟨v', w', hrun, ho, hBB⟩ := snocS w5 W0.heap.size _ _ (9 :: (a ++ b)) (o4.out.below b5) (by have := hn3.out; omega) B5.size
        have hend := Lib.hid (show OS w' W0.heap.size v' (strs ++ S1 ++ S2 ++ [9 :: (a ++ b)]) ∧ Below W0.heap.size W0 w' from ⟨ho, B5.trans hBB⟩)
        clear ho hBB
        go_wp2_with (at_builtin; refine wpList_append_runB rfl (.tmp 70) (.tmp 72) 35 rfl (.slice a2 n2 c2) (.slice (some ⟨w5.heap.size, 0, none⟩) 1 1) rfl rfl _ _ hrun ?_)
        go_ret2
        exact PartPost.mk hD.out hS.out hend.out.1 hend.out.2
    · have t2 : (a == Z) = false := by rw [beq_eq_false_iff_ne]; exact haZ
      have hD : Hid (d = RD) := by show _ = _; rw [hRD.out, if_neg (fun h => haZ h.1)]
      have hS : Hid (strs ++ S1 ++ S2 ++ [9 :: (a ++ b)] = RS) := by show _ = _; rw [hRS.out, if_neg (fun h => haZ h.1), ← List.append_assoc, ← List.append_assoc]
      clear haZ hRD hRS
      go_wp2_with fail
      rw [hcat.out]
      refine (cs.out _).mono ?_
      rintro e w5 ⟨rfl, b5⟩
      have B5 := B3.trans (b5.mono B3.size)
      obtain ⟨v', w', hrun, ho, hBB⟩ := snocS w5 W0.heap.size _ _ (9 :: (a ++ b)) (o3.out.below b5) (by have := hn3.out; omega) B5.size
      have hend := Lib.hid (show OS w' W0.heap.size v' (strs ++ S1 ++ S2 ++ [9 :: (a ++ b)]) ∧ Below W0.heap.size W0 w' from ⟨ho, B5.trans hBB⟩)
      clear ho hBB
      go_wp2_with (at_builtin; refine wpList_append_runB rfl (.tmp 70) (.tmp 72) 35 rfl (.slice a2 n2 c2) (.slice (some ⟨w5.heap.size, 0, none⟩) 1 1) rfl rfl _ _ hrun ?_)
      go_ret2
      exact PartPost.mk hD.out hS.out hend.out.1 hend.out.2
end Go.Proofs.YtegahpfmkepfmaaDoor
namespace Go.Proofs.YtegahpfmkepfmaaDoor
open Go.RowKit
set_option maxRecDepth 100000 in
theorem Hashed_any (vl : Value) (l : List Ent) (w : World) (hl : SE w vl l) (hlen : l.length ≤ 100000000) (hb : ∀ k : Nat, (lookE l k).length ≤ 65536) :
    Calls Tryd.prog 31 #[vl] w fun e w' => ∃ v, e = .returned v ∧ OS w' w.heap.size v (hsd sha (fun _ => []) (mE l) 6 1) ∧ Below w.heap.size w w' := by
  have h : Calls Tryd.prog 40 #[vl, .int .i64 0, .int .i64 64, .slice none 0 0] w (PartPost w (E sha (fun _ => []) (mE l) 1) ([] ++ hsd sha (fun _ => []) (mE l) 6 1)) :=
    part_any vl l w hl hlen hb 6 (by omega) 1 0 (.slice none 0 0) [] w (by omega) (by omega) (by omega) (Below.refl _ _) (OwnG.nil _ _) (by simp)
  rw [List.nil_append] at h
  have h := Lib.hid h
  clear hl
  generalize hsd sha (fun _ => []) (mE l) 6 1 = S at *
  generalize E sha (fun _ => []) (mE l) 1 = D at *
  go_enter Tryd.func31, Tryd.ntmps31
  go_wp2_with fail
  refine h.out.mono ?_
  rintro e w1 ⟨sv, rfl, o1, B1⟩
  obtain ⟨a1, c1, hsh1⟩ := (OwnG.SL eS_len o1).shape
  generalize S.length = n1 at hsh1
  subst hsh1
  have o1 := Lib.hid o1
  go_wp2_with fail
  go_ret
  exact ⟨_, rfl, o1.out, B1⟩
def nz (x : Str) : Bool := sha x == zero32

set_option maxRecDepth 100000 in
set_option maxHeartbeats 2000000 in
theorem Nought_any (v : Value) (l : List Str) (w : World) (hv : SS w v l) (hn : l.length ≤ 100000) (hu : ∀ u ∈ l, List.length u ≤ 1000000) :
    Calls Tryd.prog 58 #[v] w fun e w' => e = .returned (.bool (l.any nz)) ∧ Below w.heap.size w w' := by
  have hc := Lib.hid (show ∀ (k : Nat) (hk : k < l.length), _ from fun k hk => SS.at hv k hk)
  obtain ⟨a, N, c, rfl, hN⟩ := hv.shape'
  rw [← hN.out] at hn
  have huh := Lib.hid hu
  have cZ := Lib.hid (fun W => Zero_any W)
  obtain ⟨R, hR⟩ : ∃ R, Hid (R = l.any nz) := ⟨_, rfl⟩
  rw [← hR.out]
  clear hv hu
  go_enter Tryd.func58, Tryd.ntmps58
  go_wp2_with fail
  go_loopw [3] (fun iv wr => ∃ k : Nat, k ≤ N ∧ iv = .int .i64 k ∧ Hid ((l.take k).any nz = false) ∧ Below w.heap.size w wr) (fun iv _ => N - (intOf iv).toNat)
  case atStart => exact ⟨0, by omega, rfl, rfl, Below.refl _ _⟩
  case round =>
    obtain ⟨k, hk, rfl, hno, B⟩ := hrel
    by_cases hlt : k < N
    · have hkl : k < l.length := by rw [← hN.out]; exact hlt
      obtain ⟨b, o, c', he, hcell⟩ := hc.out k hkl
      injection he with he1 he2 he3
      subst he1
      have hcc := hcell wr B
      have hul := huh.out l[k] (List.getElem_mem hkl)
      have hsn := any_snoc nz l k hkl hno.out
      have hat := any_of_take nz l (k + 1)
      rw [hsn, ← hR.out] at hat
      have hsn := Lib.hid hsn
      have hat := Lib.hid hat
      clear hcell he2 he3
      have hnz : Hid (nz l[k] = (sha l[k] == zero32)) := rfl
      generalize l[k] = x at *
      have cs := Lib.hid (fun W => SumR x W hul)
      generalize sha x = d at *
      generalize zero32 = Z at *
      have i0 : (0 : Int) ≤ (k : Int) := by omega
      have i1 : (k : Int) < (N : Int) := by omega
      by_cases hd : d = Z
      · have t1 : (d == Z) = true := by rw [beq_iff_eq]; exact hd
        have hr : Hid (R = true) := hat.out (by rw [hnz.out]; exact t1)
        clear hd hat hsn hnz hno
        go_wp2_with fail
        refine (cs.out _).mono ?_
        rintro e w1 ⟨rfl, b1⟩
        have B1 := B.trans (b1.mono B.size)
        go_wp2_with fail
        refine (cZ.out _).mono ?_
        rintro e w2 ⟨rfl, b2⟩
        have B2 := B1.trans (b2.mono B1.size)
        go_wp2_with fail
        go_ret
        exact ⟨ret_bool hr.out.symm, B2⟩
      · have t1 : (d == Z) = false := by rw [beq_eq_false_iff_ne]; exact hd
        have hno2 : Hid ((l.take (k + 1)).any nz = false) := by show _ = _; rw [hsn.out, hnz.out]; exact t1
        clear hd hat hsn hnz hno
        go_wp2_with fail
        refine (cs.out _).mono ?_
        rintro e w1 ⟨rfl, b1⟩
        have B1 := B.trans (b1.mono B.size)
        go_wp2_with fail
        refine (cZ.out _).mono ?_
        rintro e w2 ⟨rfl, b2⟩
        have B2 := B1.trans (b2.mono B1.size)
        go_wp2_with fail
        go_roundw
        case rel => exact ⟨k + 1, by omega, by go_num, hno2, B2⟩
        case measure => simp [intOf]; omega
    · have hr : Hid (R = false) := by
        show _ = _
        rw [hR.out, ← hno.out, List.take_of_length_le (by rw [← hN.out]; omega)]
      have i1 : ¬ (k : Int) < (N : Int) := by omega
      clear hno
      go_wp2_with fail
      go_ret
      exact ⟨ret_bool hr.out.symm, B⟩
def colQ (x y : Str) : Bool := x != y && sha x == sha y
def colB (A B : List Str) : Bool := A.any fun x => B.any (colQ x)

set_option maxRecDepth 100000 in
set_option maxHeartbeats 8000000 in
theorem Collided_any (va vb : Value) (A B : List Str) (w : World) (ha : SS w va A) (hb : SS w vb B) (hA : A.length ≤ 100000) (hB : B.length ≤ 100000) (hAu : ∀ u ∈ A, List.length u ≤ 1000000) (hBu : ∀ u ∈ B, List.length u ≤ 1000000) :
    Calls Tryd.prog 57 #[va, vb] w fun e w' => e = .returned (.bool (colB A B)) ∧ Below w.heap.size w w' := by
  have cA := Lib.hid (show ∀ (k : Nat) (hk : k < A.length), _ from fun k hk => SS.at ha k hk)
  have cB := Lib.hid (show ∀ (k : Nat) (hk : k < B.length), _ from fun k hk => SS.at hb k hk)
  obtain ⟨a, N, c, rfl, hN⟩ := ha.shape'
  obtain ⟨a2, M, c2, rfl, hM⟩ := hb.shape'
  rw [← hN.out] at hA
  rw [← hM.out] at hB
  have hAuh := Lib.hid hAu
  have hBuh := Lib.hid hBu
  obtain ⟨R, hR⟩ : ∃ R, Hid (R = colB A B) := ⟨_, rfl⟩
  rw [← hR.out]
  clear ha hb hAu hBu
  go_enter Tryd.func57, Tryd.ntmps57
  go_wp2_with fail
  go_loopw [5, 6] (fun sv iv wr => ∃ k : Nat, k ≤ M ∧ iv = .int .i64 k ∧ (∃ x1 x2 x3, sv = .slice x1 x2 x3) ∧ OS wr w.heap.size sv ((B.take k).map sha) ∧ Below w.heap.size w wr) (fun _ iv _ => M - (intOf iv).toNat)
  case atStart => exact ⟨0, by omega, rfl, ⟨_, _, _, rfl⟩, OwnG.nil _ _, Below.refl _ _⟩
  case round =>
    obtain ⟨k, hk, rfl, ⟨x1, x2, x3, rfl⟩, os, Bw⟩ := hrel
    by_cases hlt : k < M
    · have hkl : k < B.length := by rw [← hM.out]; exact hlt
      obtain ⟨b, o, c', he, hcell⟩ := cB.out k hkl
      injection he with he1 he2 he3
      subst he1
      have hcc := hcell wr Bw
      have hul := hBuh.out B[k] (List.getElem_mem hkl)
      have hsn : Hid ((B.take (k + 1)).map sha = (B.take k).map sha ++ [sha B[k]]) := by
        show _ = _
        rw [List.take_succ_eq_append_getElem hkl, List.map_append]; rfl
      have hl1 : ((B.take k).map sha).length ≤ k := by rw [List.length_map]; exact List.length_take_le _ _
      clear hcell he2 he3
      generalize B[k] = x at *
      have cs := Lib.hid (fun W => SumR x W hul)
      generalize sha x = d at *
      have i0 : (0 : Int) ≤ (k : Int) := by omega
      have i1 : (k : Int) < (M : Int) := by omega
      have osh := Lib.hid os
      clear os
      go_wp2_with fail
      refine (cs.out _).mono ?_
      rintro e w1 ⟨rfl, b1⟩
      have B1 := Bw.trans (b1.mono Bw.size)
      obtain ⟨v', w', hrun, ho, hBB⟩ := snocS w1 w.heap.size _ _ d (osh.out.below b1) (by omega) B1.size
      obtain ⟨ya, yc, hysh⟩ := (OwnG.SL eS_len ho).shape
      have hend := Lib.hid (show OS w' w.heap.size v' ((B.take (k + 1)).map sha) ∧ Below w.heap.size w w' from ⟨by rw [hsn.out]; exact ho, B1.trans hBB⟩)
      generalize ((B.take k).map sha ++ [d]).length = yn at hysh
      subst hysh
      clear ho hBB hsn b1 B1 hul
      go_wp2_with (at_builtin; refine wpList_append_runB rfl (.tmp 16) (.tmp 22) 35 rfl (.slice x1 x2 x3) (.slice (some ⟨w1.heap.size, 0, none⟩) 1 1) rfl rfl _ _ hrun ?_)
      go_roundw
      case rel => exact ⟨k + 1, by omega, by go_num, ⟨_, _, _, rfl⟩, hend.out⟩
      case measure => simp [intOf]; omega
    · have i1 : ¬ (k : Int) < (M : Int) := by omega
      rw [List.take_of_length_le (show B.length ≤ k by rw [← hM.out]; omega)] at os
      have hS := OwnG.SL eS_len os
      have cS := Lib.hid (show ∀ (k : Nat) (hk : k < B.length), ∃ b o c, (Value.slice x1 x2 x3) = .slice (some ⟨b, o, none⟩) B.length c ∧ ∀ W', Below wr.heap.size wr W' → W'.cell? ⟨b, o + k, none⟩ = some (.string ⟨(sha B[k]).toArray⟩) from fun k hk => by
        obtain ⟨b, o, c, e1, e2⟩ := SS.at hS k (by rw [List.length_map]; exact hk)
        rw [List.length_map] at e1
        exact ⟨b, o, c, e1, fun W' B' => by have := e2 W' B'; rwa [List.getElem_map] at this⟩)
      obtain ⟨q1, q2, hsh⟩ := hS.shape
      have hx2 : x2 = M := by injection hsh with _ h2 _; rw [h2, List.length_map, hM.out]
      subst hx2
      obtain ⟨wz, hwz⟩ : ∃ wz : World, wz = wr := ⟨_, rfl⟩
      subst hwz
      clear os hS hsh hk
      go_wp2_with fail
      clear i1
      go_loopw [7] (fun iv wr => ∃ i : Nat, i ≤ N ∧ iv = .int .i64 i ∧ Hid ((A.take i).any (fun x => B.any (colQ x)) = false) ∧ Below wz.heap.size wz wr) (fun iv _ => N - (intOf iv).toNat)
      case atStart => exact ⟨0, by omega, rfl, rfl, Below.refl _ _⟩
      case round =>
        obtain ⟨i, hi, rfl, hno, B2⟩ := hrel
        by_cases hlt2 : i < N
        · have hil : i < A.length := by rw [← hN.out]; exact hlt2
          obtain ⟨b, o, c', he, hcell⟩ := cA.out i hil
          injection he with he1 he2 he3
          subst he1
          have hcA := Lib.hid (fun W' (B' : Below wz.heap.size wz W') => hcell W' (Bw.trans (B'.mono Bw.size)))
          have hcc := hcA.out wr B2
          have hul := hAuh.out A[i] (List.getElem_mem hil)
          have hsn := Lib.hid (any_snoc (fun x => B.any (colQ x)) A i hil hno.out)
          have hat := Lib.hid (any_of_take (fun x => B.any (colQ x)) A (i + 1))
          rw [hsn.out, show A.any (fun x => B.any (colQ x)) = R from hR.out.symm] at hat
          clear hcell he2 he3
          generalize A[i] = x at *
          have cs := Lib.hid (fun W => SumR x W hul)
          obtain ⟨d, hd⟩ : ∃ d, Hid (sha x = d) := ⟨_, rfl⟩
          rw [hd.out] at cs
          have i0 : (0 : Int) ≤ (i : Int) := by omega
          have i1 : (i : Int) < (N : Int) := by omega
          go_wp2_with fail
          refine (cs.out _).mono ?_
          rintro e w1 ⟨rfl, b1⟩
          have B3 := B2.trans (b1.mono B2.size)
          go_wp2_with fail
          clear hcc
          go_loopw [9] (fun kv wr => ∃ k : Nat, k ≤ x2 ∧ kv = .int .i64 k ∧ Hid ((B.take k).any (colQ x) = false) ∧ Below wz.heap.size wz wr) (fun kv _ => x2 - (intOf kv).toNat)
          case atStart => exact ⟨0, by omega, rfl, rfl, B3⟩
          case round =>
            clear B2 B3 b1
            obtain ⟨k, hk, rfl, hno2, B4⟩ := hrel
            by_cases hlt3 : k < x2
            · have hkl : k < B.length := by rw [← hM.out]; exact hlt3
              have hcc := hcA.out wr B4
              obtain ⟨bb, ob, cb, he, hcell⟩ := cB.out k hkl
              injection he with he1 he2 he3
              subst he1
              have hcb := hcell wr (Bw.trans (B4.mono Bw.size))
              clear hcell he2 he3
              obtain ⟨bs, os, cs2, he, hcell⟩ := cS.out k hkl
              injection he with he1 he2 he3
              subst he1
              have hcs := hcell wr B4
              clear hcell he2 he3
              have hsn2 := Lib.hid (any_snoc (colQ x) B k hkl hno2.out)
              have hat2 := Lib.hid (any_of_take (colQ x) B (k + 1))
              rw [hsn2.out] at hat2
              have hq2 : Hid (colQ x B[k] = (x != B[k] && d == sha B[k])) := by show _ = _; rw [colQ, hd.out]
              generalize B[k] = y at *
              generalize sha y = dy at *
              have k0 : (0 : Int) ≤ (k : Int) := by omega
              have k1 : (k : Int) < (x2 : Int) := by omega
              by_cases hxy : x = y
              · have t1 : (x != y) = false := by rw [bne_eq_false_iff_eq]; exact hxy
                have t2 : (x == y) = true := by rw [beq_iff_eq]; exact hxy
                have hno3 : Hid ((B.take (k + 1)).any (colQ x) = false) := by show _ = _; rw [hsn2.out, hq2.out, t1]; rfl
                clear hxy hsn2 hat2 hq2 hno2
                go_wp2_with fail
                go_quiet (fail)
                go_wp2_with fail
                go_roundw
                case rel => exact ⟨k + 1, by omega, by go_num, hno3, below_drewN B4 _⟩
                case measure => simp [intOf]; omega
              · have t1 : (x != y) = true := by rw [bne_iff_ne]; exact hxy
                have t2 : (x == y) = false := by rw [beq_eq_false_iff_ne]; exact hxy
                by_cases hdd : d = dy
                · have t3 : (d == dy) = true := by rw [beq_iff_eq]; exact hdd
                  have hr : Hid (R = true) := hat.out (hat2.out (by rw [hq2.out, t1, t3]; rfl))
                  have hend := Lib.hid (Bw.trans ((below_drewN B4 1).mono Bw.size))
                  clear hxy hdd hsn2 hat2 hq2 hno2
                  go_wp2_with fail
                  go_quiet (fail)
                  go_wp2_with fail
                  go_ret
                  exact ⟨ret_bool hr.out.symm, Bw.trans ((below_drewN B4 _).mono Bw.size)⟩
                · have t3 : (d == dy) = false := by rw [beq_eq_false_iff_ne]; exact hdd
                  have hno3 : Hid ((B.take (k + 1)).any (colQ x) = false) := by show _ = _; rw [hsn2.out, hq2.out, t1, t3]; rfl
                  clear hxy hdd hsn2 hat2 hq2 hno2
                  go_wp2_with fail
                  go_quiet (fail)
                  go_wp2_with fail
                  go_roundw
                  case rel => exact ⟨k + 1, by omega, by go_num, hno3, below_drewN B4 _⟩
                  case measure => simp [intOf]; omega
            · have k1 : ¬ (k : Int) < (x2 : Int) := by omega
              have hno3 : Hid ((A.take (i + 1)).any (fun x => B.any (colQ x)) = false) := by
                show _ = _
                rw [hsn.out, ← hno2.out, List.take_of_length_le (by rw [← hM.out]; omega)]
              clear hno2 hat hsn
              go_wp2_with fail
              go_roundw
              case rel => exact ⟨i + 1, by omega, by go_num, hno3, B4⟩
              case measure => simp [intOf]; omega
        · have hr : Hid (R = false) := by
            show _ = _
            rw [hR.out, ← hno.out, List.take_of_length_le (by rw [← hN.out]; omega)]; rfl
          have i1 : ¬ (i : Int) < (N : Int) := by omega
          clear hno
          go_wp2_with fail
          go_ret
          exact ⟨ret_bool hr.out.symm, Bw.trans (B2.mono Bw.size)⟩
def outQ (A B : List Str) : Bool := colB A B || A.any nz || B.any nz

set_option maxRecDepth 100000 in
set_option maxHeartbeats 2000000 in
theorem Out_any (va vb : Value) (A B : List Str) (w : World) (ha : SS w va A) (hb : SS w vb B) (hA : A.length ≤ 100000) (hB : B.length ≤ 100000) (hAu : ∀ u ∈ A, List.length u ≤ 1000000) (hBu : ∀ u ∈ B, List.length u ≤ 1000000) :
    Calls Tryd.prog 30 #[va, vb] w fun e w' => e = .returned (.bool (outQ A B)) ∧ Below w.heap.size w w' := by
  have h1 := Lib.hid (Collided_any va vb A B w ha hb hA hB hAu hBu)
  have h2 := Lib.hid (fun W (B' : Below w.heap.size w W) => Nought_any va A W (ha.below B') hA hAu)
  have h3 := Lib.hid (fun W (B' : Below w.heap.size w W) => Nought_any vb B W (hb.below B') hB hBu)
  obtain ⟨a, N, c, rfl, hN⟩ := ha.shape'
  obtain ⟨a2, M, c2, rfl, hM⟩ := hb.shape'
  unfold outQ
  clear ha hb hAu hBu hN hM
  generalize colB A B = p at *
  generalize A.any nz = q at *
  generalize B.any nz = r at *
  clear hA hB
  cases p with
  | true =>
    simp only [Bool.true_or]
    go_enter Tryd.func30, Tryd.ntmps30
    go_wp2_with fail
    refine h1.out.mono ?_
    rintro e w1 ⟨rfl, b1⟩
    go_wp2_with fail
    go_ret
    exact ⟨rfl, b1⟩
  | false =>
    simp only [Bool.false_or]
    cases q with
    | true =>
      simp only [Bool.true_or]
      go_enter Tryd.func30, Tryd.ntmps30
      go_wp2_with fail
      refine h1.out.mono ?_
      rintro e w1 ⟨rfl, b1⟩
      go_wp2_with fail
      refine (h2.out _ b1).mono ?_
      rintro e w2 ⟨rfl, b2⟩
      have B2 := b1.trans (b2.mono b1.size)
      go_wp2_with fail
      go_ret
      exact ⟨rfl, B2⟩
    | false =>
      simp only [Bool.false_or]
      go_enter Tryd.func30, Tryd.ntmps30
      go_wp2_with fail
      refine h1.out.mono ?_
      rintro e w1 ⟨rfl, b1⟩
      go_wp2_with fail
      refine (h2.out _ b1).mono ?_
      rintro e w2 ⟨rfl, b2⟩
      have B2 := b1.trans (b2.mono b1.size)
      go_wp2_with fail
      refine (h3.out _ B2).mono ?_
      rintro e w3 ⟨rfl, b3⟩
      have B3 := B2.trans (b3.mono B2.size)
      go_wp2_with fail
      go_ret
      exact ⟨rfl, B3⟩
end Go.Proofs.YtegahpfmkepfmaaDoor
