/- The reference's way out: two different strings with the same digest, or one whose digest is 32 zero bytes. -/
import Derived.Test.YtegahpfmkepfmaaDoorRp
import Derived.BigQuiet
namespace Go.Proofs.YtegahpfmkepfmaaDoor
open Go.RowKit
set_option maxRecDepth 100000 in
theorem Hashed_any (vl : Value) (l : List Ent) (w : World) (hl : SE w vl l) (hlen : l.length ≤ 100000000) (hb : ∀ k : Nat, (lookE l k).length ≤ 65536) :
    Calls Tryd.prog 31 #[vl] w fun e w' => ∃ v, e = .returned v ∧ OS w' w.heap.size v (hsd sha (fun _ => []) (mE l) 6 1) ∧ Below w.heap.size w w' := by
  have h : Calls Tryd.prog 40 #[vl, .int .i64 0, .int .i64 64, .slice none 0 0] w (PartPost w (E sha (fun _ => []) (mE l) 1) ([] ++ hsd sha (fun _ => []) (mE l) 6 1)) :=
    part_any vl l w hl hlen hb 6 (by omega) 1 0 (.slice none 0 0) [] w (by omega) (by omega) (by omega) (Below.refl _ _) (OwnG.nil _ _) (by simp)
  rw [List.nil_append] at h
  have h := Lib.hid h
  clear hl
  generalize hsd sha (fun _ => []) (mE l) 6 1 = S at *
  generalize E sha (fun _ => []) (mE l) 1 = D at *
  go_enter Tryd.func31, Tryd.ntmps31
  go_wp2_with fail
  refine h.out.mono ?_
  rintro e w1 ⟨sv, rfl, o1, B1⟩
  obtain ⟨a1, c1, hsh1⟩ := (OwnG.SL eS_len o1).shape
  generalize S.length = n1 at hsh1
  subst hsh1
  have o1 := Lib.hid o1
  go_wp2_with fail
  go_ret
  exact ⟨_, rfl, o1.out, B1⟩
def nz (x : Str) : Bool := sha x == zero32

set_option maxRecDepth 100000 in
set_option maxHeartbeats 2000000 in
theorem Nought_any (v : Value) (l : List Str) (w : World) (hv : SS w v l) (hn : l.length ≤ 100000) (hu : ∀ u ∈ l, List.length u ≤ 1000000) :
    Calls Tryd.prog 58 #[v] w fun e w' => e = .returned (.bool (l.any nz)) ∧ Below w.heap.size w w' := by
  have hc := Lib.hid (show ∀ (k : Nat) (hk : k < l.length), _ from fun k hk => SS.at hv k hk)
  obtain ⟨a, N, c, rfl, hN⟩ := hv.shape'
  rw [← hN.out] at hn
  have huh := Lib.hid hu
  have cZ := Lib.hid (fun W => Zero_any W)
  obtain ⟨R, hR⟩ : ∃ R, Hid (R = l.any nz) := ⟨_, rfl⟩
  rw [← hR.out]
  clear hv hu
  go_enter Tryd.func58, Tryd.ntmps58
  go_wp2_with fail
  go_loopw [3] (fun iv wr => ∃ k : Nat, k ≤ N ∧ iv = .int .i64 k ∧ Hid ((l.take k).any nz = false) ∧ Below w.heap.size w wr) (fun iv _ => N - (intOf iv).toNat)
  case atStart => exact ⟨0, by omega, rfl, rfl, Below.refl _ _⟩
  case round =>
    obtain ⟨k, hk, rfl, hno, B⟩ := hrel
    by_cases hlt : k < N
    · have hkl : k < l.length := by rw [← hN.out]; exact hlt
      obtain ⟨b, o, c', he, hcell⟩ := hc.out k hkl
      injection he with he1 he2 he3
      subst he1
      have hcc := hcell wr B
      have hul := huh.out l[k] (List.getElem_mem hkl)
      have hsn := any_snoc nz l k hkl hno.out
      have hat := any_of_take nz l (k + 1)
      rw [hsn, ← hR.out] at hat
      have hsn := Lib.hid hsn
      have hat := Lib.hid hat
      clear hcell he2 he3
      have hnz : Hid (nz l[k] = (sha l[k] == zero32)) := rfl
      generalize l[k] = x at *
      have cs := Lib.hid (fun W => SumR x W hul)
      generalize sha x = d at *
      generalize zero32 = Z at *
      have i0 : (0 : Int) ≤ (k : Int) := by omega
      have i1 : (k : Int) < (N : Int) := by omega
      by_cases hd : d = Z
      · have t1 : (d == Z) = true := by rw [beq_iff_eq]; exact hd
        have hr : Hid (R = true) := hat.out (by rw [hnz.out]; exact t1)
        clear hd hat hsn hnz hno
        go_wp2_with fail
        refine (cs.out _).mono ?_
        rintro e w1 ⟨rfl, b1⟩
        have B1 := B.trans (b1.mono B.size)
        go_wp2_with fail
        refine (cZ.out _).mono ?_
        rintro e w2 ⟨rfl, b2⟩
        have B2 := B1.trans (b2.mono B1.size)
        go_wp2_with fail
        go_ret
        exact ⟨ret_bool hr.out.symm, B2⟩
      · have t1 : (d == Z) = false := by rw [beq_eq_false_iff_ne]; exact hd
        have hno2 : Hid ((l.take (k + 1)).any nz = false) := by show _ = _; rw [hsn.out, hnz.out]; exact t1
        clear hd hat hsn hnz hno
        go_wp2_with fail
        refine (cs.out _).mono ?_
        rintro e w1 ⟨rfl, b1⟩
        have B1 := B.trans (b1.mono B.size)
        go_wp2_with fail
        refine (cZ.out _).mono ?_
        rintro e w2 ⟨rfl, b2⟩
        have B2 := B1.trans (b2.mono B1.size)
        go_wp2_with fail
        go_roundw
        case rel => exact ⟨k + 1, by omega, by go_num, hno2, B2⟩
        case measure => simp [intOf]; omega
    · have hr : Hid (R = false) := by
        show _ = _
        rw [hR.out, ← hno.out, List.take_of_length_le (by rw [← hN.out]; omega)]
      have i1 : ¬ (k : Int) < (N : Int) := by omega
      clear hno
      go_wp2_with fail
      go_ret
      exact ⟨ret_bool hr.out.symm, B⟩
def colQ (x y : Str) : Bool := x != y && sha x == sha y
def colB (A B : List Str) : Bool := A.any fun x => B.any (colQ x)

set_option maxRecDepth 100000 in
set_option maxHeartbeats 8000000 in
theorem Collided_any (va vb : Value) (A B : List Str) (w : World) (ha : SS w va A) (hb : SS w vb B) (hA : A.length ≤ 100000) (hB : B.length ≤ 100000) (hAu : ∀ u ∈ A, List.length u ≤ 1000000) (hBu : ∀ u ∈ B, List.length u ≤ 1000000) :
    Calls Tryd.prog 57 #[va, vb] w fun e w' => e = .returned (.bool (colB A B)) ∧ Below w.heap.size w w' := by
  have cA := Lib.hid (show ∀ (k : Nat) (hk : k < A.length), _ from fun k hk => SS.at ha k hk)
  have cB := Lib.hid (show ∀ (k : Nat) (hk : k < B.length), _ from fun k hk => SS.at hb k hk)
  obtain ⟨a, N, c, rfl, hN⟩ := ha.shape'
  obtain ⟨a2, M, c2, rfl, hM⟩ := hb.shape'
  rw [← hN.out] at hA
  rw [← hM.out] at hB
  have hAuh := Lib.hid hAu
  have hBuh := Lib.hid hBu
  obtain ⟨R, hR⟩ : ∃ R, Hid (R = colB A B) := ⟨_, rfl⟩
  rw [← hR.out]
  clear ha hb hAu hBu
  go_enter Tryd.func57, Tryd.ntmps57
  go_wp2_with fail
  go_loopw [5, 6] (fun sv iv wr => ∃ k : Nat, k ≤ M ∧ iv = .int .i64 k ∧ (∃ x1 x2 x3, sv = .slice x1 x2 x3) ∧ OS wr w.heap.size sv ((B.take k).map sha) ∧ Below w.heap.size w wr) (fun _ iv _ => M - (intOf iv).toNat)
  case atStart => exact ⟨0, by omega, rfl, ⟨_, _, _, rfl⟩, OwnG.nil _ _, Below.refl _ _⟩
  case round =>
    obtain ⟨k, hk, rfl, ⟨x1, x2, x3, rfl⟩, os, Bw⟩ := hrel
    by_cases hlt : k < M
    · have hkl : k < B.length := by rw [← hM.out]; exact hlt
      obtain ⟨b, o, c', he, hcell⟩ := cB.out k hkl
      injection he with he1 he2 he3
      subst he1
      have hcc := hcell wr Bw
      have hul := hBuh.out B[k] (List.getElem_mem hkl)
      have hsn : Hid ((B.take (k + 1)).map sha = (B.take k).map sha ++ [sha B[k]]) := by
        show _ = _
        rw [List.take_succ_eq_append_getElem hkl, List.map_append]; rfl
      have hl1 : ((B.take k).map sha).length ≤ k := by rw [List.length_map]; exact List.length_take_le _ _
      clear hcell he2 he3
      generalize B[k] = x at *
      have cs := Lib.hid (fun W => SumR x W hul)
      generalize sha x = d at *
      have i0 : (0 : Int) ≤ (k : Int) := by omega
      have i1 : (k : Int) < (M : Int) := by omega
      have osh := Lib.hid os
      clear os
      go_wp2_with fail
      refine (cs.out _).mono ?_
      rintro e w1 ⟨rfl, b1⟩
      have B1 := Bw.trans (b1.mono Bw.size)
      obtain ⟨v', w', hrun, ho, hBB⟩ := snocS w1 w.heap.size _ _ d (osh.out.below b1) (by omega) B1.size
      obtain ⟨ya, yc, hysh⟩ := (OwnG.SL eS_len ho).shape
      have hend := Lib.hid (show OS w' w.heap.size v' ((B.take (k + 1)).map sha) ∧ Below w.heap.size w w' from ⟨by rw [hsn.out]; exact ho, B1.trans hBB⟩)
      generalize ((B.take k).map sha ++ [d]).length = yn at hysh
      subst hysh
      clear ho hBB hsn b1 B1 hul
      go_wp2_with (at_builtin; refine wpList_append_runB rfl (.tmp 16) (.tmp 22) 35 rfl (.slice x1 x2 x3) (.slice (some ⟨w1.heap.size, 0, none⟩) 1 1) rfl rfl _ _ hrun ?_)
      go_roundw
      case rel => exact ⟨k + 1, by omega, by go_num, ⟨_, _, _, rfl⟩, hend.out⟩
      case measure => simp [intOf]; omega
    · have i1 : ¬ (k : Int) < (M : Int) := by omega
      rw [List.take_of_length_le (show B.length ≤ k by rw [← hM.out]; omega)] at os
      have hS := OwnG.SL eS_len os
      have cS := Lib.hid (show ∀ (k : Nat) (hk : k < B.length), ∃ b o c, (Value.slice x1 x2 x3) = .slice (some ⟨b, o, none⟩) B.length c ∧ ∀ W', Below wr.heap.size wr W' → W'.cell? ⟨b, o + k, none⟩ = some (.string ⟨(sha B[k]).toArray⟩) from fun k hk => by
        obtain ⟨b, o, c, e1, e2⟩ := SS.at hS k (by rw [List.length_map]; exact hk)
        rw [List.length_map] at e1
        exact ⟨b, o, c, e1, fun W' B' => by have := e2 W' B'; rwa [List.getElem_map] at this⟩)
      obtain ⟨q1, q2, hsh⟩ := hS.shape
      have hx2 : x2 = M := by injection hsh with _ h2 _; rw [h2, List.length_map, hM.out]
      subst hx2
      obtain ⟨wz, hwz⟩ : ∃ wz : World, wz = wr := ⟨_, rfl⟩
      subst hwz
      clear os hS hsh hk
      go_wp2_with fail
      clear i1
      go_loopw [7] (fun iv wr => ∃ i : Nat, i ≤ N ∧ iv = .int .i64 i ∧ Hid ((A.take i).any (fun x => B.any (colQ x)) = false) ∧ Below wz.heap.size wz wr) (fun iv _ => N - (intOf iv).toNat)
      case atStart => exact ⟨0, by omega, rfl, rfl, Below.refl _ _⟩
      case round =>
        obtain ⟨i, hi, rfl, hno, B2⟩ := hrel
        by_cases hlt2 : i < N
        · have hil : i < A.length := by rw [← hN.out]; exact hlt2
          obtain ⟨b, o, c', he, hcell⟩ := cA.out i hil
          injection he with he1 he2 he3
          subst he1
          have hcA := Lib.hid (fun W' (B' : Below wz.heap.size wz W') => hcell W' (Bw.trans (B'.mono Bw.size)))
          have hcc := hcA.out wr B2
          have hul := hAuh.out A[i] (List.getElem_mem hil)
          have hsn := Lib.hid (any_snoc (fun x => B.any (colQ x)) A i hil hno.out)
          have hat := Lib.hid (any_of_take (fun x => B.any (colQ x)) A (i + 1))
          rw [hsn.out, show A.any (fun x => B.any (colQ x)) = R from hR.out.symm] at hat
          clear hcell he2 he3
          generalize A[i] = x at *
          have cs := Lib.hid (fun W => SumR x W hul)
          obtain ⟨d, hd⟩ : ∃ d, Hid (sha x = d) := ⟨_, rfl⟩
          rw [hd.out] at cs
          have i0 : (0 : Int) ≤ (i : Int) := by omega
          have i1 : (i : Int) < (N : Int) := by omega
          go_wp2_with fail
          refine (cs.out _).mono ?_
          rintro e w1 ⟨rfl, b1⟩
          have B3 := B2.trans (b1.mono B2.size)
          go_wp2_with fail
          clear hcc
          go_loopw [9] (fun kv wr => ∃ k : Nat, k ≤ x2 ∧ kv = .int .i64 k ∧ Hid ((B.take k).any (colQ x) = false) ∧ Below wz.heap.size wz wr) (fun kv _ => x2 - (intOf kv).toNat)
          case atStart => exact ⟨0, by omega, rfl, rfl, B3⟩
          case round =>
            clear B2 B3 b1
            obtain ⟨k, hk, rfl, hno2, B4⟩ := hrel
            by_cases hlt3 : k < x2
            · have hkl : k < B.length := by rw [← hM.out]; exact hlt3
              have hcc := hcA.out wr B4
              obtain ⟨bb, ob, cb, he, hcell⟩ := cB.out k hkl
              injection he with he1 he2 he3
              subst he1
              have hcb := hcell wr (Bw.trans (B4.mono Bw.size))
              clear hcell he2 he3
              obtain ⟨bs, os, cs2, he, hcell⟩ := cS.out k hkl
              injection he with he1 he2 he3
              subst he1
              have hcs := hcell wr B4
              clear hcell he2 he3
              have hsn2 := Lib.hid (any_snoc (colQ x) B k hkl hno2.out)
              have hat2 := Lib.hid (any_of_take (colQ x) B (k + 1))
              rw [hsn2.out] at hat2
              have hq2 : Hid (colQ x B[k] = (x != B[k] && d == sha B[k])) := by show _ = _; rw [colQ, hd.out]
              generalize B[k] = y at *
              generalize sha y = dy at *
              have k0 : (0 : Int) ≤ (k : Int) := by omega
              have k1 : (k : Int) < (x2 : Int) := by omega
              by_cases hxy : x = y
              · have t1 : (x != y) = false := by rw [bne_eq_false_iff_eq]; exact hxy
                have t2 : (x == y) = true := by rw [beq_iff_eq]; exact hxy
                have hno3 : Hid ((B.take (k + 1)).any (colQ x) = false) := by show _ = _; rw [hsn2.out, hq2.out, t1]; rfl
                clear hxy hsn2 hat2 hq2 hno2
                go_wp2_with fail
                go_quiet (fail)
                go_wp2_with fail
                go_roundw
                case rel => exact ⟨k + 1, by omega, by go_num, hno3, below_drewN B4 _⟩
                case measure => simp [intOf]; omega
              · have t1 : (x != y) = true := by rw [bne_iff_ne]; exact hxy
                have t2 : (x == y) = false := by rw [beq_eq_false_iff_ne]; exact hxy
                by_cases hdd : d = dy
                · have t3 : (d == dy) = true := by rw [beq_iff_eq]; exact hdd
                  have hr : Hid (R = true) := hat.out (hat2.out (by rw [hq2.out, t1, t3]; rfl))
                  have hend := Lib.hid (Bw.trans ((below_drewN B4 1).mono Bw.size))
                  clear hxy hdd hsn2 hat2 hq2 hno2
                  go_wp2_with fail
                  go_quiet (fail)
                  go_wp2_with fail
                  go_ret
                  exact ⟨ret_bool hr.out.symm, Bw.trans ((below_drewN B4 _).mono Bw.size)⟩
                · have t3 : (d == dy) = false := by rw [beq_eq_false_iff_ne]; exact hdd
                  have hno3 : Hid ((B.take (k + 1)).any (colQ x) = false) := by show _ = _; rw [hsn2.out, hq2.out, t1, t3]; rfl
                  clear hxy hdd hsn2 hat2 hq2 hno2
                  go_wp2_with fail
                  go_quiet (fail)
                  go_wp2_with fail
                  go_roundw
                  case rel => exact ⟨k + 1, by omega, by go_num, hno3, below_drewN B4 _⟩
                  case measure => simp [intOf]; omega
            · have k1 : ¬ (k : Int) < (x2 : Int) := by omega
              have hno3 : Hid ((A.take (i + 1)).any (fun x => B.any (colQ x)) = false) := by
                show _ = _
                rw [hsn.out, ← hno2.out, List.take_of_length_le (by rw [← hM.out]; omega)]
              clear hno2 hat hsn
              go_wp2_with fail
              go_roundw
              case rel => exact ⟨i + 1, by omega, by go_num, hno3, B4⟩
              case measure => simp [intOf]; omega
        · have hr : Hid (R = false) := by
            show _ = _
            rw [hR.out, ← hno.out, List.take_of_length_le (by rw [← hN.out]; omega)]; rfl
          have i1 : ¬ (i : Int) < (N : Int) := by omega
          clear hno
          go_wp2_with fail
          go_ret
          exact ⟨ret_bool hr.out.symm, Bw.trans (B2.mono Bw.size)⟩
def outQ (A B : List Str) : Bool := colB A B || A.any nz || B.any nz

set_option maxRecDepth 100000 in
set_option maxHeartbeats 2000000 in
theorem Out_any (va vb : Value) (A B : List Str) (w : World) (ha : SS w va A) (hb : SS w vb B) (hA : A.length ≤ 100000) (hB : B.length ≤ 100000) (hAu : ∀ u ∈ A, List.length u ≤ 1000000) (hBu : ∀ u ∈ B, List.length u ≤ 1000000) :
    Calls Tryd.prog 30 #[va, vb] w fun e w' => e = .returned (.bool (outQ A B)) ∧ Below w.heap.size w w' := by
  have h1 := Lib.hid (Collided_any va vb A B w ha hb hA hB hAu hBu)
  have h2 := Lib.hid (fun W (B' : Below w.heap.size w W) => Nought_any va A W (ha.below B') hA hAu)
  have h3 := Lib.hid (fun W (B' : Below w.heap.size w W) => Nought_any vb B W (hb.below B') hB hBu)
  obtain ⟨a, N, c, rfl, hN⟩ := ha.shape'
  obtain ⟨a2, M, c2, rfl, hM⟩ := hb.shape'
  unfold outQ
  clear ha hb hAu hBu hN hM
  generalize colB A B = p at *
  generalize A.any nz = q at *
  generalize B.any nz = r at *
  clear hA hB
  cases p with
  | true =>
    simp only [Bool.true_or]
    go_enter Tryd.func30, Tryd.ntmps30
    go_wp2_with fail
    refine h1.out.mono ?_
    rintro e w1 ⟨rfl, b1⟩
    go_wp2_with fail
    go_ret
    exact ⟨rfl, b1⟩
  | false =>
    simp only [Bool.false_or]
    cases q with
    | true =>
      simp only [Bool.true_or]
      go_enter Tryd.func30, Tryd.ntmps30
      go_wp2_with fail
      refine h1.out.mono ?_
      rintro e w1 ⟨rfl, b1⟩
      go_wp2_with fail
      refine (h2.out _ b1).mono ?_
      rintro e w2 ⟨rfl, b2⟩
      have B2 := b1.trans (b2.mono b1.size)
      go_wp2_with fail
      go_ret
      exact ⟨rfl, B2⟩
    | false =>
      simp only [Bool.false_or]
      go_enter Tryd.func30, Tryd.ntmps30
      go_wp2_with fail
      refine h1.out.mono ?_
      rintro e w1 ⟨rfl, b1⟩
      go_wp2_with fail
      refine (h2.out _ b1).mono ?_
      rintro e w2 ⟨rfl, b2⟩
      have B2 := b1.trans (b2.mono b1.size)
      go_wp2_with fail
      refine (h3.out _ B2).mono ?_
      rintro e w3 ⟨rfl, b3⟩
      have B3 := B2.trans (b3.mono B2.size)
      go_wp2_with fail
      go_ret
      exact ⟨rfl, B3⟩
end Go.Proofs.YtegahpfmkepfmaaDoor
