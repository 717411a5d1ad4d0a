/- The tree of what is at each key. -/
import Derived.Test.YtegahpfmkepfmaaDoorWit
import Derived.Test.YtegahpfmkepfmaaDoorSumA
import Derived.StillTailTactics
namespace Go.Proofs.YtegahpfmkepfmaaDoor
open Go.RowKit
def emp2 : List Str := List.replicate 128 []
def putT (cl : List Nat) (path : List Str) : List Str := (cl.zip path).foldl (fun l p => l.set p.1 p.2) emp2
theorem foldset_len (z : List (Nat × Str)) (l : List Str) : (z.foldl (fun l p => l.set p.1 p.2) l).length = l.length := by
  induction z generalizing l with
  | nil => rfl
  | cons e t ih => rw [List.foldl_cons, ih, List.length_set]
theorem putT_len (cl : List Nat) (path : List Str) : (putT cl path).length = 128 := by rw [putT, foldset_len]; simp [emp2]
def putN (cl : List Nat) (path : List Str) (n : Nat) : List Str := ((cl.zip path).take n).foldl (fun l p => l.set p.1 p.2) emp2
theorem putN_len (cl : List Nat) (path : List Str) (n : Nat) : (putN cl path n).length = 128 := by rw [putN, foldset_len]; simp [emp2]
theorem putN_snoc (cl : List Nat) (path : List Str) (n : Nat) (h1 : n < cl.length) (h2 : n < path.length) : putN cl path (n + 1) = (putN cl path n).set cl[n] path[n] := by
  unfold putN
  have h : n < (cl.zip path).length := by rw [List.length_zip]; omega
  rw [List.take_succ_eq_append_getElem h, List.foldl_append, List.getElem_zip]; rfl
theorem putN_full (cl : List Nat) (path : List Str) (n : Nat) (h : cl.length ≤ n) : putN cl path n = putT cl path := by
  unfold putN putT
  rw [List.take_of_length_le (by rw [List.length_zip]; omega)]
def cF (cl : List Nat) (path : List Str) (i : Nat) : Str := (putT cl path).getD i []
def vF (v : List Str) (k : Nat) : Str := v.getD k []
theorem getD_set (l : List Str) (i j : Nat) (s : Str) (h : i < l.length) : (l.set i s).getD j [] = if i = j then s else l.getD j [] := by
  rw [List.getD_eq_getElem?_getD, List.getElem?_set, List.getD_eq_getElem?_getD]
  split
  · rename_i e; subst e; simp
  · rfl
theorem foldset_small (z : List (Nat × Str)) (l : List Str) (n : Nat) (h1 : ∀ p ∈ z, p.2.length ≤ n) (h2 : ∀ s ∈ l, List.length s ≤ n) : ∀ s ∈ z.foldl (fun l p => l.set p.1 p.2) l, List.length s ≤ n := by
  induction z generalizing l with
  | nil => exact h2
  | cons e t ih =>
    rw [List.foldl_cons]
    refine ih _ (fun p hp => h1 p (List.mem_cons_of_mem _ hp)) (fun s hs => ?_)
    rcases List.mem_or_eq_of_mem_set hs with h | h
    · exact h2 s h
    · rw [h]; exact h1 e List.mem_cons_self
theorem cF_small (cl : List Nat) (path : List Str) (n : Nat) (h : ∀ s ∈ path, List.length s ≤ n) (i : Nat) : (cF cl path i).length ≤ n := by
  unfold cF
  rw [List.getD_eq_getElem?_getD]
  cases e : (putT cl path)[i]? with
  | none => simp
  | some s =>
    refine foldset_small (cl.zip path) emp2 n (fun p hp => h _ (List.of_mem_zip hp).2) (fun s hs => by simp [emp2] at hs; simp [hs]) s ?_
    exact List.mem_of_getElem? e
/-- the whole tree -/
def treeL (cl : List Nat) (path v : List Str) : List Str := (List.range 128).map fun j => if 1 ≤ j then E sha (cF cl path) (vF v) j else cF cl path 0
theorem treeL_len (cl : List Nat) (path v : List Str) : (treeL cl path v).length = 128 := by simp [treeL]
theorem treeL_at (cl : List Nat) (path v : List Str) (j : Nat) (h1 : 1 ≤ j) (h2 : j < 128) : (treeL cl path v).getD j [] = E sha (cF cl path) (vF v) j := by
  rw [List.getD_eq_getElem?_getD, List.getElem?_eq_getElem (by rw [treeL_len]; exact h2), Option.getD_some]
  simp [treeL, h1]
theorem E_small (c v : Nat → Str) (n : Nat) (hn : 32 ≤ n) (hc : ∀ i, (c i).length ≤ n) (i : Nat) (h : 1 ≤ i) : (E sha c v i).length ≤ n := by
  by_cases h2 : 64 ≤ i
  · rw [E_leaf sha c v i h2]
    split
    · rw [leafD_len sha sha_len]; exact hn
    · exact hc i
  · rw [E_node sha c v i h (by omega)]
    split
    · rw [nodeD_len sha sha_len]; exact hn
    · exact hc i
theorem size70 : (Tryd.prog.info? 70).map (·.size) = some 128 := by kernel_rfl
theorem size70l (l : List Str) (h : l.length = 128) : (Tryd.prog.info? 70).map (·.size) = some (cT l).toArray.size := by rw [cT_size, h]; exact size70
theorem z128s : Tryd.zeroCells70 = (cT emp2).toArray := by
  unfold Tryd.zeroCells70
  rfl
theorem idx73 (l : List Str) (k : Nat) (h : l.length = 64) (hk : k < 64) (w : World) : (Instr.index 73 (.agg (cT l).toArray) (.int .i64 (k : Int))).run Tryd.prog w = .ok (.string ⟨(l.getD k []).toArray⟩) w := by
  have e : (cT l)[k]? = some (.string ⟨(l.getD k []).toArray⟩) := by have := cT_at l k (by omega); simpa using this
  have h1 : (0 : Int) ≤ (k : Int) ∧ (k : Int) < ((64 : Nat) : Int) := by omega
  simp only [List.getD_eq_getElem?_getD] at e ⊢
  simp [Instr.index, run_underlying Tryd.underlying73, asIntOf, h1, e, go_sem]
  omega

theorem not_empty {s : Str} (h : s ≠ []) : s.isEmpty = false := by cases s <;> simp_all

set_option linter.unusedSimpArgs false in
set_option maxRecDepth 100000 in
set_option maxHeartbeats 1000000 in
theorem grow_any (v : List Str) (va vb : Value) (cl : List Nat) (path : List Str) (w : World) {W0 : World} (hW : W0 = w) (hv : v.length = 64) (hvs : ∀ s ∈ v, List.length s ≤ 1000000) (ha : SI W0 va (cl.map Int.ofNat)) (hb : SS W0 vb path) (hcl : ∀ p ∈ cl, p < 128)
    (hps : ∀ s ∈ path, List.length s ≤ 1000) (hle : cl.length ≤ path.length) (hpl : path.length ≤ 1000000000) (hT : Tab w) :
    Calls Tryd.prog 37 #[.agg (cT v).toArray, va, vb] w fun e w' => e = .returned (.agg (cT (treeL cl path v)).toArray) ∧ Below w.heap.size w w' := by
  subst hW
  obtain ⟨N, hN⟩ : ∃ N, Hid (N = cl.length) := ⟨_, rfl⟩
  have hca := Lib.hid (show ∀ (k : Nat) (hk : k < cl.length), ∃ b o c, va = .slice (some ⟨b, o, none⟩) cl.length c ∧ ∀ W', Below W0.heap.size W0 W' → W'.cell? ⟨b, o + k, none⟩ = some (.int .i64 (cl[k] : Int)) from fun k hk => by
    obtain ⟨b, o, c, h1, h2⟩ := SI.at ha k (by simpa using hk)
    exact ⟨b, o, c, by simpa using h1, fun W' B => by simpa using h2 W' B⟩)
  have hcb := Lib.hid (show ∀ (k : Nat) (hk : k < path.length), _ from fun k hk => SS.at hb k hk)
  obtain ⟨a1, a2, rfl⟩ := ha.shape
  obtain ⟨b1, b2, rfl⟩ := hb.shape
  have hcs := Lib.hid (fun i => cF_small cl path 1000 hps i)
  have hvs2 := Lib.hid (show ∀ k, (vF v k).length ≤ 1000000 from fun k => by
    unfold vF; rw [List.getD_eq_getElem?_getD]
    cases e : v[k]? with
    | none => simp
    | some s => exact hvs s (List.mem_of_getElem? e))
  have hv2 := Lib.hid hv
  have hcl2 := Lib.hid hcl
  have hT2 := Lib.hid hT
  simp only [List.length_map] at hca ⊢
  obtain ⟨M, hM⟩ : ∃ M, Hid (M = path.length) := ⟨_, rfl⟩
  rw [← hN.out, ← hM.out] at hle
  rw [← hM.out] at hpl
  rw [← hN.out, ← hM.out]
  clear ha hb hv hvs hcl hps hT
  go_enter Tryd.func37, Tryd.ntmps37
  go_upto_region 2 with (fail)
  rw [z128s]
  obtain ⟨w0, hw0⟩ : ∃ w0, w0 = ((W0.alloc (.cells (cT v).toArray 73)).alloc (.cells (cT emp2).toArray 70)).alloc (.cells (cT emp2).toArray 70) := ⟨_, rfl⟩
  rw [← hw0]
  obtain ⟨hsz, B0, hh1, hh2, hh3⟩ := three_world W0 w0 _ _ _ _ _ _ hw0
  clear hw0 hsz
  have r1 : RowT 73 w0 W0.heap.size v := hh1
  have r2 : RowT 70 w0 (W0.heap.size + 1) emp2 := hh2
  have r3 : RowT 70 w0 (W0.heap.size + 1 + 1) (putN cl path 0) := hh3
  clear hh1 hh2 hh3
  go_wp2_with fail
  go_loopw [15] (fun i wr => ∃ n : Nat, n ≤ N ∧ i = .int .i64 n ∧ RowT 73 wr W0.heap.size v ∧ RowT 70 wr (W0.heap.size + 1) emp2 ∧ RowT 70 wr (W0.heap.size + 1 + 1) (putN cl path n) ∧ Below W0.heap.size W0 wr) (fun i _ => N - (intOf i).toNat)
  case atStart => exact ⟨0, by omega, rfl, r1, r2, r3, B0⟩
  case round =>
    clear r1 r2 r3 B0
    obtain ⟨n, hn, rfl, r1, r2, r3, B⟩ := hrel
    by_cases hlt : n < N
    · have hnl : n < cl.length := by rw [← hN.out]; exact hlt
      have hnp : n < path.length := by rw [← hM.out]; omega
      obtain ⟨b, o, c', he, hcell⟩ := hca.out n hnl
      injection he with he1 he2 he3
      subst he1
      have hcc1 := hcell wr B
      obtain ⟨b3, o3, c3, he, hcell3⟩ := hcb.out n hnp
      injection he with he4 he5 he6
      subst he4
      have hcc2 := hcell3 wr B
      have hp128 := hcl2.out cl[n] (List.getElem_mem hnl)
      have hst := Lib.hid (putN_snoc cl path n hnl hnp)
      have hlen := putN_len cl path n
      clear hcell hcell3 he2 he3 he5 he6
      have i0 : (0 : Int) ≤ (n : Int) := by omega
      have i1 : (n : Int) < (N : Int) := by omega
      have i2 : (n : Int) < (M : Int) := by omega
      generalize cl[n] = p at *
      generalize path[n] = s at *
      generalize putN cl path n = l at *
      have i3 : (0 : Int) ≤ (p : Int) := by omega
      have i4 : (p : Int) < 128 := by omega
      have f1 := r3.free p
      have c1 := r3.cell p (by omega)
      have q3 := Lib.hid (r3.set p s)
      have q2 := Lib.hid (r2.other (g := W0.heap.size + 1 + 1) (i := p) (v := .string ⟨s.toArray⟩) (by omega))
      have q1 := Lib.hid (r1.other (g := W0.heap.size + 1 + 1) (i := p) (v := .string ⟨s.toArray⟩) (by omega))
      have B' := Lib.hid (B.setCell (p := ⟨W0.heap.size + 1 + 1, p, none⟩) (by simp; omega) (.string ⟨s.toArray⟩))
      clear r1 r2 r3 B hlen
      generalize l.getD p [] = old at *
      go_wp2_with fail
      go_roundw
      case rel => exact ⟨n + 1, by omega, by go_num, q1.out, q2.out, by rw [hst.out]; exact q3.out, B'.out⟩
      case measure => simp [intOf]; omega
    · have hfull : putN cl path n = putT cl path := putN_full cl path n (by rw [← hN.out]; omega)
      rw [hfull] at r3
      have hlen := putT_len cl path
      have hT0 : Hid (∀ j, j < 128 → (putT cl path).getD j [] = if 64 ≤ j ∧ j < 64 + 0 then E sha (cF cl path) (vF v) j else cF cl path j) := fun j _ => by
        rw [if_neg (by omega)]; rfl
      have i1 : ¬ (n : Int) < (N : Int) := by omega
      have z1 := Lib.hid (size73l v hv2.out)
      have s1 := Lib.hid r1
      clear hfull hca hcb hcl2 r1
      generalize putT cl path = l0 at *
      go_wp2_with (refine wpList_load_row rfl 73 (.tmp 3) rfl W0.heap.size rfl 73 (cT v).toArray (0, 0) _ s1.out Tryd.underlying73 rfl z1.out ?_)
      go_loopw [28] (fun i wr => ∃ (k : Nat) (l : List Str), k ≤ 64 ∧ i = .int .i64 k ∧ l.length = 128 ∧ RowT 70 wr (W0.heap.size + 1) emp2 ∧ RowT 70 wr (W0.heap.size + 1 + 1) l ∧ Hid (∀ j, j < 128 → l.getD j [] = if 64 ≤ j ∧ j < 64 + k then E sha (cF cl path) (vF v) j else cF cl path j) ∧ Below W0.heap.size W0 wr) (fun i _ => 64 - (intOf i).toNat)
      case atStart => exact ⟨0, l0, by omega, rfl, hlen, r2, r3, hT0, B⟩
      case round =>
        clear r2 r3 B hlen hT0
        obtain ⟨k, l, hk, rfl, hlen, r2, r3, hL, B⟩ := hrel
        by_cases hlt : k < 64
        · have hi := idx73 v k hv2.out hlt
          have c1 := r3.cell (64 + k) (by omega)
          have e1 := hL.out (64 + k) (by omega)
          rw [if_neg (by omega)] at e1
          rw [e1] at c1
          have hvk := hvs2.out k
          have hE := E_leaf sha (cF cl path) (vF v) (64 + k) (by omega)
          rw [show 64 + k - 64 = k by omega] at hE
          have hvd : v.getD k [] = vF v k := rfl
          rw [hvd] at hi
          have f1 := r3.free (64 + k)
          have i0 : (0 : Int) ≤ (k : Int) := by omega
          have i1 : (k : Int) < 64 := by omega
          have i2 : IntKind.i64.wrap (64 + (k : Int)) = ((64 + k : Nat) : Int) := by rw [IntWalk.i64_in _ (by omega)]; omega
          have hleaf := Lib.hid (leaf_any k (vF v k) wr hlt (by omega) (hT2.out.below B))
          have hLh := Lib.hid hL
          have hstep := Lib.hid (show ∀ (l' : List Str), (∀ j, j < 128 → l'.getD j [] = if 64 + k = j then E sha (cF cl path) (vF v) (64 + k) else l.getD j []) → Hid (∀ j, j < 128 → l'.getD j [] = if 64 ≤ j ∧ j < 64 + (k + 1) then E sha (cF cl path) (vF v) j else cF cl path j) from fun l' h j hj => by
            rw [h j hj]
            by_cases ej : 64 + k = j
            · rw [if_pos ej, if_pos (by omega), ej]
            · rw [if_neg ej, hL.out j hj]
              by_cases e2 : 64 ≤ j ∧ j < 64 + k
              · rw [if_pos e2, if_pos (by omega)]
              · rw [if_neg e2, if_neg (by omega)])
          clear hL hvd
          by_cases hz : cF cl path (64 + k) = []
          · rw [if_pos hz] at hE
            rw [hz] at c1
            have hEh := Lib.hid hE
            generalize leafD sha k (vF v k) = r at *
            have q3 := Lib.hid (fun W (b2 : Below wr.heap.size wr W) => (r3.below b2 r3.lt).set (64 + k) r)
            have q2 := Lib.hid (fun W (b2 : Below wr.heap.size wr W) => (r2.below b2 r2.lt).other (g := W0.heap.size + 1 + 1) (i := 64 + k) (v := .string ⟨r.toArray⟩) (by omega))
            have f3 := Lib.hid (fun W (b2 : Below wr.heap.size wr W) => (r3.below b2 r3.lt).free (64 + k))
            have d3 := Lib.hid (fun W (b2 : Below wr.heap.size wr W) => (r3.below b2 r3.lt).cell (64 + k) (by omega))
            have Bt := Lib.hid (fun W (b2 : Below wr.heap.size wr W) => (B.trans (b2.mono B.size)).setCell (p := ⟨W0.heap.size + 1 + 1, 64 + k, none⟩) (by simp; omega) (.string ⟨r.toArray⟩))
            have hst2 := Lib.hid (hstep.out (l.set (64 + k) r) (fun j _ => by rw [getD_set _ _ _ _ (by omega), hEh.out]))
            have hl2 := Lib.hid (show (l.set (64 + k) r).length = 128 by rw [List.length_set]; exact hlen)
            clear hE hz e1 r2 r3 hstep hlen
            generalize vF v k = s at *
            go_wp2_with fail
            refine hleaf.out.mono ?_
            rintro e W ⟨rfl, b2⟩
            have f4 := f3.out W b2
            have d4 := d3.out W b2
            generalize l.getD (64 + k) [] = old at *
            go_wp2_with fail
            go_roundw
            case rel => exact ⟨k + 1, _, by omega, by go_num, hl2.out, q2.out W b2, q3.out W b2, hst2.out, Bt.out W b2⟩
            case measure => simp [intOf]; omega
          · rw [if_neg hz] at hE
            have hz2 := not_empty hz
            have hst2 := Lib.hid (hstep.out l (fun j _ => by
              by_cases ej : 64 + k = j
              · rw [if_pos ej, hE, ← ej, e1]
              · rw [if_neg ej]))
            clear hE e1 hstep hleaf hLh
            generalize cF cl path (64 + k) = s at *
            generalize vF v k = s2 at *
            go_wp2_with fail
            go_roundw
            case rel => exact ⟨k + 1, l, by omega, by go_num, hlen, r2, r3, hst2.out, B⟩
            case measure => simp [intOf]; omega
        · obtain rfl : k = 64 := by omega
          have hL2 : Hid (∀ j, 1 ≤ j → j < 128 → l.getD j [] = if 63 < j then E sha (cF cl path) (vF v) j else cF cl path j) := fun j _ hj => by
            rw [hL.out j hj]
            by_cases e : 63 < j
            · rw [if_pos e, if_pos (by omega)]
            · rw [if_neg e, if_neg (by omega)]
          have hL0 : Hid (l.getD 0 [] = cF cl path 0) := by show _ = _; rw [hL.out 0 (by omega), if_neg (by omega)]
          clear hL
          go_wp2_with fail
          go_loopw [12] (fun i wr => ∃ (q : Nat) (l : List Str), q ≤ 63 ∧ i = .int .i64 q ∧ l.length = 128 ∧ RowT 70 wr (W0.heap.size + 1) emp2 ∧ RowT 70 wr (W0.heap.size + 1 + 1) l ∧ Hid (∀ j, 1 ≤ j → j < 128 → l.getD j [] = if q < j then E sha (cF cl path) (vF v) j else cF cl path j) ∧ Hid (l.getD 0 [] = cF cl path 0) ∧ Below W0.heap.size W0 wr) (fun i _ => (intOf i).toNat)
          case atStart => exact ⟨63, l, by omega, rfl, hlen, r2, r3, hL2, hL0, B⟩
          case round =>
            clear r2 r3 B hlen hL2 hL0
            obtain ⟨q, l, hq, rfl, hlen, r2, r3, hL, hL0, B⟩ := hrel
            by_cases hlt : 1 ≤ q
            · have c1 := r3.cell q (by omega)
              have e1 := hL.out q hlt (by omega)
              rw [if_neg (by omega)] at e1
              rw [e1] at c1
              have g2 := hL.out (2 * q) (by omega) (by omega)
              have g3 := hL.out (2 * q + 1) (by omega) (by omega)
              rw [if_pos (by omega)] at g2 g3
              have c2 := r3.cell (2 * q) (by omega)
              have c3 := r3.cell (2 * q + 1) (by omega)
              rw [g2] at c2
              rw [g3] at c3
              have hE := E_node sha (cF cl path) (vF v) q hlt (by omega)
              have l2 := E_small (cF cl path) (vF v) 1000 (by omega) hcs.out (2 * q) (by omega)
              have l3 := E_small (cF cl path) (vF v) 1000 (by omega) hcs.out (2 * q + 1) (by omega)
              have i0 : (0 : Int) ≤ (q : Int) := by omega
              have i1 : (1 : Int) ≤ (q : Int) := by omega
              have i3 : (q : Int) ≤ 63 := by omega
              have hnode := Lib.hid (fun W (b2 : Below wr.heap.size wr W) => node_any (E sha (cF cl path) (vF v) (2 * q)) (E sha (cF cl path) (vF v) (2 * q + 1)) W (by omega) (by omega) (hT2.out.below (B.trans (b2.mono B.size))))
              have hstep := Lib.hid (show ∀ (l' : List Str), l'.length = 128 → (∀ j, l'.getD j [] = if q = j then E sha (cF cl path) (vF v) q else l.getD j []) → Hid (∀ j, 1 ≤ j → j < 128 → l'.getD j [] = if q - 1 < j then E sha (cF cl path) (vF v) j else cF cl path j) ∧ Hid (l'.getD 0 [] = cF cl path 0) from fun l' _ h => ⟨fun j h1 hj => by
                rw [h j]
                by_cases ej : q = j
                · rw [if_pos ej, if_pos (by omega), ej]
                · rw [if_neg ej, hL.out j h1 hj]
                  by_cases e2 : q < j
                  · rw [if_pos e2, if_pos (by omega)]
                  · rw [if_neg e2, if_neg (by omega)], by show _ = _; rw [h 0, if_neg (by omega)]; exact hL0.out⟩)
              have hg2 := Lib.hid g2
              have hg3 := Lib.hid g3
              clear hL g2 g3 hL0
              by_cases hz : cF cl path q = []
              · rw [if_pos hz] at hE
                rw [hz] at c1
                have hEh := Lib.hid hE
                generalize hx2 : E sha (cF cl path) (vF v) (2 * q) = x2 at *
                generalize hx3 : E sha (cF cl path) (vF v) (2 * q + 1) = x3 at *
                clear hx2 hx3
                generalize nodeD sha x2 x3 = r at *
                have q3 := Lib.hid (fun W (b2 : Below wr.heap.size wr W) => (r3.below b2 r3.lt).set q r)
                have q2 := Lib.hid (fun W (b2 : Below wr.heap.size wr W) => (r2.below b2 r2.lt).other (g := W0.heap.size + 1 + 1) (i := q) (v := .string ⟨r.toArray⟩) (by omega))
                have f3 := Lib.hid (fun W (b2 : Below wr.heap.size wr W) => (r3.below b2 r3.lt).free q)
                have d3 := Lib.hid (fun W (b2 : Below wr.heap.size wr W) => (r3.below b2 r3.lt).cell q (by omega))
                have Bt := Lib.hid (fun W (b2 : Below wr.heap.size wr W) => (B.trans (b2.mono B.size)).setCell (p := ⟨W0.heap.size + 1 + 1, q, none⟩) (by simp; omega) (.string ⟨r.toArray⟩))
                have hl2 := Lib.hid (show (l.set q r).length = 128 by rw [List.length_set]; exact hlen)
                have hst2 := Lib.hid (hstep.out (l.set q r) hl2.out (fun j => by rw [getD_set _ _ _ _ (by omega), hEh.out]))
                have i6 : IntKind.i64.wrap ((q : Int) - 1) = ((q - 1 : Nat) : Int) := by rw [IntWalk.i64_in _ (by omega)]; omega
                have m0 : (q : Int) < 128 := by omega
                have sA := Lib.hid (show ∀ W, Below wr.heap.size wr W → W.cell? ⟨W0.heap.size + 1 + 1, 2 * q, none⟩ = some (.string ⟨x2.toArray⟩) ∧ W.cell? ⟨W0.heap.size + 1 + 1, 2 * q + 1, none⟩ = some (.string ⟨x3.toArray⟩) from fun W B => ⟨by rw [B.cell (p := ⟨W0.heap.size + 1 + 1, 2 * q, none⟩) r3.lt]; exact c2, by rw [B.cell (p := ⟨W0.heap.size + 1 + 1, 2 * q + 1, none⟩) r3.lt]; exact c3⟩)
                have sB := Lib.hid (show ∀ W, Below wr.heap.size wr W → (W.setCell ⟨W0.heap.size + 1 + 1, q, none⟩ (.string ⟨r.toArray⟩)).cell? ⟨W0.heap.size + 1 + 1, 2 * q, none⟩ = some (.string ⟨x2.toArray⟩) ∧ (W.setCell ⟨W0.heap.size + 1 + 1, q, none⟩ (.string ⟨r.toArray⟩)).cell? ⟨W0.heap.size + 1 + 1, 2 * q + 1, none⟩ = some (.string ⟨x3.toArray⟩) from fun W B => by
                  have a2 := (q3.out W B).cell (2 * q) (by rw [List.length_set]; omega)
                  have a3 := (q3.out W B).cell (2 * q + 1) (by rw [List.length_set]; omega)
                  rw [getD_set _ _ _ _ (by omega), if_neg (by omega), hg2.out] at a2
                  rw [getD_set _ _ _ _ (by omega), if_neg (by omega), hg3.out] at a3
                  exact ⟨a2, a3⟩)
                generalize l.getD q [] = old at *
                have i4 : IntKind.i64.wrap (2 * (q : Int)) = 2 * (q : Int) := by rw [IntWalk.i64_in _ (by omega)]
                have i5 : IntKind.i64.wrap (2 * (q : Int) + 1) = 2 * (q : Int) + 1 := by rw [IntWalk.i64_in _ (by omega)]
                have n1 : (0 : Int) ≤ 2 * (q : Int) := by omega
                have n2 : (0 : Int) ≤ 2 * (q : Int) + 1 := by omega
                have m1 : 2 * (q : Int) < 128 := by omega
                have m2 : 2 * (q : Int) + 1 < 128 := by omega
                have t1 : (2 * (q : Int)).toNat = 2 * q := by omega
                have t2 : (2 * (q : Int) + 1).toNat = 2 * q + 1 := by omega
                clear hE hz e1 r2 r3 hstep hlen hg2 hg3
                go_wp2_with fail
                refine wp_region_held_drew (S := (fun w' : World => w'.cell? ⟨W0.heap.size + 1 + 1, 2 * q, none⟩ = some (.string ⟨x2.toArray⟩) ∧ w'.cell? ⟨W0.heap.size + 1 + 1, 2 * q + 1, none⟩ = some (.string ⟨x3.toArray⟩))) (by kernel_rfl) ⟨c2, c3⟩ (fun hHeld => ?_)
                refine wpAnyH_take (i := 0) (oi := { dst := some 52, op := Op.move (Operand.tmp 12), type := _, pos := _, after := _, guard := none }) (v := ?_) rfl (by kernel_rfl) (by kernel_rfl) (by kernel_rfl) (fun _ _ _ h => h) (Or.inl ⟨by rfl, ?_⟩) (by assumption) ?_
                rotate_left
                · ((intro w hSw; (try dsimp only at hSw); go_simp) <;> with_reducible rfl)
                try simp only [Act.put, List.setIfInBounds_toArray, List.set_cons_zero, List.set_cons_succ]
                refine wpAnyH_take (i := 1) (oi := { dst := some 53, op := Op.move (Operand.tmp 12), type := _, pos := _, after := _, guard := none }) (v := ?_) rfl (by kernel_rfl) (by kernel_rfl) (by kernel_rfl) (fun _ _ _ h => h) (Or.inl ⟨by rfl, ?_⟩) (by assumption) ?_
                rotate_left
                · ((intro w hSw; (try dsimp only at hSw); go_simp) <;> with_reducible rfl)
                try simp only [Act.put, List.setIfInBounds_toArray, List.set_cons_zero, List.set_cons_succ]
                refine wpAnyH_take (i := 2) (oi := { dst := some 54, op := Op.binOp BinOp.mul 3 ((Operand.const (Value.int IntKind.i64 2))) (Operand.tmp 53) 3, type := _, pos := _, after := _, guard := none }) (v := ?_) rfl (by kernel_rfl) (by kernel_rfl) (by kernel_rfl) (fun _ _ _ h => h) (Or.inl ⟨by rfl, ?_⟩) (by assumption) ?_
                rotate_left
                · ((intro w hSw; (try dsimp only at hSw); go_simp) <;> with_reducible rfl)
                try simp only [Act.put, List.setIfInBounds_toArray, List.set_cons_zero, List.set_cons_succ]
                refine wpAnyH_take (i := 3) (oi := { dst := some 55, op := Op.indexAddr 70 (Operand.tmp 7) (Operand.tmp 54), type := _, pos := _, after := _, guard := none }) (v := ?_) rfl (by kernel_rfl) (by kernel_rfl) (by kernel_rfl) (fun _ _ _ h => h) (Or.inl ⟨by rfl, ?_⟩) (by assumption) ?_
                rotate_left
                · ((intro w hSw; (try dsimp only at hSw); go_simp) <;> with_reducible rfl)
                try simp only [Act.put, List.setIfInBounds_toArray, List.set_cons_zero, List.set_cons_succ]
                refine wpAnyH_take (i := 4) (oi := { dst := some 56, op := Op.load 9 (Operand.tmp 55), type := _, pos := _, after := _, guard := none }) (v := ?_) rfl (by kernel_rfl) (by kernel_rfl) (by kernel_rfl) (fun _ _ _ h => h) (Or.inl ⟨by rfl, ?_⟩) (by assumption) ?_
                rotate_left
                · ((intro w hSw; (try dsimp only at hSw); go_simp) <;> with_reducible rfl)
                try simp only [Act.put, List.setIfInBounds_toArray, List.set_cons_zero, List.set_cons_succ]
                refine wpAnyH_take (i := 5) (oi := { dst := some 57, op := Op.move (Operand.tmp 12), type := _, pos := _, after := _, guard := none }) (v := ?_) rfl (by kernel_rfl) (by kernel_rfl) (by kernel_rfl) (fun _ _ _ h => h) (Or.inl ⟨by rfl, ?_⟩) (by assumption) ?_
                rotate_left
                · ((intro w hSw; (try dsimp only at hSw); go_simp) <;> with_reducible rfl)
                try simp only [Act.put, List.setIfInBounds_toArray, List.set_cons_zero, List.set_cons_succ]
                refine wpAnyH_take (i := 6) (oi := { dst := some 58, op := Op.binOp BinOp.mul 3 ((Operand.const (Value.int IntKind.i64 2))) (Operand.tmp 57) 3, type := _, pos := _, after := _, guard := none }) (v := ?_) rfl (by kernel_rfl) (by kernel_rfl) (by kernel_rfl) (fun _ _ _ h => h) (Or.inl ⟨by rfl, ?_⟩) (by assumption) ?_
                rotate_left
                · ((intro w hSw; (try dsimp only at hSw); go_simp) <;> with_reducible rfl)
                try simp only [Act.put, List.setIfInBounds_toArray, List.set_cons_zero, List.set_cons_succ]
                refine wpAnyH_take (i := 7) (oi := { dst := some 59, op := Op.binOp BinOp.add 3 (Operand.tmp 58) ((Operand.const (Value.int IntKind.i64 1))) 3, type := _, pos := _, after := _, guard := none }) (v := ?_) rfl (by kernel_rfl) (by kernel_rfl) (by kernel_rfl) (fun _ _ _ h => h) (Or.inl ⟨by rfl, ?_⟩) (by assumption) ?_
                rotate_left
                · ((intro w hSw; (try dsimp only at hSw); go_simp) <;> with_reducible rfl)
                try simp only [Act.put, List.setIfInBounds_toArray, List.set_cons_zero, List.set_cons_succ]
                refine wpAnyH_take (i := 8) (oi := { dst := some 60, op := Op.indexAddr 70 (Operand.tmp 7) (Operand.tmp 59), type := _, pos := _, after := _, guard := none }) (v := ?_) rfl (by kernel_rfl) (by kernel_rfl) (by kernel_rfl) (fun _ _ _ h => h) (Or.inl ⟨by rfl, ?_⟩) (by assumption) ?_
                rotate_left
                · ((intro w hSw; (try dsimp only at hSw); go_simp) <;> with_reducible rfl)
                try simp only [Act.put, List.setIfInBounds_toArray, List.set_cons_zero, List.set_cons_succ]
                refine wpAnyH_take (i := 9) (oi := { dst := some 61, op := Op.load 9 (Operand.tmp 60), type := _, pos := _, after := _, guard := none }) (v := ?_) rfl (by kernel_rfl) (by kernel_rfl) (by kernel_rfl) (fun _ _ _ h => h) (Or.inl ⟨by rfl, ?_⟩) (by assumption) ?_
                rotate_left
                · ((intro w hSw; (try dsimp only at hSw); go_simp) <;> with_reducible rfl)
                try simp only [Act.put, List.setIfInBounds_toArray, List.set_cons_zero, List.set_cons_succ]
                refine wpAnyH_ready (rs := [10]) (by kernel_rfl) (by simp) ?_
                refine AllReadyH.cons (o := { dst := some 62, op := Op.call { callee := Callee.value (Operand.func 62), args := #[(Operand.tmp 56), (Operand.tmp 61)], argTypes := #[9, 9] }, type := _, pos := _, after := _, guard := none }) rfl (fun K hK => ?_) ?_
                · skip
                  go_simp
                  with_reducible refine (hnode.out _ (Below.refl _ _).drew).mono ?_
                  rintro e W ⟨rfl, b2⟩
                  have b3 : Below wr.heap.size wr W := (Below.refl _ wr).drew.trans b2
                  have b4 := Lib.hid b3
                  have f4 := f3.out W b3
                  have d4 := d3.out W b3
                  clear b2 b3
                  go_wp2_with fail
                  refine hK.out _ _ ?_ (fun hHeld => ?_)
                  · exact sA.out W b4.out
                  clear hK K
                  try simp only [Act.put, List.setIfInBounds_toArray, List.set_cons_zero, List.set_cons_succ]
                  refine wpAnyH_take (i := 11) (oi := { dst := some 63, op := Op.indexAddr 70 (Operand.tmp 7) (Operand.tmp 52), type := _, pos := _, after := _, guard := none }) (v := ?_) rfl (by kernel_rfl) (by kernel_rfl) (by kernel_rfl) (fun _ _ _ h => h) (Or.inl ⟨by rfl, ?_⟩) (by assumption) ?_
                  rotate_left
                  · ((intro w hSw; (try dsimp only at hSw); go_simp) <;> with_reducible rfl)
                  try simp only [Act.put, List.setIfInBounds_toArray, List.set_cons_zero, List.set_cons_succ]
                  refine wpAnyH_ready (rs := [12]) (by kernel_rfl) (by simp) ?_
                  refine AllReadyH.cons (o := { dst := none, op := Op.store 9 (Operand.tmp 63) (Operand.tmp 62), type := _, pos := _, after := _, guard := none }) rfl (fun K hK => ?_) ?_
                  · skip
                    go_simp
                    go_wp2_with fail
                    refine hK.out _ _ ?_ (fun hHeld => ?_)
                    · exact sB.out W b4.out
                    clear hK K
                    try simp only [Act.put, List.setIfInBounds_toArray, List.set_cons_zero, List.set_cons_succ]
                    refine wpAnyH_done (by kernel_rfl) ?_ _
                    go_wp2_with fail
                    go_roundw
                    case rel =>
                      iterate 21 (apply Exists.intro)
                      exact ⟨⟨q - 1, _, by omega, by go_num, hl2.out, q2.out _ b4.out, q3.out _ b4.out, hst2.out.1, hst2.out.2, Bt.out _ b4.out⟩, rfl⟩
                    case measure => simp [intOf]; omega
                  exact AllReadyH.nil
                exact AllReadyH.nil
              · rw [if_neg hz] at hE
                have hz2 := not_empty hz
                obtain ⟨hst2, hst0⟩ := hstep.out l hlen (fun j => by
                  by_cases ej : q = j
                  · rw [if_pos ej, hE, ← ej, e1]
                  · rw [if_neg ej])
                have i6 : IntKind.i64.wrap ((q : Int) - 1) = ((q - 1 : Nat) : Int) := by rw [IntWalk.i64_in _ (by omega)]; omega
                clear hE e1 hstep hnode c2 c3
                generalize cF cl path q = s at *
                go_wp2_with fail
                go_roundw
                case rel => exact ⟨q - 1, l, by omega, by go_num, hlen, r2, r3, hst2, hst0, B⟩
                case measure => simp [intOf]; omega
            · obtain rfl : q = 0 := by omega
              have hl : l = treeL cl path v := by
                apply List.ext_getElem (by rw [hlen, treeL_len])
                intro j h1 h2
                have e : l[j] = l.getD j [] := by rw [List.getD_eq_getElem?_getD, List.getElem?_eq_getElem h1]; rfl
                rw [e]
                by_cases e0 : j = 0
                · subst e0; rw [hL0.out]; simp [treeL]
                · rw [hL.out j (by omega) (by omega), if_pos (by omega)]; simp [treeL]; omega
              rw [hl] at r3
              have s2 := Lib.hid r2
              have s3 := Lib.hid r3
              have z1 := Lib.hid (size70l _ (treeL_len cl path v))
              have z2 := Lib.hid (size_eq emp2 (treeL cl path v) (by rw [treeL_len]; rfl))
              clear r2 r3 hl hL hL0 hlen
              go_wp2_with (first
                | (refine wpList_load_row rfl 70 (.tmp 7) rfl (W0.heap.size + 1 + 1) rfl 70 (cT (treeL cl path v)).toArray (0, 0) _ s3.out Tryd.underlying70 rfl z1.out ?_)
                | (refine wpList_store_row rfl 70 (.tmp 6) (.tmp 64) rfl (W0.heap.size + 1) (cT (treeL cl path v)).toArray rfl rfl 70 _ s2.out z1.out z2.out (cT_all _) ?_))
              refine bodyPost_ret (v := _) (results_cell_row (fn := Tryd.f37) rfl _ _ (W0.heap.size + 1) 70 _ (0, 0) _ rfl (setRow_heap _ _ _ _ _ _ s2.out) Tryd.underlying70 rfl z1.out) rfl ⟨rfl, ?_⟩
              exact below_setRow B (by omega) _
end Go.Proofs.YtegahpfmkepfmaaDoor
