/- The values at keys: with, fold. -/
import Derived.Test.YtegahpfmkepfmaaDoorSa
import Derived.Test.YtegahpfmkepfmaaDoorSch
import Derived.Test.YtegahpfmkepfmaaDoorSum
import Derived.Deep.Cut
namespace Go.Proofs.YtegahpfmkepfmaaDoor
open Go.RowKit
/-- the cells of texts -/
def cT (l : List Str) : List Value := l.map fun u => Value.string ⟨u.toArray⟩
theorem cT_set (l : List Str) (i : Nat) (s : Str) : (cT l).toArray.setIfInBounds i (.string ⟨s.toArray⟩) = (cT (l.set i s)).toArray := by
  simp [cT, List.map_set]
theorem cT_all (l : List Str) : (cT l).toArray.all (·.oneCell') = true := by simp [cT, Value.oneCell']
theorem cT_size (l : List Str) : (cT l).toArray.size = l.length := by simp [cT]
theorem cT_at (l : List Str) (i : Nat) (h : i < l.length) : (cT l).toArray[i]? = some (.string ⟨(l.getD i []).toArray⟩) := by
  simp [cT, List.getD, List.getElem?_eq_getElem h]
/-- the block b holds the texts l, in an array of the type t -/
def RowT (t : TypeId) (W : World) (b : Nat) (l : List Str) : Prop := W.heap[b]? = some (.cells (cT l).toArray t (0, 0))
theorem RowT.cell {t : TypeId} {W : World} {b : Nat} {l : List Str} (h : RowT t W b l) (i : Nat) (hi : i < l.length) : W.cell? ⟨b, i, none⟩ = some (.string ⟨(l.getD i []).toArray⟩) := by
  rw [cell_of_row _ _ _ _ _ _ h, cT_at l i hi]
theorem RowT.free {t : TypeId} {W : World} {b : Nat} {l : List Str} (h : RowT t W b l) (i : Nat) : W.frozen? ⟨b, i, none⟩ = false := by
  unfold RowT at h
  simp [World.frozen?, h]
theorem RowT.set {t : TypeId} {W : World} {b : Nat} {l : List Str} (h : RowT t W b l) (i : Nat) (s : Str) : RowT t (W.setCell ⟨b, i, none⟩ (.string ⟨s.toArray⟩)) b (l.set i s) := by
  unfold RowT at h ⊢
  rw [setCell_eq_setRow _ _ _ _ _ _ _ h, setRow_heap _ _ _ _ _ _ h, ← cT_set]
theorem RowT.below {t : TypeId} {W W' : World} {b n : Nat} {l : List Str} (h : RowT t W b l) (B : Below n W W') (hb : b < n) : RowT t W' b l := by
  unfold RowT at h ⊢
  rw [B.block b hb]; exact h
theorem RowT.lt {t : TypeId} {W : World} {b : Nat} {l : List Str} (h : RowT t W b l) : b < W.heap.size := (Array.getElem?_eq_some_iff.1 h).1
theorem RowT.other {t : TypeId} {W : World} {b g i : Nat} {l : List Str} {v : Value} (h : RowT t W b l) (hg : g ≠ b) : RowT t (W.setCell ⟨g, i, none⟩ v) b l := by
  unfold RowT at h ⊢
  simp [World.setCell, Array.getElem?_modify, hg, h]
def emp : List Str := List.replicate 64 []
theorem z64s : (#[.string ⟨#[]⟩, .string ⟨#[]⟩, .string ⟨#[]⟩, .string ⟨#[]⟩, .string ⟨#[]⟩, .string ⟨#[]⟩, .string ⟨#[]⟩, .string ⟨#[]⟩, .string ⟨#[]⟩, .string ⟨#[]⟩, .string ⟨#[]⟩, .string ⟨#[]⟩, .string ⟨#[]⟩, .string ⟨#[]⟩, .string ⟨#[]⟩, .string ⟨#[]⟩, .string ⟨#[]⟩, .string ⟨#[]⟩, .string ⟨#[]⟩, .string ⟨#[]⟩, .string ⟨#[]⟩, .string ⟨#[]⟩, .string ⟨#[]⟩, .string ⟨#[]⟩, .string ⟨#[]⟩, .string ⟨#[]⟩, .string ⟨#[]⟩, .string ⟨#[]⟩, .string ⟨#[]⟩, .string ⟨#[]⟩, .string ⟨#[]⟩, .string ⟨#[]⟩, .string ⟨#[]⟩, .string ⟨#[]⟩, .string ⟨#[]⟩, .string ⟨#[]⟩, .string ⟨#[]⟩, .string ⟨#[]⟩, .string ⟨#[]⟩, .string ⟨#[]⟩, .string ⟨#[]⟩, .string ⟨#[]⟩, .string ⟨#[]⟩, .string ⟨#[]⟩, .string ⟨#[]⟩, .string ⟨#[]⟩, .string ⟨#[]⟩, .string ⟨#[]⟩, .string ⟨#[]⟩, .string ⟨#[]⟩, .string ⟨#[]⟩, .string ⟨#[]⟩, .string ⟨#[]⟩, .string ⟨#[]⟩, .string ⟨#[]⟩, .string ⟨#[]⟩, .string ⟨#[]⟩, .string ⟨#[]⟩, .string ⟨#[]⟩, .string ⟨#[]⟩, .string ⟨#[]⟩, .string ⟨#[]⟩, .string ⟨#[]⟩, .string ⟨#[]⟩] : Array Value) = (cT emp).toArray := rfl
theorem size73 : (Tryd.prog.info? 73).map (·.size) = some 64 := by kernel_rfl
theorem size73l (l : List Str) (h : l.length = 64) : (Tryd.prog.info? 73).map (·.size) = some (cT l).toArray.size := by rw [cT_size, h]; exact size73
theorem size_eq (l m : List Str) (h : l.length = m.length) : (cT l).toArray.size = (cT m).toArray.size := by rw [cT_size, cT_size, h]

set_option maxRecDepth 100000 in
set_option maxHeartbeats 1000000 in
theorem with_any (v : List Str) (k : Nat) (s : Str) (w : World) (hv : v.length = 64) (hk : k < 64) :
    Calls Tryd.prog 39 #[.agg (cT v).toArray, .agg #[.int .i64 (k : Int), .string ⟨s.toArray⟩]] w fun e w' => e = .returned (.agg (cT (v.set k s)).toArray) ∧ Below w.heap.size w w' := by
  have hv2 := Lib.hid hv
  clear hv
  go_enter Tryd.func39, Tryd.ntmps39
  go_upto_region 1 with (fail)
  rw [z64s]
  obtain ⟨w0, hw0⟩ : ∃ w0, w0 = ((w.alloc (.cells (cT v).toArray 73)).alloc (.cells #[.int .i64 (k : Int), .string ⟨s.toArray⟩] 46)).alloc (.cells (cT emp).toArray 73) := ⟨_, rfl⟩
  rw [← hw0]
  obtain ⟨hsz, B0, hh1, hh2, hh3⟩ := three_world w w0 _ _ _ _ _ _ hw0
  clear hw0
  have c1 : w0.cell? ⟨w.heap.size + 1, 0, none⟩ = some (.int .i64 (k : Int)) := by rw [cell_of_row _ _ _ _ _ _ hh2]; rfl
  have c2 : w0.cell? ⟨w.heap.size + 1, 1, none⟩ = some (.string ⟨s.toArray⟩) := by rw [cell_of_row _ _ _ _ _ _ hh2]; rfl
  have r1 : RowT 73 w0 w.heap.size v := hh1
  have r3 : RowT 73 w0 (w.heap.size + 1 + 1) emp := hh3
  have f1 := r1.free k
  have c3 : w0.cell? ⟨w.heap.size, k, none⟩ = some (.string ⟨(v.getD k []).toArray⟩) := r1.cell k (by rw [hv2.out]; exact hk)
  have s1 := Lib.hid (r1.set k s)
  have s3 := Lib.hid (r3.other (g := w.heap.size) (i := k) (v := .string ⟨s.toArray⟩) (by omega))
  have hl1 : (v.set k s).length = 64 := by rw [List.length_set]; exact hv2.out
  have z1 := Lib.hid (size73l _ hl1)
  have z2 := Lib.hid (size_eq emp (v.set k s) (by rw [hl1]; rfl))
  have B1 := Lib.hid (B0.setCell (p := ⟨w.heap.size, k, none⟩) (by simp) (.string ⟨s.toArray⟩))
  clear hl1 r1 r3 hh1 hh2 hh3 B0 hsz
  generalize (v.getD k []) = old at *
  generalize hw1 : w0.setCell ⟨w.heap.size, k, none⟩ (.string ⟨s.toArray⟩) = w1 at *
  have hw1' := Lib.hid hw1
  clear hw1
  go_upto_region 2 with (fail)
  rw [hw1'.out]
  go_wp2_with (first
    | (refine wpList_load_row rfl 73 (.tmp 2) rfl w.heap.size rfl 73 (cT (v.set k s)).toArray (0, 0) _ s1.out Tryd.underlying73 rfl z1.out ?_)
    | (refine wpList_store_row rfl 73 (.tmp 4) (.tmp 10) rfl (w.heap.size + 1 + 1) (cT (v.set k s)).toArray rfl rfl 73 _ s3.out z1.out z2.out (cT_all _) ?_))
  refine bodyPost_ret (v := _) (results_cell_row (fn := Tryd.f39) rfl _ _ (w.heap.size + 1 + 1) 73 _ (0, 0) _ rfl (setRow_heap _ _ _ _ _ _ s3.out) Tryd.underlying73 rfl z1.out) rfl ⟨rfl, ?_⟩
  exact below_setRow B1.out (by omega) _

/-- the values after the entries have been put, one after the other -/
def putV (v : List Str) (l : List Ent) : List Str := l.foldl (fun v e => v.set e.1.toNat e.2) v
theorem putV_len (v : List Str) (l : List Ent) : (putV v l).length = v.length := by
  unfold putV
  induction l generalizing v with
  | nil => rfl
  | cons e t ih => rw [List.foldl_cons, ih, List.length_set]
theorem putV_snoc (v : List Str) (l : List Ent) (k : Nat) (h : k < l.length) : putV v (l.take (k + 1)) = (putV v (l.take k)).set l[k].1.toNat l[k].2 := by
  unfold putV
  rw [List.take_succ_eq_append_getElem h, List.foldl_append]; rfl
theorem RowT.alloc {t : TypeId} {W : World} {b : Nat} {l : List Str} (h : RowT t W b l) (o : Obj) : RowT t (W.alloc o) b l := by
  unfold RowT at h ⊢
  exact (heap_alloc_old W o (Array.getElem?_eq_some_iff.1 h).1).trans h
theorem RowT.setRow {t : TypeId} {W : World} {b : Nat} {l : List Str} (h : RowT t W b l) (m : List Str) : RowT t (W.setRow b (cT m).toArray) b m := setRow_heap _ _ _ _ _ _ h
theorem RowT.setRow_other {t : TypeId} {W : World} {b g : Nat} {l : List Str} (h : RowT t W b l) (m : List Str) (hg : b ≠ g) : RowT t (W.setRow g (cT m).toArray) b l := by
  unfold RowT at h ⊢
  rw [Go.setRow_other _ _ _ _ hg]; exact h

set_option maxRecDepth 100000 in
set_option maxHeartbeats 1000000 in
theorem fold_any (vl : Value) (l : List Ent) (v : List Str) (w : World) {W0 : World} (hvl : SE W0 vl l) (hW : W0 = w) (hn : l.length ≤ 1000000000) (hv : v.length = 64) (hk : ∀ e ∈ l, 0 ≤ e.1 ∧ e.1 < 64) :
    Calls Tryd.prog 38 #[vl, .agg (cT v).toArray, .func (.func 39) #[] #[]] w fun e w' => e = .returned (.agg (cT (putV v l)).toArray) ∧ Below w.heap.size w w' := by
  subst hW
  obtain ⟨N, hN⟩ : ∃ N, Hid (N = l.length) := ⟨_, rfl⟩
  have hc := Lib.hid (show ∀ (k : Nat) (hk : k < l.length), _ from fun k hk => SE.at hvl k hk)
  have hk2 := Lib.hid hk
  have hv2 := Lib.hid hv
  obtain ⟨a, c, rfl⟩ := hvl.shape
  rw [← hN.out] at hn ⊢
  clear hvl hk hv
  go_enter Tryd.func38, Tryd.ntmps38
  go_upto_region 1 with (fail)
  rw [z64s]
  obtain ⟨w0, hw0⟩ : ∃ w0, w0 = (W0.alloc (.cells (cT v).toArray 73)).alloc (.cells (cT emp).toArray 73) := ⟨_, rfl⟩
  rw [← hw0]
  obtain ⟨hsz, B0, hh1, hh2⟩ := two_world W0 w0 _ _ _ _ hw0
  clear hw0
  have r1 : RowT 73 w0 W0.heap.size v := hh1
  have r2 : RowT 73 w0 (W0.heap.size + 1) emp := hh2
  clear hh1 hh2 hsz
  go_wp2_with fail
  go_loopw [11] (fun i wr => ∃ k : Nat, k ≤ N ∧ i = .int .i64 k ∧ RowT 73 wr W0.heap.size (putV v (l.take k)) ∧ RowT 73 wr (W0.heap.size + 1) emp ∧ Below W0.heap.size W0 wr) (fun i _ => N - (intOf i).toNat)
  case atStart => exact ⟨0, by omega, rfl, r1, r2, B0⟩
  case round =>
    clear r1 r2 B0
    obtain ⟨k, hk, rfl, r1, r2, B⟩ := hrel
    have hlen : (putV v (l.take k)).length = 64 := by rw [putV_len]; exact hv2.out
    by_cases hlt : k < N
    · have hkl : k < l.length := by rw [← hN.out]; exact hlt
      obtain ⟨b, o, c', he, hcell⟩ := hc.out k hkl
      injection he with he1 he2 he3
      subst he1
      obtain ⟨hcc1, hcc2⟩ := hcell wr B
      have hke := hk2.out l[k] (List.getElem_mem hkl)
      have hst := putV_snoc v l k hkl
      clear hcell he2 he3
      have i0 : (0 : Int) ≤ (k : Int) := by omega
      have i1 : (k : Int) < (N : Int) := by omega
      generalize l[k] = u at *
      obtain ⟨q, hq⟩ : ∃ q : Nat, u.1 = (q : Int) := ⟨u.1.toNat, by omega⟩
      have hq64 : q < 64 := by omega
      rw [hq] at hcc1 hst
      rw [Int.toNat_natCast] at hst
      have hst2 := Lib.hid hst
      clear hst hke hq
      generalize u.2 = s at *
      generalize putV v (l.take k) = p at *
      go_upto_region 4 with (fail)
      have r1' := Lib.hid (r1.alloc (.cells #[.int .i64 (q : Int), .string ⟨s.toArray⟩] 46))
      have r2' := Lib.hid (r2.alloc (.cells #[.int .i64 (q : Int), .string ⟨s.toArray⟩] 46))
      have B' := Lib.hid (B.alloc B.size (.cells #[.int .i64 (q : Int), .string ⟨s.toArray⟩] 46))
      have z1 := Lib.hid (size73l p hlen)
      have hnew := heap_alloc_new wr (.cells #[.int .i64 (q : Int), .string ⟨s.toArray⟩] 46)
      have d1 : (wr.alloc (.cells #[.int .i64 (q : Int), .string ⟨s.toArray⟩] 46)).cell? ⟨wr.heap.size, 0, none⟩ = some (.int .i64 (q : Int)) := by rw [cell_of_row _ _ _ _ _ _ hnew]; rfl
      have d2 : (wr.alloc (.cells #[.int .i64 (q : Int), .string ⟨s.toArray⟩] 46)).cell? ⟨wr.heap.size, 1, none⟩ = some (.string ⟨s.toArray⟩) := by rw [cell_of_row _ _ _ _ _ _ hnew]; rfl
      clear hnew r1 r2 B
      generalize (wr.alloc (.cells #[.int .i64 (q : Int), .string ⟨s.toArray⟩] 46)) = W at *
      have hcall := Lib.hid (with_any p q s W hlen hq64)
      have z2 := Lib.hid (size73l (p.set q s) (by rw [List.length_set]; exact hlen))
      have z3 := Lib.hid (size_eq p (p.set q s) (by rw [List.length_set]))
      have r1lt := Lib.hid r1'.out.lt
      have r2lt := Lib.hid r2'.out.lt
      clear hlen
      go_wp2_with (refine wpList_load_row rfl 73 (.tmp 4) rfl W0.heap.size rfl 73 (cT p).toArray (0, 0) _ r1'.out Tryd.underlying73 rfl z1.out ?_)
      refine hcall.out.mono ?_
      rintro e W2 ⟨rfl, b2⟩
      have q1 := Lib.hid (r1'.out.below b2 r1lt.out)
      have q2 := Lib.hid (r2'.out.below b2 r2lt.out)
      have B2 := Lib.hid (B'.out.trans (b2.mono B'.out.size))
      clear b2
      go_wp2_with (refine wpList_store_row rfl 73 (.tmp 4) (.tmp 18) rfl W0.heap.size (cT (p.set q s)).toArray rfl rfl 73 _ q1.out z2.out z3.out (cT_all _) ?_)
      go_roundw
      case rel => exact ⟨k + 1, by omega, by go_num, by rw [hst2.out]; exact q1.out.setRow _, q2.out.setRow_other _ (by omega), below_setRow B2.out (by omega) _⟩
      case measure => simp [intOf]; omega
    · have hres : putV v (l.take k) = putV v l := by rw [List.take_of_length_le (by rw [← hN.out]; omega)]
      rw [hres] at r1 hlen
      have i1 : ¬ (k : Int) < (N : Int) := by omega
      have s1 := Lib.hid r1
      have s2 := Lib.hid r2
      have z1 := Lib.hid (size73l _ hlen)
      have z2 := Lib.hid (size_eq emp (putV v l) (by rw [hlen]; rfl))
      clear hres r1 r2 hlen
      go_wp2_with (first
        | (refine wpList_load_row rfl 73 (.tmp 4) rfl W0.heap.size rfl 73 (cT (putV v l)).toArray (0, 0) _ s1.out Tryd.underlying73 rfl z1.out ?_)
        | (refine wpList_store_row rfl 73 (.tmp 6) (.tmp 20) rfl (W0.heap.size + 1) (cT (putV v l)).toArray rfl rfl 73 _ s2.out z1.out z2.out (cT_all _) ?_))
      refine bodyPost_ret (v := _) (results_cell_row (fn := Tryd.f38) rfl _ _ (W0.heap.size + 1) 73 _ (0, 0) _ rfl (setRow_heap _ _ _ _ _ _ s2.out) Tryd.underlying73 rfl z1.out) rfl ⟨rfl, ?_⟩
      exact below_setRow B (by omega) _
end Go.Proofs.YtegahpfmkepfmaaDoor
