/- The reference's small functions. -/
import Derived.Test.YtegahpfmkepfmaaDoorPl
import Derived.Test.YtegahpfmkepfmaaDoorWa
namespace Go.Proofs.YtegahpfmkepfmaaDoor
open Go.RowKit
theorem ret_str {a b : Str} (h : a = b) : Ending.returned (.string ⟨a.toArray⟩) = .returned (.string ⟨b.toArray⟩) := by rw [h]
/-- make([]byte, 32), and the text of it -/
theorem zero_run : ∃ M : Array Value, (∀ W : World, (Instr.makeSlice 93 (.int .i64 32) (.int .i64 32)).run Tryd.prog W = .ok (.slice (some ⟨W.heap.size, 0, none⟩) 32 32) (W.alloc (.cells M 5))) ∧
    ∀ W : World, (convert 93 9 (.slice (some ⟨W.heap.size, 0, none⟩) 32 32)).run Tryd.prog (W.alloc (.cells M 5)) = .ok (.string ⟨zero32.toArray⟩) (W.alloc (.cells M 5)) := by
  obtain ⟨i0, hi, hz0, hz1, hz2⟩ := info_parts infoU8
  refine ⟨madeCells (Value.int .u8 0).cells 32, fun W => ?_, fun W => ?_⟩
  · have h := run_make (P := Tryd.prog) W 93 5 i0 (.int .u8 0) Tryd.underlying93 hi hz0 .i64 .i64 32 32 (by omega) (by omega) (by rw [hz2]; omega) (by omega)
    rw [hz1] at h
    simpa using h
  · have h := run_convert_bytes_back (P := Tryd.prog) (W.alloc (.cells (madeCells (Value.int .u8 0).cells 32) 5)) 93 9 5 ⟨W.heap.size, 0, none⟩ 32 zero32 Tryd.underlying93 Tryd.underlying5 Tryd.underlying9 (fun j hj => by
      have hj2 : j < 32 := by simpa [zero32] using hj
      rw [Addr.add_lit, World.cell?_alloc_at _ _ _ _ rfl]
      have e : madeCells (Value.int .u8 0).cells 32 = Array.replicate 32 (.int .u8 0) := by kernel_rfl
      have e2 : zero32[j]'hj = 0 := List.eq_of_mem_replicate (n := 32) (List.getElem_mem hj)
      rw [e, show ((zero32[j]'hj).toNat : Int) = ((0 : UInt8).toNat : Int) from by rw [e2], Nat.zero_add, Array.getElem?_replicate, if_pos hj2]
      rfl)
    exact h

theorem Zero_any (w : World) : Calls Tryd.prog 34 #[] w fun e w' => e = .returned (.string ⟨zero32.toArray⟩) ∧ Below w.heap.size w w' := by
  obtain ⟨M, z1, z2⟩ := zero_run
  have hB : Below w.heap.size w (w.alloc (.cells M 5)) := (Below.refl _ w).alloc (Nat.le_refl _) _
  go_enter Tryd.func34, Tryd.ntmps34
  go_wp2_with fail
  go_ret
  exact ⟨rfl, hB⟩

set_option maxRecDepth 100000 in
set_option maxHeartbeats 1000000 in
theorem At_any (v : Value) (l : List Ent) (x : Int) (w : World) {W0 : World} (hv : SE W0 v l) (hW : W0 = w) (hn : l.length ≤ 140737488351232) : Calls Tryd.prog 29 #[v, .int .i64 x] w fun e w' => e = .returned (.string ⟨(lookE l x).toArray⟩) ∧ w = w' := by
  subst hW
  obtain ⟨N, hN⟩ : ∃ N, Hid (N = l.length) := ⟨_, rfl⟩
  have hc := Lib.hid (show ∀ (k : Nat) (hk : k < l.length), _ from fun k hk => SE.at hv k hk)
  obtain ⟨a, c, rfl⟩ := hv.shape
  rw [← hN.out] at hn ⊢
  clear hv
  have h0 : Hid (lookE l x = lookE (l.drop 0) x) := rfl
  generalize hR : lookE l x = R at *
  have hRh := Lib.hid hR
  clear hR
  go_enter Tryd.func29, Tryd.ntmps29
  go_wp2_with fail
  go_loop [5] (fun i => ∃ k : Nat, k ≤ N ∧ i = .int .i64 k ∧ Hid (R = lookE (l.drop k) x)) (fun i => N - (intOf i).toNat)
  case atStart => exact ⟨0, by omega, rfl, h0⟩
  case round =>
    clear h0
    obtain ⟨k, hk, rfl, hno⟩ := hrel
    by_cases hlt : k < N
    · have hkl : k < l.length := by rw [← hN.out]; exact hlt
      obtain ⟨b, o, c', he, hcell⟩ := hc.out k hkl
      injection he with he1 he2 he3
      subst he1
      obtain ⟨hcc1, hcc2⟩ := hcell W0 (Below.refl _ _)
      have hs : Hid (R = if l[k].1 = x then l[k].2 else lookE (l.drop (k + 1)) x) := by
        show _ = _
        rw [hno.out, List.drop_eq_getElem_cons hkl]; rfl
      clear hcell hno he2 he3
      have i0 : (0 : Int) ≤ (k : Int) := by omega
      have i1 : (k : Int) < (N : Int) := by omega
      generalize l[k] = u at *
      by_cases hx : u.1 = x
      · have t1 : (u.1 == x) = true := by simpa using hx
        have hs2 : Hid (u.2 = R) := by show _ = _; rw [hs.out, if_pos hx]
        clear hs hx
        go_wp2_with fail
        go_ret
        exact ⟨ret_str hs2.out, rfl⟩
      · have t1 : (u.1 == x) = false := by simpa using hx
        have hs2 : Hid (R = lookE (l.drop (k + 1)) x) := by show _ = _; rw [hs.out, if_neg hx]
        clear hs hx
        go_wp2_with fail
        go_round
        case rel => exact ⟨k + 1, by omega, by go_num, hs2⟩
        case measure => simp [intOf]; omega
    · have hres : Hid ([] = R) := by show _ = _; rw [hno.out, List.drop_of_length_le (by rw [← hN.out]; omega)]; rfl
      have i1 : ¬ (k : Int) < (N : Int) := by omega
      clear hno
      go_wp2_with fail
      go_ret
      exact ⟨ret_str hres.out, rfl⟩
theorem putE_done (l : List Ent) (k : Int) (v : Str) : putE l k v = if (l.foldl (putStep k v) ([], v.isEmpty)).2 = true then (l.foldl (putStep k v) ([], v.isEmpty)).1 else (l.foldl (putStep k v) ([], v.isEmpty)).1 ++ [(k, v)] := rfl
theorem put_snoc (l : List Ent) (k : Int) (v : Str) (i : Nat) (h : i < l.length) : (l.take (i + 1)).foldl (putStep k v) ([], v.isEmpty) = putStep k v ((l.take i).foldl (putStep k v) ([], v.isEmpty)) l[i] := by
  rw [List.take_succ_eq_append_getElem h, List.foldl_append]; rfl
theorem puts_len (l : List Ent) (k : Int) (v : Str) : (l.foldl (putStep k v) ([], v.isEmpty)).1.length ≤ 2 * l.length := by
  have key : ∀ (l : List Ent) (r : List Ent × Bool), (l.foldl (putStep k v) r).1.length ≤ r.1.length + 2 * l.length := by
    intro l
    induction l with
    | nil => intro r; simp
    | cons e t ih =>
      intro r
      rw [List.foldl_cons]
      have h1 := ih (putStep k v r e)
      have h2 : (putStep k v r e).1.length ≤ r.1.length + 2 := by
        unfold putStep; dsimp only
        split <;> split <;> simp
      simp only [List.length_cons]; omega
  have := key l ([], v.isEmpty)
  simpa using this
def RowE (l : List Ent) (w : World) (e : Ending) (w' : World) : Prop := ∃ v, e = .returned v ∧ OE w' w.heap.size v l ∧ Below w.heap.size w w'
/-- one entry more in a row of the call's own -/
theorem snocE2 (W : World) (base : Nat) (v : Value) (l : List Ent) (x : Ent) (h : OE W base v l) (hl : l.length ≤ 1000000000) (hb : base ≤ W.heap.size) :
    ∃ v' w', (∃ a k c, v' = .slice a k c) ∧ (Builtin.append_ #[23, 23] 23 #[v, .slice (some ⟨W.heap.size, 0, none⟩) 1 1]).run Tryd.prog (W.alloc (.cells #[.int .i64 x.1, .string ⟨x.2.toArray⟩] 46)) = .ok v' w' ∧ OE w' base v' (l ++ [x]) ∧ Below base W w' := by
  obtain ⟨v', w', hr, ho, hB⟩ := snocE W base v l x h hl hb
  obtain ⟨a, c, hsh⟩ := (OwnG.SL eE_len ho).shape
  exact ⟨v', w', ⟨a, _, c, hsh⟩, hr, ho, hB⟩

set_option maxRecDepth 100000 in
set_option maxHeartbeats 2000000 in
theorem Put_any (vl : Value) (l : List Ent) (k : Int) (v : Str) (w : World) {W0 : World} (hvl : SE W0 vl l) (hW : W0 = w) (hn : l.length ≤ 100000000) : Calls Tryd.prog 33 #[vl, .int .i64 k, .string ⟨v.toArray⟩] w (RowE (putE l k v) w) := by
  subst hW
  obtain ⟨N, hN⟩ : ∃ N, Hid (N = l.length) := ⟨_, rfl⟩
  have hc := Lib.hid (show ∀ (k : Nat) (hk : k < l.length), _ from fun k hk => SE.at hvl k hk)
  obtain ⟨a, c, rfl⟩ := hvl.shape
  rw [← hN.out] at hn ⊢
  clear hvl
  obtain ⟨d0, hd0⟩ : ∃ d0, Hid (d0 = v.isEmpty) := ⟨_, rfl⟩
  go_enter Tryd.func33, Tryd.ntmps33
  go_wp2_with fail
  go_loopw [7, 8, 9] (fun ov dv iv wr => ∃ i : Nat, i ≤ N ∧ iv = .int .i64 i ∧ ∃ L d, Hid ((l.take i).foldl (putStep k v) ([], v.isEmpty) = (L, d)) ∧ (∃ x1 x2 x3, ov = .slice x1 x2 x3) ∧ dv = .bool d ∧ OE wr W0.heap.size ov L ∧ Below W0.heap.size W0 wr) (fun _ _ iv _ => N - (intOf iv).toNat)
  case atStart => exact ⟨0, by omega, rfl, [], v.isEmpty, rfl, ⟨_, _, _, rfl⟩, rfl, OwnG.nil _ _, Below.refl _ _⟩
  case round =>
    obtain ⟨i, hi, rfl, L, d, hst, ⟨x1, x2, x3, rfl⟩, rfl, hown, B⟩ := hrel
    have hLl : L.length ≤ 2 * N := by
      have := puts_len (l.take i) k v
      rw [hst.out] at this
      have h2 := List.length_take_le i l
      simp only at this; omega
    by_cases hlt : i < N
    · have hil : i < l.length := by rw [← hN.out]; exact hlt
      obtain ⟨b, o, c', he, hcell⟩ := hc.out i hil
      injection he with he1 he2 he3
      subst he1
      obtain ⟨hcc1, hcc2⟩ := hcell wr B
      have hsn := put_snoc l k v i hil
      rw [hst.out] at hsn
      have hsnh := Lib.hid hsn
      have hcell2 := Lib.hid hcell
      clear hcell hst he2 he3 hsn
      have i0 : (0 : Int) ≤ (i : Int) := by omega
      have i1 : (i : Int) < (N : Int) := by omega
      generalize l[i] = u at *
      by_cases h1 : k < u.1 ∧ d = false
      · obtain ⟨h1a, rfl⟩ := h1
        have hne : u.1 ≠ k := by omega
        have hnew : Hid ((l.take (i + 1)).foldl (putStep k v) ([], v.isEmpty) = (L ++ [(k, v)] ++ [u], true)) := by
          show _ = _
          rw [hsnh.out]; unfold putStep; dsimp only
          rw [if_pos (show k < u.1 ∧ false = false from ⟨h1a, rfl⟩), if_pos hne]
        have t1 : (u.1 != k) = true := by simpa using hne
        have t2 : (u.1 == k) = false := by simpa using hne
        obtain ⟨v1, w1, ⟨y1, y2, y3, rfl⟩, hr1, o1, b1⟩ := snocE2 wr W0.heap.size _ L (k, v) hown (by omega) B.size
        have B1 : Below W0.heap.size W0 w1 := B.trans b1
        obtain ⟨hq1, hq2⟩ := hcell2.out w1 B1
        obtain ⟨v2, w2, ⟨z1, z2, z3, rfl⟩, hr2, o2, b2⟩ := snocE2 w1 W0.heap.size _ (L ++ [(k, v)]) u o1 (by simp; omega) B1.size
        have hend := Lib.hid (show OE w2 W0.heap.size (.slice z1 z2 z3) (L ++ [(k, v)] ++ [u]) ∧ Below W0.heap.size W0 w2 from ⟨o2, B1.trans b2⟩)
        clear hsnh hown B o1 o2 b1 b2 B1 hne hLl hcell2
        go_wp2_with (first
          | (at_builtin; refine wpList_append_runB rfl (.tmp 29) (.tmp 33) 23 rfl (.slice x1 x2 x3) (.slice (some ⟨wr.heap.size, 0, none⟩) 1 1) rfl rfl _ _ hr1 ?_)
          | (at_builtin; refine wpList_append_runB rfl (.tmp 42) (.tmp 47) 23 rfl (.slice y1 y2 y3) (.slice (some ⟨w1.heap.size, 0, none⟩) 1 1) rfl rfl _ _ hr2 ?_))
        go_roundw
        case rel => exact ⟨i + 1, by omega, by go_num, _, _, hnew, ⟨_, _, _, rfl⟩, rfl, hend.out⟩
        case measure => simp [intOf]; omega
      · by_cases hne : u.1 = k
        · have hnew : Hid ((l.take (i + 1)).foldl (putStep k v) ([], v.isEmpty) = (L, d)) := by
            show _ = _
            rw [hsnh.out]; unfold putStep; dsimp only
            rw [if_neg h1, if_neg (fun h => h hne)]
          have t1 : (u.1 != k) = false := by simpa using hne
          have t2 : (u.1 == k) = true := by simpa using hne
          have t3 : ¬ k < u.1 := by omega
          clear hsnh h1 hne hLl hcell2
          go_wp2_with fail
          go_roundw
          case rel => exact ⟨i + 1, by omega, by go_num, _, _, hnew, ⟨_, _, _, rfl⟩, rfl, hown, B⟩
          case measure => simp [intOf]; omega
        · have hnew : Hid ((l.take (i + 1)).foldl (putStep k v) ([], v.isEmpty) = (L ++ [u], d)) := by
            show _ = _
            rw [hsnh.out]; unfold putStep; dsimp only
            rw [if_neg h1, if_pos hne]
          have t1 : (u.1 != k) = true := by simpa using hne
          have t2 : (u.1 == k) = false := by simpa using hne
          obtain ⟨v2, w2, ⟨z1, z2, z3, rfl⟩, hr2, o2, b2⟩ := snocE2 wr W0.heap.size _ L u hown (by omega) B.size
          have hend := Lib.hid (show OE w2 W0.heap.size (.slice z1 z2 z3) (L ++ [u]) ∧ Below W0.heap.size W0 w2 from ⟨o2, B.trans b2⟩)
          clear hsnh hown B o2 b2 hne hLl hcell2
          by_cases h2 : k < u.1
          · have hd : d = true := by cases d with | true => rfl | false => exact absurd ⟨h2, rfl⟩ h1
            subst hd
            clear h1
            go_wp2_with (at_builtin; refine wpList_append_runB rfl (.tmp 42) (.tmp 47) 23 rfl (.slice x1 x2 x3) (.slice (some ⟨wr.heap.size, 0, none⟩) 1 1) rfl rfl _ _ hr2 ?_)
            go_roundw
            case rel => exact ⟨i + 1, by omega, by go_num, _, _, hnew, ⟨_, _, _, rfl⟩, rfl, hend.out⟩
            case measure => simp [intOf]; omega
          · clear h1
            go_wp2_with (at_builtin; refine wpList_append_runB rfl (.tmp 42) (.tmp 47) 23 rfl (.slice x1 x2 x3) (.slice (some ⟨wr.heap.size, 0, none⟩) 1 1) rfl rfl _ _ hr2 ?_)
            go_roundw
            case rel => exact ⟨i + 1, by omega, by go_num, _, _, hnew, ⟨_, _, _, rfl⟩, rfl, hend.out⟩
            case measure => simp [intOf]; omega
    · have hfull : l.take i = l := List.take_of_length_le (by rw [← hN.out]; omega)
      have hst2 : Hid (l.foldl (putStep k v) ([], v.isEmpty) = (L, d)) := by show _ = _; rw [← hst.out, hfull]
      have i1 : ¬ (i : Int) < (N : Int) := by omega
      clear hfull hst
      cases d with
      | true =>
        have hp : Hid (putE l k v = L) := by show _ = _; rw [putE_done, hst2.out]; rfl
        clear hst2
        go_wp2_with fail
        go_ret
        exact ⟨_, rfl, by rw [hp.out]; exact hown, B⟩
      | false =>
        have hp : Hid (putE l k v = L ++ [(k, v)]) := by show _ = _; rw [putE_done, hst2.out]; rfl
        obtain ⟨v1, w1, ⟨y1, y2, y3, rfl⟩, hr1, o1, b1⟩ := snocE2 wr W0.heap.size _ L (k, v) hown (by omega) B.size
        have hend := Lib.hid (show OE w1 W0.heap.size (.slice y1 y2 y3) (L ++ [(k, v)]) ∧ Below W0.heap.size W0 w1 from ⟨o1, B.trans b1⟩)
        clear hst2 hown B o1 b1
        go_wp2_with (at_builtin; refine wpList_append_runB rfl (.tmp 51) (.tmp 55) 23 rfl (.slice x1 x2 x3) (.slice (some ⟨wr.heap.size, 0, none⟩) 1 1) rfl rfl _ _ hr1 ?_)
        go_ret
        exact ⟨_, rfl, by rw [hp.out]; exact hend.out.1, hend.out.2⟩
end Go.Proofs.YtegahpfmkepfmaaDoor
