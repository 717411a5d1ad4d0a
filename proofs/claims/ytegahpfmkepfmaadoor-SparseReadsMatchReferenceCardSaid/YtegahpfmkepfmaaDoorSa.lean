/- What sparse asks of lists of keys and entries: ascending, short, not empty. -/
import Derived.Test.YtegahpfmkepfmaaDoorGen
import Derived.Lib.Hide
import Derived.Outline
import Derived.WalkSpells
namespace Go.Proofs.YtegahpfmkepfmaaDoor
open Go.RowKit

theorem SI.at {W : World} {v : Value} {l : List Int} (h : SI W v l) (k : Nat) (hk : k < l.length) : ∃ b o c, v = .slice (some ⟨b, o, none⟩) l.length c ∧ ∀ W', Below W.heap.size W W' → W'.cell? ⟨b, o + k, none⟩ = some (.int .i64 l[k]) := by
  obtain ⟨b, o, c, h1, _, h3⟩ := SLG.cells h k hk
  exact ⟨b, o, c, h1, fun W' B => by simpa using h3 W' B 0 (.int .i64 l[k]) rfl⟩
theorem SS.at {W : World} {v : Value} {l : List Str} (h : SS W v l) (k : Nat) (hk : k < l.length) : ∃ b o c, v = .slice (some ⟨b, o, none⟩) l.length c ∧ ∀ W', Below W.heap.size W W' → W'.cell? ⟨b, o + k, none⟩ = some (.string ⟨l[k].toArray⟩) := by
  obtain ⟨b, o, c, h1, _, h3⟩ := SLG.cells h k hk
  exact ⟨b, o, c, h1, fun W' B => by simpa using h3 W' B 0 (.string ⟨l[k].toArray⟩) rfl⟩
theorem SE.at {W : World} {v : Value} {l : List Ent} (h : SE W v l) (k : Nat) (hk : k < l.length) : ∃ b o c, v = .slice (some ⟨b, o, none⟩) l.length c ∧ ∀ W', Below W.heap.size W W' → W'.cell? ⟨b, o + k * 2, none⟩ = some (.int .i64 l[k].1) ∧ W'.cell? ⟨b, o + k * 2 + 1, none⟩ = some (.string ⟨l[k].2.toArray⟩) := by
  obtain ⟨b, o, c, h1, _, h3⟩ := SLG.cells h k hk
  exact ⟨b, o, c, h1, fun W' B => ⟨by simpa using h3 W' B 0 (.int .i64 l[k].1) rfl, h3 W' B 1 (.string ⟨l[k].2.toArray⟩) rfl⟩⟩

theorem ret_bool {a b : Bool} (h : a = b) : Ending.returned (.bool a) = .returned (.bool b) := by rw [h]
/-- too long for a value? -/
def tl (s : Str) : Bool := decide (65536 < s.length)
def noD (s : Str) : Bool := decide (s.length ≠ 32)
theorem tooLong_any (s : Str) (w : World) : Calls Tryd.prog 67 #[.string ⟨s.toArray⟩] w fun e w' => e = .returned (.bool (tl s)) ∧ w = w' := by
  go_enter Tryd.func67, Tryd.ntmps67
  go_wp2_with fail
  go_ret
  exact ⟨ret_bool (by rw [tl, Bool.eq_iff_iff]; simp; omega), rfl⟩
theorem noDigest_any (s : Str) (w : World) : Calls Tryd.prog 89 #[.string ⟨s.toArray⟩] w fun e w' => e = .returned (.bool (noD s)) ∧ w = w' := by
  go_enter Tryd.func89, Tryd.ntmps89
  go_wp2_with fail
  go_ret
  exact ⟨ret_bool (by rw [noD, Bool.eq_iff_iff]; simp; omega), rfl⟩
def noV (e : Ent) : Bool := e.2 == []
def tlE (e : Ent) : Bool := tl e.2
theorem noV_any (e : Ent) (w : World) : Calls Tryd.prog 43 #[.agg #[.int .i64 e.1, .string ⟨e.2.toArray⟩]] w fun x w' => x = .returned (.bool (noV e)) ∧ Below w.heap.size w w' := by
  have B1 : Below w.heap.size w (w.alloc (.cells #[.int .i64 e.1, .string ⟨e.2.toArray⟩] 46)) := (Below.refl _ w).alloc (Nat.le_refl _) _
  go_enter Tryd.func43, Tryd.ntmps43
  go_wp2_with fail
  go_ret
  exact ⟨ret_bool (by rw [noV, Bool.eq_iff_iff]; simp), B1⟩
theorem tlE_any (e : Ent) (w : World) : Calls Tryd.prog 66 #[.agg #[.int .i64 e.1, .string ⟨e.2.toArray⟩]] w fun x w' => x = .returned (.bool (tlE e)) ∧ Below w.heap.size w w' := by
  have B1 : Below w.heap.size w (w.alloc (.cells #[.int .i64 e.1, .string ⟨e.2.toArray⟩] 46)) := (Below.refl _ w).alloc (Nat.le_refl _) _
  have h := Lib.hid (fun w' => tooLong_any e.2 w')
  go_enter Tryd.func66, Tryd.ntmps66
  go_wp2_with fail
  refine (h.out _).mono ?_
  rintro x w' ⟨rfl, rfl⟩
  go_wp2_with fail
  go_ret
  exact ⟨rfl, B1⟩
theorem keyE_any (e : Ent) (w : World) : Calls Tryd.prog 65 #[.agg #[.int .i64 e.1, .string ⟨e.2.toArray⟩]] w fun x w' => x = .returned (.int .i64 e.1) ∧ Below w.heap.size w w' := by
  have B1 : Below w.heap.size w (w.alloc (.cells #[.int .i64 e.1, .string ⟨e.2.toArray⟩] 46)) := (Below.refl _ w).alloc (Nat.le_refl _) _
  go_enter Tryd.func65, Tryd.ntmps65
  go_wp2_with fail
  go_ret
  exact ⟨rfl, B1⟩
theorem keyI_any (x : Int) (w : World) : Calls Tryd.prog 70 #[.int .i64 x] w fun e w' => e = .returned (.int .i64 x) ∧ Below w.heap.size w w' := by
  go_enter Tryd.func70, Tryd.ntmps70
  go_wp2_with fail
  go_ret
  exact ⟨rfl, Below.refl _ _⟩
theorem tooLongB (s : Str) (w : World) : Calls Tryd.prog 67 #[.string ⟨s.toArray⟩] w fun e w' => e = .returned (.bool (tl s)) ∧ Below w.heap.size w w' := (tooLong_any s w).mono fun _ _ h => ⟨h.1, h.2 ▸ Below.refl _ _⟩
theorem noDigestB (s : Str) (w : World) : Calls Tryd.prog 89 #[.string ⟨s.toArray⟩] w fun e w' => e = .returned (.bool (noD s)) ∧ Below w.heap.size w w' := (noDigest_any s w).mono fun _ _ h => ⟨h.1, h.2 ▸ Below.refl _ _⟩
def IdxPost (b : Bool) (w : World) (e : Ending) (w' : World) : Prop := ∃ r : Int, -1 ≤ r ∧ r ≤ 4611686018427387904 ∧ decide (0 ≤ r) = b ∧ e = .returned (.int .i64 r) ∧ Below w.heap.size w w'
theorem any_snoc {α : Type} (p : α → Bool) (l : List α) (k : Nat) (hk : k < l.length) (h : (l.take k).any p = false) : (l.take (k + 1)).any p = p l[k] := by
  rw [List.take_succ_eq_append_getElem hk, List.any_append, h]; simp
theorem any_of_take {α : Type} (p : α → Bool) (l : List α) (k : Nat) (h : (l.take k).any p = true) : l.any p = true := by
  rw [List.any_eq_true] at h ⊢
  obtain ⟨x, hx, hp⟩ := h
  exact ⟨x, List.mem_of_mem_take hx, hp⟩

set_option maxRecDepth 100000 in
set_option maxHeartbeats 1000000 in
theorem idxNoV (v : Value) (l : List Ent) (w : World) {W0 : World} (hv : SE W0 v l) (hW : W0 = w) (hn : l.length ≤ 140737488351232) : Calls Tryd.prog 68 #[v, .func (.func 43) #[] #[]] w (IdxPost (l.any noV) w) := by
  subst hW
  obtain ⟨N, hN⟩ : ∃ N, Hid (N = l.length) := ⟨_, rfl⟩
  have hc := Lib.hid (show ∀ (k : Nat) (hk : k < l.length), _ from fun k hk => SE.at hv k hk)
  obtain ⟨a, c, rfl⟩ := hv.shape
  rw [← hN.out] at hn ⊢
  clear hv
  go_enter Tryd.func68, Tryd.ntmps68
  go_wp2_with fail
  go_loopw [8] (fun i wr => ∃ k : Nat, k ≤ N ∧ i = .int .i64 k ∧ Hid ((l.take k).any noV = false) ∧ Below W0.heap.size W0 wr) (fun i _ => N - (intOf i).toNat)
  case atStart => exact ⟨0, by omega, rfl, rfl, Below.refl _ _⟩
  case round =>
    obtain ⟨k, hk, rfl, hno, B⟩ := hrel
    by_cases hlt : k < N
    · have hkl : k < l.length := by rw [← hN.out]; exact hlt
      obtain ⟨b, o, c', he, hcell⟩ := hc.out k hkl
      injection he with he1 he2 he3
      subst he1
      have hcc := hcell wr B
      have hs := Lib.hid (any_snoc noV l k hkl hno.out)
      have ht := Lib.hid (fun h => any_of_take noV l (k + 1) h)
      have hp := Lib.hid (fun w' => noV_any l[k] w')
      clear hcell hno he2 he3
      obtain ⟨hcc1, hcc2⟩ := hcc
      have i0 : (0 : Int) ≤ (k : Int) := by omega
      have i1 : (k : Int) < (N : Int) := by omega
      generalize l[k] = u at *
      cases hb : noV u with
      | true =>
        rw [hb] at hp hs
        have hres : l.any noV = true := ht.out hs.out
        rw [hres]
        clear hb hs ht hres
        go_wp2_with fail
        refine (hp.out _).mono ?_
        rintro e w2 ⟨rfl, b2⟩
        go_wp2_with fail
        go_ret
        exact ⟨(k : Int), by omega, by omega, by simp, rfl, B.trans (b2.mono B.size)⟩
      | false =>
        rw [hb] at hp hs
        clear hb ht
        go_wp2_with fail
        refine (hp.out _).mono ?_
        rintro e w2 ⟨rfl, b2⟩
        go_wp2_with fail
        go_roundw
        case rel => exact ⟨k + 1, by omega, by go_num, hs, B.trans (b2.mono B.size)⟩
        case measure => simp [intOf]; omega
    · have hres : l.any noV = false := by have h := hno.out; rwa [List.take_of_length_le (by rw [← hN.out]; omega)] at h
      have hres2 := Lib.hid hres
      have i1 : ¬ (k : Int) < (N : Int) := by omega
      clear hres hno
      go_wp2_with fail
      go_ret
      exact ⟨-1, by omega, by omega, by rw [hres2.out]; rfl, rfl, B⟩

theorem anyNoV (v : Value) (l : List Ent) (w : World) (hv : SE w v l) (hn : l.length ≤ 140737488351232) : Calls Tryd.prog 42 #[v, .func (.func 43) #[] #[]] w fun e w' => e = .returned (.bool (l.any noV)) ∧ Below w.heap.size w w' := by
  have h := Lib.hid (idxNoV v l w hv rfl hn)
  clear hv
  generalize l.any noV = r at *
  go_enter Tryd.func42, Tryd.ntmps42
  go_wp2_with fail
  refine h.out.mono ?_
  rintro e w2 ⟨x, x1, x2, hx, rfl, b2⟩
  go_wp2_with fail
  go_ret
  exact ⟨rfl, b2⟩

set_option maxRecDepth 100000 in
set_option maxHeartbeats 1000000 in
theorem idxTlE (v : Value) (l : List Ent) (w : World) {W0 : World} (hv : SE W0 v l) (hW : W0 = w) (hn : l.length ≤ 140737488351232) : Calls Tryd.prog 68 #[v, .func (.func 66) #[] #[]] w (IdxPost (l.any tlE) w) := by
  subst hW
  obtain ⟨N, hN⟩ : ∃ N, Hid (N = l.length) := ⟨_, rfl⟩
  have hc := Lib.hid (show ∀ (k : Nat) (hk : k < l.length), _ from fun k hk => SE.at hv k hk)
  obtain ⟨a, c, rfl⟩ := hv.shape
  rw [← hN.out] at hn ⊢
  clear hv
  go_enter Tryd.func68, Tryd.ntmps68
  go_wp2_with fail
  go_loopw [8] (fun i wr => ∃ k : Nat, k ≤ N ∧ i = .int .i64 k ∧ Hid ((l.take k).any tlE = false) ∧ Below W0.heap.size W0 wr) (fun i _ => N - (intOf i).toNat)
  case atStart => exact ⟨0, by omega, rfl, rfl, Below.refl _ _⟩
  case round =>
    obtain ⟨k, hk, rfl, hno, B⟩ := hrel
    by_cases hlt : k < N
    · have hkl : k < l.length := by rw [← hN.out]; exact hlt
      obtain ⟨b, o, c', he, hcell⟩ := hc.out k hkl
      injection he with he1 he2 he3
      subst he1
      have hcc := hcell wr B
      have hs := Lib.hid (any_snoc tlE l k hkl hno.out)
      have ht := Lib.hid (fun h => any_of_take tlE l (k + 1) h)
      have hp := Lib.hid (fun w' => tlE_any l[k] w')
      clear hcell hno he2 he3
      obtain ⟨hcc1, hcc2⟩ := hcc
      have i0 : (0 : Int) ≤ (k : Int) := by omega
      have i1 : (k : Int) < (N : Int) := by omega
      generalize l[k] = u at *
      cases hb : tlE u with
      | true =>
        rw [hb] at hp hs
        have hres : l.any tlE = true := ht.out hs.out
        rw [hres]
        clear hb hs ht hres
        go_wp2_with fail
        refine (hp.out _).mono ?_
        rintro e w2 ⟨rfl, b2⟩
        go_wp2_with fail
        go_ret
        exact ⟨(k : Int), by omega, by omega, by simp, rfl, B.trans (b2.mono B.size)⟩
      | false =>
        rw [hb] at hp hs
        clear hb ht
        go_wp2_with fail
        refine (hp.out _).mono ?_
        rintro e w2 ⟨rfl, b2⟩
        go_wp2_with fail
        go_roundw
        case rel => exact ⟨k + 1, by omega, by go_num, hs, B.trans (b2.mono B.size)⟩
        case measure => simp [intOf]; omega
    · have hres : l.any tlE = false := by have h := hno.out; rwa [List.take_of_length_le (by rw [← hN.out]; omega)] at h
      have hres2 := Lib.hid hres
      have i1 : ¬ (k : Int) < (N : Int) := by omega
      clear hres hno
      go_wp2_with fail
      go_ret
      exact ⟨-1, by omega, by omega, by rw [hres2.out]; rfl, rfl, B⟩

theorem anyTlE (v : Value) (l : List Ent) (w : World) (hv : SE w v l) (hn : l.length ≤ 140737488351232) : Calls Tryd.prog 42 #[v, .func (.func 66) #[] #[]] w fun e w' => e = .returned (.bool (l.any tlE)) ∧ Below w.heap.size w w' := by
  have h := Lib.hid (idxTlE v l w hv rfl hn)
  clear hv
  generalize l.any tlE = r at *
  go_enter Tryd.func42, Tryd.ntmps42
  go_wp2_with fail
  refine h.out.mono ?_
  rintro e w2 ⟨x, x1, x2, hx, rfl, b2⟩
  go_wp2_with fail
  go_ret
  exact ⟨rfl, b2⟩

set_option maxRecDepth 100000 in
set_option maxHeartbeats 1000000 in
theorem idxTl (v : Value) (l : List Str) (w : World) {W0 : World} (hv : SS W0 v l) (hW : W0 = w) (hn : l.length ≤ 140737488351232) : Calls Tryd.prog 96 #[v, .func (.func 67) #[] #[]] w (IdxPost (l.any tl) w) := by
  subst hW
  obtain ⟨N, hN⟩ : ∃ N, Hid (N = l.length) := ⟨_, rfl⟩
  have hc := Lib.hid (show ∀ (k : Nat) (hk : k < l.length), _ from fun k hk => SS.at hv k hk)
  obtain ⟨a, c, rfl⟩ := hv.shape
  rw [← hN.out] at hn ⊢
  clear hv
  go_enter Tryd.func96, Tryd.ntmps96
  go_wp2_with fail
  go_loopw [8] (fun i wr => ∃ k : Nat, k ≤ N ∧ i = .int .i64 k ∧ Hid ((l.take k).any tl = false) ∧ Below W0.heap.size W0 wr) (fun i _ => N - (intOf i).toNat)
  case atStart => exact ⟨0, by omega, rfl, rfl, Below.refl _ _⟩
  case round =>
    obtain ⟨k, hk, rfl, hno, B⟩ := hrel
    by_cases hlt : k < N
    · have hkl : k < l.length := by rw [← hN.out]; exact hlt
      obtain ⟨b, o, c', he, hcell⟩ := hc.out k hkl
      injection he with he1 he2 he3
      subst he1
      have hcc := hcell wr B
      have hs := Lib.hid (any_snoc tl l k hkl hno.out)
      have ht := Lib.hid (fun h => any_of_take tl l (k + 1) h)
      have hp := Lib.hid (fun w' => tooLongB l[k] w')
      clear hcell hno he2 he3
      skip
      have i0 : (0 : Int) ≤ (k : Int) := by omega
      have i1 : (k : Int) < (N : Int) := by omega
      generalize l[k] = u at *
      cases hb : tl u with
      | true =>
        rw [hb] at hp hs
        have hres : l.any tl = true := ht.out hs.out
        rw [hres]
        clear hb hs ht hres
        go_wp2_with fail
        refine (hp.out _).mono ?_
        rintro e w2 ⟨rfl, b2⟩
        go_wp2_with fail
        go_ret
        exact ⟨(k : Int), by omega, by omega, by simp, rfl, B.trans (b2.mono B.size)⟩
      | false =>
        rw [hb] at hp hs
        clear hb ht
        go_wp2_with fail
        refine (hp.out _).mono ?_
        rintro e w2 ⟨rfl, b2⟩
        go_wp2_with fail
        go_roundw
        case rel => exact ⟨k + 1, by omega, by go_num, hs, B.trans (b2.mono B.size)⟩
        case measure => simp [intOf]; omega
    · have hres : l.any tl = false := by have h := hno.out; rwa [List.take_of_length_le (by rw [← hN.out]; omega)] at h
      have hres2 := Lib.hid hres
      have i1 : ¬ (k : Int) < (N : Int) := by omega
      clear hres hno
      go_wp2_with fail
      go_ret
      exact ⟨-1, by omega, by omega, by rw [hres2.out]; rfl, rfl, B⟩

theorem anyTl (v : Value) (l : List Str) (w : World) (hv : SS w v l) (hn : l.length ≤ 140737488351232) : Calls Tryd.prog 88 #[v, .func (.func 67) #[] #[]] w fun e w' => e = .returned (.bool (l.any tl)) ∧ Below w.heap.size w w' := by
  have h := Lib.hid (idxTl v l w hv rfl hn)
  clear hv
  generalize l.any tl = r at *
  go_enter Tryd.func88, Tryd.ntmps88
  go_wp2_with fail
  refine h.out.mono ?_
  rintro e w2 ⟨x, x1, x2, hx, rfl, b2⟩
  go_wp2_with fail
  go_ret
  exact ⟨rfl, b2⟩

set_option maxRecDepth 100000 in
set_option maxHeartbeats 1000000 in
theorem idxNoD (v : Value) (l : List Str) (w : World) {W0 : World} (hv : SS W0 v l) (hW : W0 = w) (hn : l.length ≤ 140737488351232) : Calls Tryd.prog 96 #[v, .func (.func 89) #[] #[]] w (IdxPost (l.any noD) w) := by
  subst hW
  obtain ⟨N, hN⟩ : ∃ N, Hid (N = l.length) := ⟨_, rfl⟩
  have hc := Lib.hid (show ∀ (k : Nat) (hk : k < l.length), _ from fun k hk => SS.at hv k hk)
  obtain ⟨a, c, rfl⟩ := hv.shape
  rw [← hN.out] at hn ⊢
  clear hv
  go_enter Tryd.func96, Tryd.ntmps96
  go_wp2_with fail
  go_loopw [8] (fun i wr => ∃ k : Nat, k ≤ N ∧ i = .int .i64 k ∧ Hid ((l.take k).any noD = false) ∧ Below W0.heap.size W0 wr) (fun i _ => N - (intOf i).toNat)
  case atStart => exact ⟨0, by omega, rfl, rfl, Below.refl _ _⟩
  case round =>
    obtain ⟨k, hk, rfl, hno, B⟩ := hrel
    by_cases hlt : k < N
    · have hkl : k < l.length := by rw [← hN.out]; exact hlt
      obtain ⟨b, o, c', he, hcell⟩ := hc.out k hkl
      injection he with he1 he2 he3
      subst he1
      have hcc := hcell wr B
      have hs := Lib.hid (any_snoc noD l k hkl hno.out)
      have ht := Lib.hid (fun h => any_of_take noD l (k + 1) h)
      have hp := Lib.hid (fun w' => noDigestB l[k] w')
      clear hcell hno he2 he3
      skip
      have i0 : (0 : Int) ≤ (k : Int) := by omega
      have i1 : (k : Int) < (N : Int) := by omega
      generalize l[k] = u at *
      cases hb : noD u with
      | true =>
        rw [hb] at hp hs
        have hres : l.any noD = true := ht.out hs.out
        rw [hres]
        clear hb hs ht hres
        go_wp2_with fail
        refine (hp.out _).mono ?_
        rintro e w2 ⟨rfl, b2⟩
        go_wp2_with fail
        go_ret
        exact ⟨(k : Int), by omega, by omega, by simp, rfl, B.trans (b2.mono B.size)⟩
      | false =>
        rw [hb] at hp hs
        clear hb ht
        go_wp2_with fail
        refine (hp.out _).mono ?_
        rintro e w2 ⟨rfl, b2⟩
        go_wp2_with fail
        go_roundw
        case rel => exact ⟨k + 1, by omega, by go_num, hs, B.trans (b2.mono B.size)⟩
        case measure => simp [intOf]; omega
    · have hres : l.any noD = false := by have h := hno.out; rwa [List.take_of_length_le (by rw [← hN.out]; omega)] at h
      have hres2 := Lib.hid hres
      have i1 : ¬ (k : Int) < (N : Int) := by omega
      clear hres hno
      go_wp2_with fail
      go_ret
      exact ⟨-1, by omega, by omega, by rw [hres2.out]; rfl, rfl, B⟩

theorem anyNoD (v : Value) (l : List Str) (w : World) (hv : SS w v l) (hn : l.length ≤ 140737488351232) : Calls Tryd.prog 88 #[v, .func (.func 89) #[] #[]] w fun e w' => e = .returned (.bool (l.any noD)) ∧ Below w.heap.size w w' := by
  have h := Lib.hid (idxNoD v l w hv rfl hn)
  clear hv
  generalize l.any noD = r at *
  go_enter Tryd.func88, Tryd.ntmps88
  go_wp2_with fail
  refine h.out.mono ?_
  rintro e w2 ⟨x, x1, x2, hx, rfl, b2⟩
  go_wp2_with fail
  go_ret
  exact ⟨rfl, b2⟩

/-- keys, strictly ascending, greater than last -/
def ascB (last : Int) : List Int → Bool
  | [] => true
  | x :: t => decide (last < x) && decide (x < 64) && ascB x t

set_option maxRecDepth 100000 in
set_option maxHeartbeats 1000000 in
theorem ascE_any (v : Value) (l : List Ent) (w : World) {W0 : World} (hv : SE W0 v l) (hW : W0 = w) (hn : l.length ≤ 140737488351232) : Calls Tryd.prog 64 #[v, .func (.func 65) #[] #[]] w fun e w' => e = .returned (.bool (ascB (-1) (l.map Prod.fst))) ∧ Below w.heap.size w w' := by
  subst hW
  obtain ⟨N, hN⟩ : ∃ N, Hid (N = l.length) := ⟨_, rfl⟩
  have hc := Lib.hid (show ∀ (k : Nat) (hk : k < l.length), _ from fun k hk => SE.at hv k hk)
  obtain ⟨a, c, rfl⟩ := hv.shape
  rw [← hN.out] at hn ⊢
  clear hv
  go_enter Tryd.func64, Tryd.ntmps64
  go_wp2_with fail
  go_loopw [5, 11] (fun s i wr => ∃ (k : Nat) (last : Int), k ≤ N ∧ i = .int .i64 k ∧ s = .int .i64 last ∧ -1 ≤ last ∧ last < 64 ∧ Hid (ascB (-1) (l.map Prod.fst) = ascB last ((l.map Prod.fst).drop k)) ∧ Below W0.heap.size W0 wr) (fun _ i _ => N - (intOf i).toNat)
  case atStart => exact ⟨0, -1, by omega, rfl, rfl, by omega, by omega, rfl, Below.refl _ _⟩
  case round =>
    obtain ⟨k, last, hk, rfl, rfl, hl1, hl2, hinv, B⟩ := hrel
    by_cases hlt : k < N
    · have hkl : k < l.length := by rw [← hN.out]; exact hlt
      obtain ⟨b, o, c', he, hcell⟩ := hc.out k hkl
      injection he with he1 he2 he3
      subst he1
      have hcc := hcell wr B
      have hstep : Hid (ascB last ((l.map Prod.fst).drop k) = (decide (last < Prod.fst l[k]) && decide (Prod.fst l[k] < 64) && ascB (Prod.fst l[k]) ((l.map Prod.fst).drop (k + 1)))) := by
        show _ = _
        rw [List.drop_eq_getElem_cons (by simpa using hkl), List.getElem_map]; rfl
      have hp := Lib.hid (fun w' => keyE_any l[k] w')
      clear hcell he2 he3
      obtain ⟨hcc1, hcc2⟩ := hcc
      have i0 : (0 : Int) ≤ (k : Int) := by omega
      have i1 : (k : Int) < (N : Int) := by omega
      generalize l[k] = u at *
      by_cases h1 : last < Prod.fst u
      · have t1 : ¬ (Prod.fst u ≤ last) := by omega
        by_cases h2 : Prod.fst u < 64
        · have t2 : ¬ ((64 : Int) ≤ Prod.fst u) := by omega
          have hnew : Hid (ascB (-1) (l.map Prod.fst) = ascB (Prod.fst u) ((l.map Prod.fst).drop (k + 1))) := by
            show _ = _; rw [hinv.out, hstep.out]; simp [h1, h2]
          clear hinv hstep
          go_wp2_with fail
          refine (hp.out _).mono ?_
          rintro e w2 ⟨rfl, b2⟩
          go_wp2_with fail
          go_roundw
          case rel => exact ⟨k + 1, Prod.fst u, by omega, by go_num, rfl, by omega, by omega, hnew, (B.alloc B.size _).trans (b2.mono (by have := B.size; simp; omega))⟩
          case measure => simp [intOf]; omega
        · have t2 : (64 : Int) ≤ Prod.fst u := by omega
          have hnew : ascB (-1) (l.map Prod.fst) = false := by rw [hinv.out, hstep.out]; simp [h2]
          have hnew2 := Lib.hid hnew
          clear hinv hstep hnew
          go_wp2_with fail
          refine (hp.out _).mono ?_
          rintro e w2 ⟨rfl, b2⟩
          go_wp2_with fail
          go_ret
          exact ⟨ret_bool hnew2.out.symm, (B.alloc B.size _).trans (b2.mono (by have := B.size; simp; omega))⟩
      · have t1 : Prod.fst u ≤ last := by omega
        have hnew : ascB (-1) (l.map Prod.fst) = false := by rw [hinv.out, hstep.out]; simp [h1]
        have hnew2 := Lib.hid hnew
        clear hinv hstep hnew
        go_wp2_with fail
        refine (hp.out _).mono ?_
        rintro e w2 ⟨rfl, b2⟩
        go_wp2_with fail
        go_ret
        exact ⟨ret_bool hnew2.out.symm, (B.alloc B.size _).trans (b2.mono (by have := B.size; simp; omega))⟩
    · have hres : ascB (-1) (l.map Prod.fst) = true := by rw [hinv.out, List.drop_of_length_le (by rw [List.length_map, ← hN.out]; omega)]; rfl
      have hres2 := Lib.hid hres
      have i1 : ¬ (k : Int) < (N : Int) := by omega
      clear hres hinv
      go_wp2_with fail
      go_ret
      exact ⟨ret_bool hres2.out.symm, B⟩

set_option maxRecDepth 100000 in
set_option maxHeartbeats 1000000 in
theorem ascI_any (v : Value) (l : List Int) (w : World) {W0 : World} (hv : SI W0 v l) (hW : W0 = w) (hn : l.length ≤ 140737488351232) : Calls Tryd.prog 69 #[v, .func (.func 70) #[] #[]] w fun e w' => e = .returned (.bool (ascB (-1) l)) ∧ Below w.heap.size w w' := by
  subst hW
  obtain ⟨N, hN⟩ : ∃ N, Hid (N = l.length) := ⟨_, rfl⟩
  have hc := Lib.hid (show ∀ (k : Nat) (hk : k < l.length), _ from fun k hk => SI.at hv k hk)
  obtain ⟨a, c, rfl⟩ := hv.shape
  rw [← hN.out] at hn ⊢
  clear hv
  go_enter Tryd.func69, Tryd.ntmps69
  go_wp2_with fail
  go_loopw [5, 11] (fun s i wr => ∃ (k : Nat) (last : Int), k ≤ N ∧ i = .int .i64 k ∧ s = .int .i64 last ∧ -1 ≤ last ∧ last < 64 ∧ Hid (ascB (-1) l = ascB last (l.drop k)) ∧ Below W0.heap.size W0 wr) (fun _ i _ => N - (intOf i).toNat)
  case atStart => exact ⟨0, -1, by omega, rfl, rfl, by omega, by omega, rfl, Below.refl _ _⟩
  case round =>
    obtain ⟨k, last, hk, rfl, rfl, hl1, hl2, hinv, B⟩ := hrel
    by_cases hlt : k < N
    · have hkl : k < l.length := by rw [← hN.out]; exact hlt
      obtain ⟨b, o, c', he, hcell⟩ := hc.out k hkl
      injection he with he1 he2 he3
      subst he1
      have hcc := hcell wr B
      have hstep : Hid (ascB last (l.drop k) = (decide (last < l[k]) && decide (l[k] < 64) && ascB (l[k]) (l.drop (k + 1)))) := by
        show _ = _
        rw [List.drop_eq_getElem_cons (by simpa using hkl)]; rfl
      have hp := Lib.hid (fun w' => keyI_any l[k] w')
      clear hcell he2 he3
      skip
      have i0 : (0 : Int) ≤ (k : Int) := by omega
      have i1 : (k : Int) < (N : Int) := by omega
      generalize l[k] = u at *
      by_cases h1 : last < u
      · have t1 : ¬ (u ≤ last) := by omega
        by_cases h2 : u < 64
        · have t2 : ¬ ((64 : Int) ≤ u) := by omega
          have hnew : Hid (ascB (-1) l = ascB (u) (l.drop (k + 1))) := by
            show _ = _; rw [hinv.out, hstep.out]; simp [h1, h2]
          clear hinv hstep
          go_wp2_with fail
          refine (hp.out _).mono ?_
          rintro e w2 ⟨rfl, b2⟩
          go_wp2_with fail
          go_roundw
          case rel => exact ⟨k + 1, u, by omega, by go_num, rfl, by omega, by omega, hnew, B.trans (b2.mono B.size)⟩
          case measure => simp [intOf]; omega
        · have t2 : (64 : Int) ≤ u := by omega
          have hnew : ascB (-1) l = false := by rw [hinv.out, hstep.out]; simp [h2]
          have hnew2 := Lib.hid hnew
          clear hinv hstep hnew
          go_wp2_with fail
          refine (hp.out _).mono ?_
          rintro e w2 ⟨rfl, b2⟩
          go_wp2_with fail
          go_ret
          exact ⟨ret_bool hnew2.out.symm, B.trans (b2.mono B.size)⟩
      · have t1 : u ≤ last := by omega
        have hnew : ascB (-1) l = false := by rw [hinv.out, hstep.out]; simp [h1]
        have hnew2 := Lib.hid hnew
        clear hinv hstep hnew
        go_wp2_with fail
        refine (hp.out _).mono ?_
        rintro e w2 ⟨rfl, b2⟩
        go_wp2_with fail
        go_ret
        exact ⟨ret_bool hnew2.out.symm, B.trans (b2.mono B.size)⟩
    · have hres : ascB (-1) l = true := by rw [hinv.out, List.drop_of_length_le (by rw [← hN.out]; omega)]; rfl
      have hres2 := Lib.hid hres
      have i1 : ¬ (k : Int) < (N : Int) := by omega
      clear hres hinv
      go_wp2_with fail
      go_ret
      exact ⟨ret_bool hres2.out.symm, B⟩

theorem keyList_any (v : Value) (l : List Int) (w : World) (hv : SI w v l) (hn : l.length ≤ 140737488351232) : Calls Tryd.prog 45 #[v] w fun e w' => e = .returned (.bool (ascB (-1) l)) ∧ Below w.heap.size w w' := by
  have h := Lib.hid (ascI_any v l w hv rfl hn)
  clear hv
  generalize ascB (-1) l = r at *
  go_enter Tryd.func45, Tryd.ntmps45
  go_wp2_with fail
  refine h.out.mono ?_
  rintro e w2 ⟨rfl, b2⟩
  go_wp2_with fail
  go_ret
  exact ⟨rfl, b2⟩
/-- changes of a map -/
def chgB (l : List Ent) : Bool := ascB (-1) (l.map Prod.fst) && !(l.any tlE)
/-- a map -/
def mapB (l : List Ent) : Bool := chgB l && !(l.any noV)
theorem changeList_any (v : Value) (l : List Ent) (w : World) (hv : SE w v l) (hn : l.length ≤ 140737488351232) : Calls Tryd.prog 41 #[v] w fun e w' => e = .returned (.bool (chgB l)) ∧ Below w.heap.size w w' := by
  have h := Lib.hid (ascE_any v l w hv rfl hn)
  have h2 := Lib.hid (fun w' (B : Below w.heap.size w w') => anyTlE v l w' (hv.below B) hn)
  clear hv
  have hr : Hid (chgB l = (ascB (-1) (l.map Prod.fst) && !(l.any tlE))) := rfl
  generalize ascB (-1) (l.map Prod.fst) = r at *
  generalize l.any tlE = s at *
  cases r with
  | true =>
    have hr2 : chgB l = !s := by rw [hr.out]; simp
    rw [hr2]
    clear hr hr2
    go_enter Tryd.func41, Tryd.ntmps41
    go_wp2_with fail
    refine h.out.mono ?_
    rintro e w2 ⟨rfl, b2⟩
    go_wp2_with fail
    refine (h2.out _ b2).mono ?_
    rintro e w3 ⟨rfl, b3⟩
    go_wp2_with fail
    go_ret
    exact ⟨rfl, b2.trans (b3.mono b2.size)⟩
  | false =>
    have hr2 : chgB l = false := by rw [hr.out]; simp
    rw [hr2]
    clear hr hr2
    go_enter Tryd.func41, Tryd.ntmps41
    go_wp2_with fail
    refine h.out.mono ?_
    rintro e w2 ⟨rfl, b2⟩
    go_wp2_with fail
    go_ret
    exact ⟨rfl, b2⟩
theorem Valid_any (v : Value) (l : List Ent) (w : World) (hv : SE w v l) (hn : l.length ≤ 140737488351232) : Calls Tryd.prog 15 #[v] w fun e w' => e = .returned (.bool (mapB l)) ∧ Below w.heap.size w w' := by
  have h := Lib.hid (changeList_any v l w hv hn)
  have h2 := Lib.hid (fun w' (B : Below w.heap.size w w') => anyNoV v l w' (hv.below B) hn)
  clear hv
  have hr : Hid (mapB l = (chgB l && !(l.any noV))) := rfl
  generalize chgB l = r at *
  generalize l.any noV = s at *
  cases r with
  | true =>
    have hr2 : mapB l = !s := by rw [hr.out]; simp
    rw [hr2]
    clear hr hr2
    go_enter Tryd.func15, Tryd.ntmps15
    go_wp2_with fail
    refine h.out.mono ?_
    rintro e w2 ⟨rfl, b2⟩
    go_wp2_with fail
    refine (h2.out _ b2).mono ?_
    rintro e w3 ⟨rfl, b3⟩
    go_wp2_with fail
    go_ret
    exact ⟨rfl, b2.trans (b3.mono b2.size)⟩
  | false =>
    have hr2 : mapB l = false := by rw [hr.out]; simp
    rw [hr2]
    clear hr hr2
    go_enter Tryd.func15, Tryd.ntmps15
    go_wp2_with fail
    refine h.out.mono ?_
    rintro e w2 ⟨rfl, b2⟩
    go_wp2_with fail
    go_ret
    exact ⟨rfl, b2⟩

end Go.Proofs.YtegahpfmkepfmaaDoor
