import Derived.Test.YtegahpfmkepfmaaDoorRo
import Derived.Laws.Rows
import Derived.Deep.WholeRow
import Derived.Laws.CopyOwn
namespace Go.Proofs.YtegahpfmkepfmaaDoor
open Go.RowKit
/-- the words k(0) to k(63) lie in block 0 -/
def Tab (w : World) : Prop := ∀ j, j < 64 → w.cell? ⟨0, j, none⟩ = some (.int .u32 ((kN.getD j 0 : Nat) : Int))
theorem Tab.pos {w : World} (h : Tab w) : 0 < w.heap.size := by
  have := h 0 (by omega)
  unfold World.cell? at this
  by_cases e : 0 < w.heap.size
  · exact e
  · simp [Array.getElem?_eq_none (show w.heap.size ≤ 0 by omega)] at this
theorem Tab.below {w w' : World} (h : Tab w) (hb : Below w.heap.size w w') : Tab w' := fun j hj => by
  rw [hb.cell (p := ⟨0, j, none⟩) h.pos]; exact h j hj
theorem below_drewN {B : Nat} {a w : World} (h : Below B a w) (n : Nat) : Below B a (w.drewN n) := h.trans ⟨rfl, rfl, rfl, Nat.le_refl _, fun _ _ => rfl⟩
/-- eight words as cells -/
def c8 (s : S8) : Array Value := #[.int .u32 (s.a : Int), .int .u32 (s.b : Int), .int .u32 (s.c : Int), .int .u32 (s.d : Int), .int .u32 (s.e : Int), .int .u32 (s.f : Int), .int .u32 (s.g : Int), .int .u32 (s.h : Int)]

theorem rotate_lit (x : Nat) (y : Int) (w : World) (hx : x < 4294967296) (h1 : 1 ≤ y) (h2 : y ≤ 31) :
    Calls Tryd.prog 92 #[.int .u32 x, .int .i64 y] w fun e w' => e = .returned (.int .u32 (rot x y.toNat)) ∧ w' = w := by
  obtain ⟨n, rfl⟩ := Int.eq_ofNat_of_zero_le (show 0 ≤ y by omega)
  exact (rotate_any x n w hx (by omega) (by omega)).mono fun _ _ h => ⟨h.1, h.2.symm⟩
theorem size113 : (Tryd.prog.info? 113).map (·.size) = some 8 := by kernel_rfl
theorem all8 (a b c d e f g h : Int) : (#[.int .u32 a, .int .u32 b, .int .u32 c, .int .u32 d, .int .u32 e, .int .u32 f, .int .u32 g, .int .u32 h] : Array Value).all (·.oneCell') = true := by simp [Value.oneCell']
theorem mix_world (w w0 : World) (cs ds es : Array Value) (hT : Tab w) (hw0 : w0 = ((w.alloc (.cells cs 113)).alloc (.cells ds 121)).alloc (.cells es 113)) :
    w0.heap.size = w.heap.size + 3 ∧ Below w.heap.size w w0 ∧ w0.heap[w.heap.size]? = some (.cells cs 113 (0, 0)) ∧ w0.heap[w.heap.size + 1]? = some (.cells ds 121 (0, 0)) ∧ w0.heap[w.heap.size + 1 + 1]? = some (.cells es 113 (0, 0)) ∧ Tab w0 := by
  have hB : Below w.heap.size w w0 := by rw [hw0]; exact (((Below.refl _ w).alloc (Nat.le_refl _) _).alloc (by simp) _).alloc (by simp; omega) _
  refine ⟨by rw [hw0]; simp, hB, ?_, ?_, ?_, hT.below hB⟩
  · rw [hw0, heap_alloc_old (h := by simp; omega), heap_alloc2_old]
  · rw [hw0, heap_alloc_old (h := by simp), heap_alloc2_new]
  · rw [hw0]
    have := heap_alloc_new ((w.alloc (.cells cs 113)).alloc (.cells ds 121)) (.cells es 113)
    rwa [World.size_alloc, World.size_alloc] at this

theorem not32 (x : Nat) (h : x < 4294967296) : bits .xor .u32 (if IntKind.u32.signed = true then -1 else IntKind.u32.max) (x : Int) = ((4294967295 - x : Nat) : Int) := by
  have e : (if IntKind.u32.signed = true then -1 else IntKind.u32.max) = ((4294967295 : Nat) : Int) := rfl
  rw [e, u32_xor_nat _ _ (by decide) h]
  congr 1
  have hb : ∀ y : BitVec 32, (4294967295#32 ^^^ y).toNat = 4294967295 - y.toNat := fun y => by
    have : 4294967295#32 ^^^ y = ~~~ y := by
      apply BitVec.eq_of_getLsbD_eq
      intro i hi
      rw [BitVec.getLsbD_xor, BitVec.getLsbD_not]
      have hh : ∀ j : Fin 32, (4294967295#32).getLsbD j.val = true := by decide
      have := hh ⟨i, hi⟩
      simp only at this
      rw [this]; simp [hi]
    rw [this, BitVec.toNat_not]
  have := hb (BitVec.ofNat 32 x)
  rw [BitVec.toNat_xor, BitVec.toNat_ofNat, BitVec.toNat_ofNat, Nat.mod_eq_of_lt (a := x) (by omega)] at this
  simpa using this
theorem tt1_eq (kw vw ra rb rc rd re rf rg rh : Nat) (ke : re < 4294967296) (kf : rf < 4294967296) (kg : rg < 4294967296) :
    ((rh : Int) + bits .xor .u32 (bits .xor .u32 ((rot re 6 : Nat) : Int) ((rot re 11 : Nat) : Int)) ((rot re 25 : Nat) : Int) +
      bits .xor .u32 (bits .and .u32 (re : Int) (rf : Int)) (bits .and .u32 (bits .xor .u32 (if IntKind.u32.signed = true then -1 else IntKind.u32.max) (re : Int)) (rg : Int)) + (kw : Int) + (vw : Int)) % 4294967296
      = ((tt1 kw vw ⟨ra, rb, rc, rd, re, rf, rg, rh⟩ : Nat) : Int) := by
  rw [not32 _ ke, u32_xor_nat _ _ (rot_lt _ _ ke) (rot_lt _ _ ke), u32_xor_nat _ _ (xor_lt _ _ (rot_lt _ _ ke) (rot_lt _ _ ke)) (rot_lt _ _ ke), u32_and_nat _ _ ke kf, u32_and_nat _ _ (by omega) kg, u32_xor_nat _ _ (and_lt _ _ ke) (and_lt _ _ (by omega))]
  unfold tt1 add32 bs1 chf
  simp only []
  omega
theorem tt2_eq (ra rb rc rd re rf rg rh : Nat) (ka : ra < 4294967296) (kb : rb < 4294967296) (kc : rc < 4294967296) :
    (bits .xor .u32 (bits .xor .u32 ((rot ra 2 : Nat) : Int) ((rot ra 13 : Nat) : Int)) ((rot ra 22 : Nat) : Int) +
      bits .xor .u32 (bits .xor .u32 (bits .and .u32 (ra : Int) (rb : Int)) (bits .and .u32 (ra : Int) (rc : Int))) (bits .and .u32 (rb : Int) (rc : Int))) % 4294967296
      = ((tt2 ⟨ra, rb, rc, rd, re, rf, rg, rh⟩ : Nat) : Int) := by
  rw [u32_xor_nat _ _ (rot_lt _ _ ka) (rot_lt _ _ ka), u32_xor_nat _ _ (xor_lt _ _ (rot_lt _ _ ka) (rot_lt _ _ ka)) (rot_lt _ _ ka), u32_and_nat _ _ ka kb, u32_and_nat _ _ ka kc, u32_and_nat _ _ kb kc, u32_xor_nat _ _ (and_lt _ _ ka) (and_lt _ _ ka), u32_xor_nat _ _ (xor_lt _ _ (and_lt _ _ ka) (and_lt _ _ ka)) (and_lt _ _ kb)]
  unfold tt2 add32 bs0 maj
  simp only []
  omega
theorem add32_eq (x y : Nat) : ((x : Int) + (y : Int)) % 4294967296 = ((add32 x y : Nat) : Int) := by unfold add32; omega

set_option maxRecDepth 100000 in
set_option maxHeartbeats 1000000 in
theorem mix_any (s : S8) (ws : List Nat) (w : World) (hs : Ok8 s) (hl : ws.length = 64) (hw : ∀ j, ws.getD j 0 < 4294967296) (hT : Tab w) :
    Calls Tryd.prog 82 #[.agg (c8 s), .agg (cW ws).toArray] w fun e w' => e = .returned (.agg (c8 (plus s (rn ws s 64)))) ∧ Below w.heap.size w w' := by
  have hrn := Lib.hid (fun k => rn_ok ws s hs k)
  have hl2 := Lib.hid hl
  have hw2 := Lib.hid hw
  clear hl hw
  obtain ⟨S, hS⟩ : ∃ S : S8, Hid (S = s) := ⟨_, rfl⟩
  have hrn0 : rn ws s 0 = s := rfl
  obtain ⟨a, b, c, d, e, f, g, h⟩ := s
  have hr0 := Lib.hid hrn0
  clear hrn0 hs
  unfold c8
  go_enter Tryd.func82, Tryd.ntmps82
  go_wp2_with fail
  go_quiet (fail)
  obtain ⟨w0, hw0⟩ : ∃ w0, w0 = ((w.alloc (.cells #[.int .u32 (a : Int), .int .u32 (b : Int), .int .u32 (c : Int), .int .u32 (d : Int), .int .u32 (e : Int), .int .u32 (f : Int), .int .u32 (g : Int), .int .u32 (h : Int)] 113)).alloc (.cells (cW ws).toArray 121)).alloc (.cells #[.int .u32 0, .int .u32 0, .int .u32 0, .int .u32 0, .int .u32 0, .int .u32 0, .int .u32 0, .int .u32 0] 113) := ⟨_, rfl⟩
  rw [← hw0]
  obtain ⟨hsz, hB0, hh1, hh2, hh3, hT0⟩ := mix_world w w0 _ _ _ hT hw0
  clear hw0
  have hsz := Lib.hid hsz
  have hh1 := Lib.hid hh1
  have hh2 := Lib.hid hh2
  have hh3 := Lib.hid hh3
  have hT1 := Lib.hid hT0
  clear hT0 hT
  go_wp2_with fail
  go_loopw [5, 6, 7, 8, 9, 10, 11, 12, 32] (fun a b c d e f g h i wr => ∃ (k m : Nat) (r : S8), k ≤ 64 ∧ Hid (rn ws S k = r) ∧ i = .int .i64 k ∧ a = .int .u32 r.a ∧ b = .int .u32 r.b ∧ c = .int .u32 r.c ∧ d = .int .u32 r.d ∧ e = .int .u32 r.e ∧ f = .int .u32 r.f ∧ g = .int .u32 r.g ∧ h = .int .u32 r.h ∧ Hid (wr = w0.drewN m)) (fun _ _ _ _ _ _ _ _ i _ => 64 - (intOf i).toNat)
  case atStart => exact ⟨0, nq, ⟨a, b, c, d, e, f, g, h⟩, by omega, by show _ = _; rw [hS.out, hr0.out], rfl, rfl, rfl, rfl, rfl, rfl, rfl, rfl, rfl, rfl⟩
  case round =>
    obtain ⟨k, m, r, hk, hr, rfl, rfl, rfl, rfl, rfl, rfl, rfl, rfl, rfl, hwr⟩ := hrel
    have hok : Ok8 r := by rw [← hr.out, hS.out]; exact hrn.out k
    obtain ⟨ra, rb, rc, rd, re, rf, rg, rh⟩ := r
    obtain ⟨ka, kb, kc, kd, ke, kf, kg, kh⟩ := hok
    dsimp only at ka kb kc kd ke kf kg kh
    dsimp only
    by_cases hlt : k < 64
    · have cK : wr.cell? ⟨0, k, none⟩ = some (.int .u32 ((kN.getD k 0 : Nat) : Int)) := by rw [hwr.out]; exact hT1.out k hlt
      have cV : wr.cell? ⟨w.heap.size + 1, k, none⟩ = some (.int .u32 ((ws.getD k 0 : Nat) : Int)) := by
        rw [hwr.out, World.cell?_drewN, cell_of_row _ _ _ _ _ _ hh2.out]
        have : k < ws.length := by rw [hl2.out]; exact hlt
        simp [cW, List.getD, List.getElem?_eq_getElem this]
      have bV := hw2.out k
      have hN : Hid (rn ws S (k + 1) = rnd (kN.getD k 0) (ws.getD k 0) (rn ws S k)) := rfl
      generalize kN.getD k 0 = kw at *
      generalize ws.getD k 0 = vw at *
      go_wp2_with fail
      trace_state
      go_quiet ((go_at_call 92; exact Calls.quiet_of_same (rotate_lit _ _ _ (by assumption) (by decide) (by decide))))
      go_wp2_with (go_at_call 92; refine (rotate_lit _ _ _ (by assumption) (by decide) (by decide)).mono ?_; rintro e w' ⟨rfl, rfl⟩)
      go_roundw
      case rel =>
        refine ⟨k + 1, m + nq, rnd kw vw ⟨ra, rb, rc, rd, re, rf, rg, rh⟩, by omega, by show _ = _; rw [hN.out, hr.out], by go_num, ?_, rfl, rfl, rfl, ?_, rfl, rfl, rfl, by show _ = _; rw [hwr.out, World.drewN_drewN]⟩
        · rw [tt1_eq kw vw ra rb rc rd re rf rg rh ke kf kg, tt2_eq ra rb rc rd re rf rg rh ka kb kc, add32_eq]; rfl
        · rw [tt1_eq kw vw ra rb rc rd re rf rg rh ke kf kg, add32_eq]; rfl
      case measure => simp [intOf]; omega
    · obtain rfl : k = 64 := by omega
      have hH : ∀ j, wr.cell? ⟨w.heap.size, j, none⟩ = (#[.int .u32 (a : Int), .int .u32 (b : Int), .int .u32 (c : Int), .int .u32 (d : Int), .int .u32 (e : Int), .int .u32 (f : Int), .int .u32 (g : Int), .int .u32 (h : Int)] : Array Value)[j]? := fun j => by
        rw [hwr.out, World.cell?_drewN]; exact cell_of_row _ _ _ _ _ _ hh1.out
      have c0 := hH 0
      have c1 := hH 1
      have c2 := hH 2
      have c3 := hH 3
      have c4 := hH 4
      have c5 := hH 5
      have c6 := hH 6
      have c7 := hH 7
      clear hH
      simp only [List.getElem?_toArray, List.getElem?_cons_zero, List.getElem?_cons_succ] at c0 c1 c2 c3 c4 c5 c6 c7
      have hO : Hid (wr.heap[w.heap.size + 1 + 1]? = some (.cells #[.int .u32 0, .int .u32 0, .int .u32 0, .int .u32 0, .int .u32 0, .int .u32 0, .int .u32 0, .int .u32 0] 113 (0, 0))) := by
        show _ = _
        rw [hwr.out]; exact hh3.out
      go_wp2_with (refine wpList_store_row rfl 113 (.tmp 4) (.tmp 127) rfl (w.heap.size + 1 + 1) #[.int .u32 (((a : Int) + (ra : Int)) % 4294967296), .int .u32 (((b : Int) + (rb : Int)) % 4294967296), .int .u32 (((c : Int) + (rc : Int)) % 4294967296), .int .u32 (((d : Int) + (rd : Int)) % 4294967296), .int .u32 (((e : Int) + (re : Int)) % 4294967296), .int .u32 (((f : Int) + (rf : Int)) % 4294967296), .int .u32 (((g : Int) + (rg : Int)) % 4294967296), .int .u32 (((h : Int) + (rh : Int)) % 4294967296)] rfl rfl 113 _ hO.out size113 rfl (all8 _ _ _ _ _ _ _ _) ?_)
      refine bodyPost_ret (v := _) (results_cell_row (fn := Tryd.f82) rfl _ _ (w.heap.size + 1 + 1) 113 _ (0, 0) _ rfl (setRow_heap _ _ _ _ _ _ hO.out) Tryd.underlying113 rfl size113) rfl ⟨?_, ?_⟩
      · have e := hr.out
        rw [hS.out] at e
        rw [e]
        simp only [add32_eq]
        rfl
      · refine below_setRow ?_ (by omega) _
        rw [hwr.out]
        exact below_drewN hB0 m
end Go.Proofs.YtegahpfmkepfmaaDoor
