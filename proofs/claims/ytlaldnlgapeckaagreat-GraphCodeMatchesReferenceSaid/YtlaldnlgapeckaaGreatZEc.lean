/- The encoding of changes. -/
import Derived.Test.YtlaldnlgapeckaaGreatYB
import Derived.Test.YtlaldnlgapeckaaGreatYH
set_option linter.unusedSimpArgs false
set_option maxRecDepth 100000
set_option maxHeartbeats 4000000
namespace Go.Proofs.YtlaldnlgapeckaaGreat
open Go.RowKit
theorem numF_append (l m : List Int) : ∀ (bs : List UInt8), numF bs false (l ++ m) = (if (numF bs false l).2 = true then ((numF bs false l).1, true) else numF (numF bs false l).1 false m) := by
 induction l with
 | nil => intro bs; simp [numF]
 | cons n t ih =>
  intro bs;rw [List.cons_append];have e1 : ∀ (x : List Int), numF bs false (n :: x) = (if inB n (-4611686018427387903) 4611686018427387903 = true then numF (bs ++ putL n) false x else (bs, true)) := fun _ => rfl;rw [e1, e1];by_cases h : inB n (-4611686018427387903) 4611686018427387903 = true
  ·rw [if_pos h, if_pos h]; exact ih _
  ·rw [if_neg h, if_neg h]; simp
def nF (S : List UInt8 × Bool) (l : List Int) : List UInt8 × Bool := numF S.1 S.2 l
def okP (l : List Int) : Bool := l.all fun n => inB n (-4611686018427387903) 4611686018427387903
theorem numF_flag (l : List Int) : ∀ (bs : List UInt8) (f : Bool), (numF bs f l).2 = (f || !okP l) := by
 induction l with
 | nil => intro bs f; simp [numF, okP]
 | cons n t ih =>
  intro bs f;unfold numF;by_cases h : inB n (-4611686018427387903) 4611686018427387903 = true
  ·rw [if_pos h, ih]; simp [okP, h]
  ·rw [if_neg h]; simp [okP, h]
theorem okP_iff (l : List Int) : okP l = true ↔ ∀ n ∈ l, inP n := by
 unfold okP inP;simp only [List.all_eq_true, inB_iff]
theorem nF_len (S : List UInt8 × Bool) (l : List Int) : (nF S l).1.length ≤ S.1.length + 9 * l.length := numF_len l _ _
/-- one row behind the other: the mark, and the bytes where it is not set -/
def Run (S : List UInt8 × Bool) (l : List Int) : Prop := S.2 = !okP l ∧ (okP l = true → S.1 = l.flatMap putL) ∧ S.1.length ≤ 9 * l.length
theorem Run.step {S : List UInt8 × Bool} {l : List Int} (h : Run S l) (m : List Int) : Run (nF S m) (l ++ m) := by
 obtain ⟨h1, h2, h3⟩ := h;have e : okP (l ++ m) = (okP l && okP m) := by simp [okP]
 refine ⟨?_, fun q => ?_, ?_⟩
 ·unfold nF; rw [numF_flag, h1, e]; cases okP l <;> simp
 ·rw [e, Bool.and_eq_true] at q;unfold nF;rw [numF_all _ _ _ ((okP_iff m).1 q.2), h2 q.1]
  simp
 ·have := nF_len S m;rw [List.length_append]; omega
def SPost (B b : Nat) (S : List UInt8 × Bool) (w : World) (e : Ending) (w' : World) : Prop := e = .returned (.tuple #[]) ∧ Wr w' B b S.1 S.2 ∧ KW B w w'
theorem one_S (B b : Nat) (S : List UInt8 × Bool) (n : Int) (W : World) (h : Wr W B b S.1 S.2) (hn : inI n) (hb : S.1.length ≤ 100000000) :
  Calls Tryz.prog 62 #[.pointer (some ⟨b, 0, none⟩), .slice (some ⟨W.heap.size, 0, none⟩) 1 1] (W.alloc (.cells #[.int .i64 n] 3)) (SPost B b (nF S [n]) W) := by
 have hB : Below W.heap.size W (W.alloc (.cells #[.int .i64 n] 3)) := (Below.refl _ _).alloc (Nat.le_refl _) _;refine (numbers_any B b S.1 S.2 (.slice (some ⟨W.heap.size, 0, none⟩) 1 1) [n] _ (h.below hB) (lit_stays (by simp) (by simpa using heap_alloc_new W (.cells #[.int .i64 n] 3))) (by intro m hm; simp at hm; subst hm; exact hn) (by simp) hb).mono ?_;intro e w' q;exact ⟨q.1, q.2.1, (KW.of hB h.base).trans q.2.2⟩
theorem two_S (B b : Nat) (S : List UInt8 × Bool) (n m : Int) (W : World) (h : Wr W B b S.1 S.2) (hn : inI n) (hm : inI m) (hb : S.1.length ≤ 100000000) :
  Calls Tryz.prog 62 #[.pointer (some ⟨b, 0, none⟩), .slice (some ⟨W.heap.size, 0, none⟩) 2 2] (W.alloc (.cells #[.int .i64 n, .int .i64 m] 3)) (SPost B b (nF S [n, m]) W) := by
 have hB : Below W.heap.size W (W.alloc (.cells #[.int .i64 n, .int .i64 m] 3)) := (Below.refl _ _).alloc (Nat.le_refl _) _;refine (numbers_any B b S.1 S.2 (.slice (some ⟨W.heap.size, 0, none⟩) 2 2) [n, m] _ (h.below hB) (lit_stays (by simp) (by simpa using heap_alloc_new W (.cells #[.int .i64 n, .int .i64 m] 3))) (by intro x hx; simp at hx; rcases hx with rfl | rfl <;> assumption) (by simp) hb).mono ?_;intro e w' q;exact ⟨q.1, q.2.1, (KW.of hB h.base).trans q.2.2⟩
theorem wv_S (B b : Nat) (S : List UInt8 × Bool) (u : Vx) (w : World) (h : Wr w B b S.1 S.2) (h1 : inI u.id) (h2 : inI u.side) (hb : S.1.length ≤ 100000000) :
  Calls Tryz.prog 63 #[.pointer (some ⟨b, 0, none⟩), .agg #[.int .i64 u.id, .int .i64 u.side]] w (SPost B b (nF S [u.id, u.side]) w) :=
 (wvertex_any B b S.1 S.2 u w h h1 h2 hb).mono fun _ _ q => ⟨q.1, q.2.1, q.2.2⟩
theorem we_S (B b : Nat) (S : List UInt8 × Bool) (u : Ed) (w : World) (h : Wr w B b S.1 S.2) (h1 : ∀ n ∈ edN u, inI n) (hb : S.1.length ≤ 100000000) :
  Calls Tryz.prog 64 #[.pointer (some ⟨b, 0, none⟩), .agg #[.int .i64 u.id, .int .i64 u.src, .int .i64 u.dst, .bool u.dir, .int .i64 u.wt, .int .i64 u.cap]] w (SPost B b (nF S (edN u)) w) :=
 (wedge_any B b S.1 S.2 u w h h1 hb).mono fun _ _ q => ⟨q.1, q.2.1, q.2.2⟩
theorem wl_S (B b : Nat) (S : List UInt8 × Bool) (v : Value) (l : List Int) (w : World) (h : Wr w B b S.1 S.2) (hl : ∀ W, KW B w W → DL W v l) (h1 : ∀ n ∈ l, inI n) (hn : l.length ≤ 1000000) (hb : S.1.length ≤ 90000000) :
  Calls Tryz.prog 65 #[.pointer (some ⟨b, 0, none⟩), v] w (SPost B b (nF (nF S [(l.length : Int)]) l) w) :=
 (wlist_any B b S.1 S.2 v l w h hl h1 hn hb).mono fun _ _ q => ⟨q.1, q.2.1, q.2.2⟩
/-- the numbers of a change -/
def chN (c : Ch) : List Int := [c.kind] ++ [c.v.id, c.v.side] ++ edN c.e ++ [c.id, c.n] ++ [(c.ends.length : Int)] ++ c.ends ++ [(c.deps.length : Int)] ++ c.deps
def encCOk (c : Ch) : Bool := decide (c.ends.length ≤ 80) && decide (c.deps.length ≤ 3) && okP (chN c)
def EncCPost (c : Ch) (w : World) (e : Ending) (w' : World) : Prop :=
 e = .returned (.tuple (if encCOk c = true then #[.string ⟨((chN c).flatMap putL).toArray⟩, .int .i64 0] else #[.string ⟨#[]⟩, .int .i64 30])) ∧ Below w.heap.size w w'
theorem EncodeChange_any (vc : Value) (c : Ch) (w : World) (hc : CV w vc c) (hr : ∀ n ∈ chN c, inI n) (hn : c.ends.length ≤ 1000000 ∧ c.deps.length ≤ 1000000) :
  Calls Tryz.prog 34 #[vc] w (EncCPost c w) := by
 obtain ⟨x, y, rfl, hx, hy⟩ := hc;obtain ⟨w1, hw1⟩ : ∃ w1, w1 = w.alloc (.cells (chCells c x y) 33) := ⟨_, rfl⟩;obtain ⟨w2, hw2⟩ : ∃ w2, w2 = w1.alloc (.cells wrZero 99) := ⟨_, rfl⟩;have z1 : w1.heap.size = w.heap.size + 1 := by rw [hw1]; simp
 have z2 : w2.heap.size = w.heap.size + 2 := by rw [hw2]; simp [z1]
 have g1 : w1.heap[w.heap.size]? = some (.cells (chCells c x y) 33 (0, 0)) := by rw [hw1]; exact heap_alloc_new w _
 have B1 : Below w.heap.size w w1 := by rw [hw1]; exact (Below.refl _ w).alloc (Nat.le_refl _) _
 have B2 : Below w.heap.size w w2 := by rw [hw2]; exact B1.alloc (by omega) _
 have g2 : w2.heap[w.heap.size]? = some (.cells (chCells c x y) 33 (0, 0)) := by rw [hw2]; exact al_keep g1
 have hcc := Hd (fun (W : World) (K : KW (w.heap.size + 1) w2 W) => ch_cells (K.keep _ _ g2 rfl));have hbw := Hd (fun (W : World) (K : KW (w.heap.size + 1) w2 W) => show Below w.heap.size w W from B2.trans (K.below.mono (by omega)));have hW2 : Wr w2 (w.heap.size + 1) (w.heap.size + 1) [] false := by rw [hw2, ← z1]; exact wr_new w1
 have hxh := Hd hx;have hyh := Hd hy;have hrh := Hd hr;have d := ch_cells g1;have hw1h := Hd hw1;have hw2h := Hd hw2;obtain ⟨x1, x2, rfl⟩ := hx.shape;obtain ⟨y1, y2, rfl⟩ := hy.shape;unfold chCells at hw1h ⊢;unfold wrZero at hw2h;obtain ⟨n4, hn4⟩ : ∃ n4, Hid (n4 = c.ends.length) := ⟨_, rfl⟩;obtain ⟨n5, hn5⟩ : ∃ n5, Hid (n5 = c.deps.length) := ⟨_, rfl⟩;have hbad : Hid (∀ W, ¬ (c.ends.length ≤ 80 ∧ c.deps.length ≤ 3) → Below w.heap.size w W → EncCPost c w (.returned (.tuple #[.string ⟨#[]⟩, .int .i64 30])) W) := fun W h B => ⟨by
  have : ¬ encCOk c = true := by
   unfold encCOk;simp only [Bool.and_eq_true, decide_eq_true_eq];exact fun q => h q.1
  rw [if_neg this], B⟩
 clear hw1 hw2 hx hy hr;simp only [← hn4.out, ← hn5.out] at hw1h d hn ⊢;obtain ⟨d0, d1, d2, d3, d4, d5, d6, d7, d8, d9, d10, d11, d12⟩ := d;rw [hw1h.out] at d0 d1 d2 d3 d4 d5 d6 d7 d8 d9 d10 d11 d12;by_cases j1 : 80 < n4
 ·have i1 : (80 : Int) < (n4 : Int) := by omega
  have hf := Hd (hbad.out w1 (by rw [← hn4.out]; omega) B1);clear j1 g1 g2 hW2 B1 B2;go_enter Tryz.func34, Tryz.ntmps34;go_wp2_with fail;rw [← hw1h.out];refine bodyPost_ret (results_tmp2 rfl _ _ _) rfl ?_;exact hf.out
 ·by_cases j2 : 3 < n5
  ·have i1 : ¬ (80 : Int) < (n4 : Int) := by omega
   have i2 : (3 : Int) < (n5 : Int) := by omega
   have hf := Hd (hbad.out w1 (by rw [← hn5.out]; omega) B1);clear j1 j2 g1 g2 hW2 B1 B2;go_enter Tryz.func34, Tryz.ntmps34;go_wp2_with fail;rw [← hw1h.out];refine bodyPost_ret (results_tmp2 rfl _ _ _) rfl ?_;exact hf.out
  ·have i1 : ¬ (80 : Int) < (n4 : Int) := by omega
   have i2 : ¬ (3 : Int) < (n5 : Int) := by omega
   have hgood : Hid (∀ W S, Run S (chN c) → Below w.heap.size w W → EncCPost c w (.returned (.tuple (if S.2 = true then #[.string ⟨#[]⟩, .int .i64 30] else #[.string ⟨S.1.toArray⟩, .int .i64 0]))) W) := fun W S hS B => ⟨by
    have hl : decide (c.ends.length ≤ 80) = true := by rw [← hn4.out]; simp; omega
    have hl2 : decide (c.deps.length ≤ 3) = true := by rw [← hn5.out]; simp; omega
    unfold encCOk;rw [hl, hl2, hS.1];cases h : okP (chN c) with
    | false => simp
    | true => rw [hS.2.1 h]; simp, B⟩
   have hn4l : n4 ≤ 80 := by omega
   have hn5l : n5 ≤ 3 := by omega
   clear hbad j1 j2 g1 g2 B1 B2;have hR0 : Hid (Run (([], false) : List UInt8 × Bool) []) := ⟨rfl, fun _ => rfl, by simp⟩;obtain ⟨S0, hS0⟩ : ∃ S0, Hid (S0 = (([], false) : List UInt8 × Bool)) := ⟨_, rfl⟩;rw [← hS0.out] at hR0;have hW0 : Hid (Wr w2 (w.heap.size + 1) (w.heap.size + 1) S0.1 S0.2) := by rw [hS0.out]; exact hW2
   have hK0 : Hid (KW (w.heap.size + 1) w2 w2) := KW.refl _ _;clear hW2;obtain ⟨d0, d1, d2, d3, d4, d5, d6, d7, d8, d9, d10, d11, d12⟩ := hcc.out w2 hK0.out;rw [hw2h.out] at d0 d1 d2 d3 d4 d5 d6 d7 d8 d9 d10 d11 d12;have hs1 : w2.heap.size = w.heap.size + 1 + 1 := by omega
   have hcall := Hd (one_S (w.heap.size + 1) (w.heap.size + 1) S0 c.kind w2 hW0.out (hrh.out _ (by simp [chN])) (by have := hR0.out.2.2; simp only [List.length_append, List.length_cons, List.length_nil] at this; omega));obtain ⟨S1, hS1⟩ : ∃ S1, Hid (S1 = nF S0 [c.kind]) := ⟨_, rfl⟩;have hR1 : Hid (Run S1 [c.kind]) := by
    have q := hR0.out.step [c.kind];rw [← hS1.out] at q;exact q
   rw [← hS1.out] at hcall;rw [hs1] at hcall;go_enter Tryz.func34, Tryz.ntmps34;go_wp2_with fail;rw [← hw1h.out, ← hw2h.out];with_reducible refine hcall.out.mono ?_
   rintro e wa1 ⟨rfl, hW, hK⟩;have hW1 := Hd hW;have hK1 := Hd (hK0.out.trans hK);clear hcall hW hK hS1 hR0 hW0 hK0 hs1 d0 d1 d2 d3 d4 d5 d6 d7 d8 d9 d10 d11 d12;obtain ⟨d0, d1, d2, d3, d4, d5, d6, d7, d8, d9, d10, d11, d12⟩ := hcc.out wa1 hK1.out;simp only [← hn4.out, ← hn5.out] at d11 d12;have hcall := Hd (wv_S (w.heap.size + 1) (w.heap.size + 1) S1 c.v wa1 hW1.out (hrh.out _ (by simp [chN])) (hrh.out _ (by simp [chN])) (by have := hR1.out.2.2; simp only [List.length_append, List.length_cons, List.length_nil] at this; omega));obtain ⟨S2, hS2⟩ : ∃ S2, Hid (S2 = nF S1 [c.v.id, c.v.side]) := ⟨_, rfl⟩;have hR2 : Hid (Run S2 ([c.kind] ++ [c.v.id, c.v.side])) := by
    have q := hR1.out.step [c.v.id, c.v.side];rw [← hS2.out] at q;exact q
   rw [← hS2.out] at hcall;go_wp2_with fail;with_reducible refine hcall.out.mono ?_
   rintro e wa2 ⟨rfl, hW, hK⟩;have hW2 := Hd hW;have hK2 := Hd (hK1.out.trans hK);clear hcall hW hK hS2 hR1 hW1 hK1 d0 d1 d2 d3 d4 d5 d6 d7 d8 d9 d10 d11 d12;obtain ⟨d0, d1, d2, d3, d4, d5, d6, d7, d8, d9, d10, d11, d12⟩ := hcc.out wa2 hK2.out;simp only [← hn4.out, ← hn5.out] at d11 d12;have hcall := Hd (we_S (w.heap.size + 1) (w.heap.size + 1) S2 c.e wa2 hW2.out (fun n hn => hrh.out n (by simp [chN, hn])) (by have := hR2.out.2.2; simp only [List.length_append, List.length_cons, List.length_nil] at this; omega));obtain ⟨S3, hS3⟩ : ∃ S3, Hid (S3 = nF S2 (edN c.e)) := ⟨_, rfl⟩;have hR3 : Hid (Run S3 ([c.kind] ++ [c.v.id, c.v.side] ++ edN c.e)) := by
    have q := hR2.out.step (edN c.e);rw [← hS3.out] at q;exact q
   rw [← hS3.out] at hcall;go_wp2_with fail;with_reducible refine hcall.out.mono ?_
   rintro e wa3 ⟨rfl, hW, hK⟩;have hW3 := Hd hW;have hK3 := Hd (hK2.out.trans hK);clear hcall hW hK hS3 hR2 hW2 hK2 d0 d1 d2 d3 d4 d5 d6 d7 d8 d9 d10 d11 d12;obtain ⟨d0, d1, d2, d3, d4, d5, d6, d7, d8, d9, d10, d11, d12⟩ := hcc.out wa3 hK3.out;simp only [← hn4.out, ← hn5.out] at d11 d12;have hcall := Hd (two_S (w.heap.size + 1) (w.heap.size + 1) S3 c.id c.n wa3 hW3.out (hrh.out _ (by simp [chN])) (hrh.out _ (by simp [chN])) (by have := hR3.out.2.2; simp only [edN, List.length_append, List.length_cons, List.length_nil] at this; omega));obtain ⟨S4, hS4⟩ : ∃ S4, Hid (S4 = nF S3 [c.id, c.n]) := ⟨_, rfl⟩;have hR4 : Hid (Run S4 ([c.kind] ++ [c.v.id, c.v.side] ++ edN c.e ++ [c.id, c.n])) := by
    have q := hR3.out.step [c.id, c.n];rw [← hS4.out] at q;exact q
   rw [← hS4.out] at hcall;go_wp2_with fail;with_reducible refine hcall.out.mono ?_
   rintro e wa4 ⟨rfl, hW, hK⟩;have hW4 := Hd hW;have hK4 := Hd (hK3.out.trans hK);clear hcall hW hK hS4 hR3 hW3 hK3 d0 d1 d2 d3 d4 d5 d6 d7 d8 d9 d10 d11 d12;obtain ⟨d0, d1, d2, d3, d4, d5, d6, d7, d8, d9, d10, d11, d12⟩ := hcc.out wa4 hK4.out;simp only [← hn4.out, ← hn5.out] at d11 d12;have hcall := Hd (wl_S (w.heap.size + 1) (w.heap.size + 1) S4 (.slice x1 n4 x2) c.ends wa4 hW4.out (fun W K => by rw [hn4.out]; exact hxh.out.below (hbw.out W (hK4.out.trans K))) (fun n hn => hrh.out n (by simp [chN, hn])) (by rw [← hn4.out]; omega) (by have := hR4.out.2.2; simp only [edN, List.length_append, List.length_cons, List.length_nil] at this; omega));obtain ⟨S5, hS5⟩ : ∃ S5, Hid (S5 = nF (nF S4 [(c.ends.length : Int)]) c.ends) := ⟨_, rfl⟩;have hR5 : Hid (Run S5 ([c.kind] ++ [c.v.id, c.v.side] ++ edN c.e ++ [c.id, c.n] ++ [(c.ends.length : Int)] ++ c.ends)) := by
    have q := (hR4.out.step [(c.ends.length : Int)]).step c.ends;rw [← hS5.out] at q;exact q
   rw [← hS5.out] at hcall;go_wp2_with fail;with_reducible refine hcall.out.mono ?_
   rintro e wa5 ⟨rfl, hW, hK⟩;have hW5 := Hd hW;have hK5 := Hd (hK4.out.trans hK);clear hcall hW hK hS5 hR4 hW4 hK4 d0 d1 d2 d3 d4 d5 d6 d7 d8 d9 d10 d11 d12;obtain ⟨d0, d1, d2, d3, d4, d5, d6, d7, d8, d9, d10, d11, d12⟩ := hcc.out wa5 hK5.out;simp only [← hn4.out, ← hn5.out] at d11 d12;have hcall := Hd (wl_S (w.heap.size + 1) (w.heap.size + 1) S5 (.slice y1 n5 y2) c.deps wa5 hW5.out (fun W K => by rw [hn5.out]; exact hyh.out.below (hbw.out W (hK5.out.trans K))) (fun n hn => hrh.out n (by simp [chN, hn])) (by rw [← hn5.out]; omega) (by have := hR5.out.2.2; have q := hn4.out; simp only [edN, List.length_append, List.length_cons, List.length_nil] at this; omega));obtain ⟨S6, hS6⟩ : ∃ S6, Hid (S6 = nF (nF S5 [(c.deps.length : Int)]) c.deps) := ⟨_, rfl⟩;have hR6 : Hid (Run S6 (chN c)) := by
    have q := (hR5.out.step [(c.deps.length : Int)]).step c.deps;rw [← hS6.out] at q;exact q
   rw [← hS6.out] at hcall;go_wp2_with fail;with_reducible refine hcall.out.mono ?_
   rintro e wa6 ⟨rfl, hW, hK⟩;have hW6 := Hd hW;have hK6 := Hd (hK5.out.trans hK);clear hcall hW hK hS6 hR5 hW5 hK5 d0 d1 d2 d3 d4 d5 d6 d7 d8 d9 d10 d11 d12;obtain ⟨d0, d1, d2, d3, d4, d5, d6, d7, d8, d9, d10, d11, d12⟩ := hcc.out wa6 hK6.out;simp only [← hn4.out, ← hn5.out] at d11 d12;have hres := Hd (wresult_any (w.heap.size + 1) (w.heap.size + 1) S6.1 S6.2 wa6 hW6.out);have hgd := Hd (fun W B => hgood.out W S6 hR6.out B);have hb6 := Hd (hbw.out wa6 hK6.out);clear hgood hcc d0 d1 d2 d3 d4 d5 d6 d7 d8 d9 d10 d11 d12;cases hS : S6.2 with
   | false =>
    rw [hS] at hres hgd;go_wp2_with fail;with_reducible refine hres.out.mono ?_
    rintro e w9 ⟨rfl, hb9⟩;have hf := Hd (hgd.out w9 (hb6.out.trans (hb9.mono (by omega))));clear hb9 hres;go_wp2_with fail;refine bodyPost_ret (results_tmp2 rfl _ _ _) rfl ?_;exact hf.out
   | true =>
    rw [hS] at hres hgd;go_wp2_with fail;with_reducible refine hres.out.mono ?_
    rintro e w9 ⟨rfl, hb9⟩;have hf := Hd (hgd.out w9 (hb6.out.trans (hb9.mono (by omega))));clear hb9 hres;go_wp2_with fail;refine bodyPost_ret (results_tmp2 rfl _ _ _) rfl ?_;exact hf.out
end Go.Proofs.YtlaldnlgapeckaaGreat
