/- Three rows copied beside one another, in any order: the beginning of bent. -/
import Derived.Test.YtegahpfmkepfmaaDoorSB
import Derived.BigQuiet
namespace Go.Proofs.YtegahpfmkepfmaaDoor
open Go.RowKit
abbrev bentOps : Array Oper := #[{ dst := some 9, op := .buildSlice 24 0 #[], type := 24, pos := "law.go:59", after := #[], guard := none }, { dst := some 10, op := .fieldAddr 37 (.tmp 2) 0, type := 0, pos := "law.go:59", after := #[], guard := none }, { dst := some 11, op := .load 24 (.tmp 10), type := 24, pos := "law.go:59", after := #[{ on := 1, ground := Ground.data }], guard := none }, { dst := some 12, op := .call { callee := .builtin .append, args := #[Operand.tmp 9, Operand.tmp 11], argTypes := #[24, 24] }, type := 24, pos := "law.go:59", after := #[{ on := 0, ground := Ground.data }, { on := 2, ground := Ground.data }], guard := none }, { dst := some 13, op := .buildSlice 35 0 #[], type := 35, pos := "law.go:59", after := #[], guard := none }, { dst := some 14, op := .fieldAddr 37 (.tmp 2) 1, type := 0, pos := "law.go:59", after := #[], guard := none }, { dst := some 15, op := .load 35 (.tmp 14), type := 35, pos := "law.go:59", after := #[{ on := 5, ground := Ground.data }], guard := none }, { dst := some 16, op := .call { callee := .builtin .append, args := #[Operand.tmp 13, Operand.tmp 15], argTypes := #[35, 35] }, type := 35, pos := "law.go:59", after := #[{ on := 4, ground := Ground.data }, { on := 6, ground := Ground.data }, { on := 3, ground := Ground.chain }], guard := none }, { dst := some 17, op := .buildSlice 35 0 #[], type := 35, pos := "law.go:59", after := #[], guard := none }, { dst := some 18, op := .fieldAddr 37 (.tmp 2) 2, type := 0, pos := "law.go:59", after := #[], guard := none }, { dst := some 19, op := .load 35 (.tmp 18), type := 35, pos := "law.go:59", after := #[{ on := 9, ground := Ground.data }], guard := none }, { dst := some 20, op := .call { callee := .builtin .append, args := #[Operand.tmp 17, Operand.tmp 19], argTypes := #[35, 35] }, type := 35, pos := "law.go:59", after := #[{ on := 8, ground := Ground.data }, { on := 10, ground := Ground.data }, { on := 7, ground := Ground.chain }], guard := none }, { dst := some 21, op := .build 37 #[(0, Operand.tmp 12), (1, Operand.tmp 16), (2, Operand.tmp 20)], type := 37, pos := "law.go:59", after := #[{ on := 3, ground := Ground.data }, { on := 7, ground := Ground.data }, { on := 11, ground := Ground.data }], guard := none }, { dst := some 5, op := .alloc 37, type := 0, pos := "law.go:59", after := #[], guard := none }, { dst := none, op := .store 37 (.tmp 5) (.tmp 21), type := 0, pos := "law.go:59", after := #[{ on := 13, ground := Ground.data }, { on := 12, ground := Ground.data }, { on := 11, ground := Ground.chain }, { on := 0, ground := Ground.phase }, { on := 1, ground := Ground.phase }, { on := 2, ground := Ground.phase }, { on := 3, ground := Ground.phase }, { on := 4, ground := Ground.phase }, { on := 5, ground := Ground.phase }, { on := 6, ground := Ground.phase }, { on := 7, ground := Ground.phase }, { on := 8, ground := Ground.phase }, { on := 9, ground := Ground.phase }, { on := 10, ground := Ground.phase }, { on := 11, ground := Ground.phase }, { on := 12, ground := Ground.phase }, { on := 13, ground := Ground.phase }], guard := none }]
set_option linter.unusedVariables false in
set_option linter.unusedSimpArgs false in
set_option maxRecDepth 100000 in
set_option maxHeartbeats 40000000 in
theorem bent_copies (Q : Exit → Act → World → Prop) (ks : List Int) (vs ps : List Str) (h0 h1 h2 : Int) (W0 wo : World) (a1 b1 c1 : Option Addr) (n2 a2 b2 n3 c2 g2 : Nat)
  (hN1 : Hid (n2 = ks.length)) (hN2 : Hid (n2 = vs.length)) (hN3 : Hid (n3 = ps.length)) (hn64 : n2 ≤ 64) (hp64 : n3 ≤ 64)
  (fa : Hid (∀ W, Below W0.heap.size W0 W → SI W (.slice a1 n2 a2) ks)) (fb : Hid (∀ W, Below W0.heap.size W0 W → SS W (.slice b1 n2 b2) vs)) (fc : Hid (∀ W, Below W0.heap.size W0 W → SS W (.slice c1 n3 c2) ps))
  (toW : Hid (∀ W, Below wo.heap.size wo W → Below W0.heap.size W0 W))
  (cb : Hid (∀ W, Below wo.heap.size wo W → W.cell? ⟨g2, 0, none⟩ = some (.slice a1 n2 a2) ∧ W.cell? ⟨g2, 1, none⟩ = some (.slice b1 n2 b2) ∧ W.cell? ⟨g2, 2, none⟩ = some (.slice c1 n3 c2)))
  (hQ : ∀ c a w (d : Nat) v, Q (.panic c) (Act.put a (some d) v) w → Q (.panic c) a w)
  (fin : ∀ (w : World) (hB : Below wo.heap.size wo w) (m0 g0' : Nat) (x1 : Option Addr) (x2 x3 : Nat) (q0 : RowK eI 3 wo.heap.size w g0' (.slice x1 x2 x3) ks) (m1 g1' : Nat) (y1 : Option Addr) (y2 y3 : Nat) (q1 : RowK eS 9 wo.heap.size w g1' (.slice y1 y2 y3) vs) (m2 g2' : Nat) (u1 : Option Addr) (u2 u3 : Nat) (q2 : RowK eS 9 wo.heap.size w g2' (.slice u1 u2 u3) ps) (gA : Nat) (q3 : Box3 wo.heap.size w gA (.slice none 0 0) (.slice none 0 0) (.slice none 0 0)) (d01 : g0' ≠ g1') (d02 : g0' ≠ g2') (d03 : g0' ≠ gA) (d12 : g1' ≠ g2') (d13 : g1' ≠ gA) (d23 : g2' ≠ gA), Q .normal { tmps := #[.agg #[.slice a1 n2 a2, .slice b1 n2 b2, .slice c1 n3 c2], .agg #[.int .i64 h0, .int .i64 h1, .int .i64 h2], .pointer (some ⟨g2, 0, none⟩), .pointer (some ⟨g2 + 1, 0, none⟩), .pointer (some ⟨g2 + 1 + 1, 0, none⟩), .pointer (some ⟨gA, 0, none⟩), undef, undef, undef, .slice (some ⟨m0, 0, none⟩) 0 0, .pointer (some ⟨g2, 0, none⟩), .slice a1 n2 a2, .slice x1 x2 x3, .slice (some ⟨m1, 0, none⟩) 0 0, .pointer (some ⟨g2, 1, none⟩), .slice b1 n2 b2, .slice y1 y2 y3, .slice (some ⟨m2, 0, none⟩) 0 0, .pointer (some ⟨g2, 2, none⟩), .slice c1 n3 c2, .slice u1 u2 u3, .agg #[.slice x1 x2 x3, .slice y1 y2 y3, .slice u1 u2 u3], undef, undef, undef, undef, undef, undef, undef, undef, undef, undef, undef, undef, undef, undef, undef, undef, undef, undef, undef, undef, undef, undef, undef, undef, undef, undef, undef, undef, undef, undef, undef, undef, undef, undef, undef, undef, undef, undef, undef, undef, undef, undef, undef, undef, undef, undef, undef, undef, undef, undef, undef, undef, undef, undef, undef, undef, undef, undef, undef, undef, undef, undef, undef, undef, undef, undef, undef, undef, undef, undef, undef, undef, undef, undef, undef, undef, undef, undef, undef, undef, undef, undef, undef, undef, undef, undef, undef, undef, undef, undef, undef, undef, undef, undef, undef, undef, undef, undef, undef, undef, undef, undef, undef, undef, undef, undef, undef, undef, undef, undef, undef, undef, undef, undef, undef, undef, undef, undef, undef, undef, undef, undef, undef, undef, undef, undef, undef, undef, undef, undef, undef, undef, undef, undef, undef, undef, undef, undef, undef, undef, undef, undef, undef, undef, undef, undef, undef, undef, undef, undef, undef], defers := [] } (w.setRow gA #[.slice x1 x2 x3, .slice y1 y2 y3, .slice u1 u2 u3])) :
  wpAnyF Tryd.prog .any bentOps Q (fun w' : World => w'.cell? ⟨g2, 0, none⟩ = some (.slice a1 n2 a2) ∧ w'.cell? ⟨g2, 1, none⟩ = some (.slice b1 n2 b2) ∧ w'.cell? ⟨g2, 2, none⟩ = some (.slice c1 n3 c2)) 14 bentOps.size (Array.replicate bentOps.size false) { tmps := #[.agg #[.slice a1 n2 a2, .slice b1 n2 b2, .slice c1 n3 c2], .agg #[.int .i64 h0, .int .i64 h1, .int .i64 h2], .pointer (some ⟨g2, 0, none⟩), .pointer (some ⟨g2 + 1, 0, none⟩), .pointer (some ⟨g2 + 1 + 1, 0, none⟩), undef, undef, undef, undef, undef, undef, undef, undef, undef, undef, undef, undef, undef, undef, undef, undef, undef, undef, undef, undef, undef, undef, undef, undef, undef, undef, undef, undef, undef, undef, undef, undef, undef, undef, undef, undef, undef, undef, undef, undef, undef, undef, undef, undef, undef, undef, undef, undef, undef, undef, undef, undef, undef, undef, undef, undef, undef, undef, undef, undef, undef, undef, undef, undef, undef, undef, undef, undef, undef, undef, undef, undef, undef, undef, undef, undef, undef, undef, undef, undef, undef, undef, undef, undef, undef, undef, undef, undef, undef, undef, undef, undef, undef, undef, undef, undef, undef, undef, undef, undef, undef, undef, undef, undef, undef, undef, undef, undef, undef, undef, undef, undef, undef, undef, undef, undef, undef, undef, undef, undef, undef, undef, undef, undef, undef, undef, undef, undef, undef, undef, undef, undef, undef, undef, undef, undef, undef, undef, undef, undef, undef, undef, undef, undef, undef, undef, undef, undef, undef, undef, undef, undef, undef, undef, undef, undef, undef, undef, undef, undef, undef, undef, undef, undef, undef, undef, undef, undef], defers := [] } wo.drew := by
 have hHeld := cb.out _ (Below.refl _ wo).drew
 refine takeA (i := 1) (oi := { dst := some 10, op := .fieldAddr 37 (.tmp 2) 0, type := _, pos := _, after := _, guard := none }) (v := ?_) rfl (Or.inl ⟨by rfl, ?_⟩) (by assumption) ?_ (fun _ _ _ h => hQ _ _ _ _ _ h)
 rotate_left
 ·(intro w hSw; (try dsimp only at hSw); go_simp) <;> with_reducible rfl
 try simp only [Act.put, zT, z0, zS]
 refine takeA (i := 2) (oi := { dst := some 11, op := .load 24 (.tmp 10), type := _, pos := _, after := _, guard := none }) (v := ?_) rfl (Or.inl ⟨by rfl, ?_⟩) (by assumption) ?_ (fun _ _ _ h => hQ _ _ _ _ _ h)
 rotate_left
 ·(intro w hSw; (try dsimp only at hSw); go_simp) <;> with_reducible rfl
 try simp only [Act.put, zT, z0, zS]
 refine takeA (i := 5) (oi := { dst := some 14, op := .fieldAddr 37 (.tmp 2) 1, type := _, pos := _, after := _, guard := none }) (v := ?_) rfl (Or.inl ⟨by rfl, ?_⟩) (by assumption) ?_ (fun _ _ _ h => hQ _ _ _ _ _ h)
 rotate_left
 ·(intro w hSw; (try dsimp only at hSw); go_simp) <;> with_reducible rfl
 try simp only [Act.put, zT, z0, zS]
 refine takeA (i := 6) (oi := { dst := some 15, op := .load 35 (.tmp 14), type := _, pos := _, after := _, guard := none }) (v := ?_) rfl (Or.inl ⟨by rfl, ?_⟩) (by assumption) ?_ (fun _ _ _ h => hQ _ _ _ _ _ h)
 rotate_left
 ·(intro w hSw; (try dsimp only at hSw); go_simp) <;> with_reducible rfl
 try simp only [Act.put, zT, z0, zS]
 refine takeA (i := 9) (oi := { dst := some 18, op := .fieldAddr 37 (.tmp 2) 2, type := _, pos := _, after := _, guard := none }) (v := ?_) rfl (Or.inl ⟨by rfl, ?_⟩) (by assumption) ?_ (fun _ _ _ h => hQ _ _ _ _ _ h)
 rotate_left
 ·(intro w hSw; (try dsimp only at hSw); go_simp) <;> with_reducible rfl
 try simp only [Act.put, zT, z0, zS]
 refine takeA (i := 10) (oi := { dst := some 19, op := .load 35 (.tmp 18), type := _, pos := _, after := _, guard := none }) (v := ?_) rfl (Or.inl ⟨by rfl, ?_⟩) (by assumption) ?_ (fun _ _ _ h => hQ _ _ _ _ _ h)
 rotate_left
 ·(intro w hSw; (try dsimp only at hSw); go_simp) <;> with_reducible rfl
 try simp only [Act.put, zT, z0, zS]
 skip
 have st_2221b : ∀ (l : Array Bool) (hl : Hid (l = #[true, true, true, true, true, true, true, true, true, true, true, true, true, true, false])) (w : World) (hB : Below wo.heap.size wo w) (m0 g0' : Nat) (x1 : Option Addr) (x2 x3 : Nat) (q0 : RowK eI 3 wo.heap.size w g0' (.slice x1 x2 x3) ks) (m1 g1' : Nat) (y1 : Option Addr) (y2 y3 : Nat) (q1 : RowK eS 9 wo.heap.size w g1' (.slice y1 y2 y3) vs) (m2 g2' : Nat) (u1 : Option Addr) (u2 u3 : Nat) (q2 : RowK eS 9 wo.heap.size w g2' (.slice u1 u2 u3) ps) (gA : Nat) (q3 : Box3 wo.heap.size w gA (.slice none 0 0) (.slice none 0 0) (.slice none 0 0)) (d01 : g0' ≠ g1') (d02 : g0' ≠ g2') (d03 : g0' ≠ gA) (d12 : g1' ≠ g2') (d13 : g1' ≠ gA) (d23 : g2' ≠ gA), wpAnyF Tryd.prog .any bentOps Q (fun w' : World => w'.cell? ⟨g2, 0, none⟩ = some (.slice a1 n2 a2) ∧ w'.cell? ⟨g2, 1, none⟩ = some (.slice b1 n2 b2) ∧ w'.cell? ⟨g2, 2, none⟩ = some (.slice c1 n3 c2)) 14 1 l { tmps := #[.agg #[.slice a1 n2 a2, .slice b1 n2 b2, .slice c1 n3 c2], .agg #[.int .i64 h0, .int .i64 h1, .int .i64 h2], .pointer (some ⟨g2, 0, none⟩), .pointer (some ⟨g2 + 1, 0, none⟩), .pointer (some ⟨g2 + 1 + 1, 0, none⟩), .pointer (some ⟨gA, 0, none⟩), undef, undef, undef, .slice (some ⟨m0, 0, none⟩) 0 0, .pointer (some ⟨g2, 0, none⟩), .slice a1 n2 a2, .slice x1 x2 x3, .slice (some ⟨m1, 0, none⟩) 0 0, .pointer (some ⟨g2, 1, none⟩), .slice b1 n2 b2, .slice y1 y2 y3, .slice (some ⟨m2, 0, none⟩) 0 0, .pointer (some ⟨g2, 2, none⟩), .slice c1 n3 c2, .slice u1 u2 u3, .agg #[.slice x1 x2 x3, .slice y1 y2 y3, .slice u1 u2 u3], undef, undef, undef, undef, undef, undef, undef, undef, undef, undef, undef, undef, undef, undef, undef, undef, undef, undef, undef, undef, undef, undef, undef, undef, undef, undef, undef, undef, undef, undef, undef, undef, undef, undef, undef, undef, undef, undef, undef, undef, undef, undef, undef, undef, undef, undef, undef, undef, undef, undef, undef, undef, undef, undef, undef, undef, undef, undef, undef, undef, undef, undef, undef, undef, undef, undef, undef, undef, undef, undef, undef, undef, undef, undef, undef, undef, undef, undef, undef, undef, undef, undef, undef, undef, undef, undef, undef, undef, undef, undef, undef, undef, undef, undef, undef, undef, undef, undef, undef, undef, undef, undef, undef, undef, undef, undef, undef, undef, undef, undef, undef, undef, undef, undef, undef, undef, undef, undef, undef, undef, undef, undef, undef, undef, undef, undef, undef, undef, undef, undef, undef, undef, undef, undef, undef, undef, undef, undef, undef, undef, undef, undef, undef, undef, undef, undef, undef, undef, undef, undef, undef], defers := [] } w := by
  intro l hl w hB m0 g0' x1 x2 x3 q0 m1 g1' y1 y2 y3 q1 m2 g2' u1 u2 u3 q2 gA q3 d01 d02 d03 d12 d13 d23
  have hl := hl.out
  subst hl
  refine wpAnyF_ready (rs := [14]) (by kernel_rfl) (by simp) ?_
  refine AllReadyF.last (o := { dst := none, op := .store 37 (.tmp 5) (.tmp 21), type := _, pos := _, after := _, guard := none }) rfl (fun K hK => ?_) ?_
  ·skip
   refine wp_store_row 37 (.tmp 5) (.tmp 21) rfl gA #[.slice x1 x2 x3, .slice y1 y2 y3, .slice u1 u2 u3] rfl rfl 37 _ q3.2.2 size37 rfl (by simp [Value.oneCell']) ?_
   refine hK.out _ _ ?_
   clear hK K
   try simp only [Act.put, zT, z0, zS]
   refine wpAnyF_done (by kernel_rfl) ?_ _
   exact fin w hB m0 g0' x1 x2 x3 q0 m1 g1' y1 y2 y3 q1 m2 g2' u1 u2 u3 q2 gA q3 d01 d02 d03 d12 d13 d23
  exact AllReadyF.nil
 have st_2221 : ∀ (l : Array Bool) (hl : Hid (l = #[true, true, true, true, true, true, true, true, true, true, true, true, false, true, false])) (w : World) (hB : Below wo.heap.size wo w) (m0 g0' : Nat) (x1 : Option Addr) (x2 x3 : Nat) (q0 : RowK eI 3 wo.heap.size w g0' (.slice x1 x2 x3) ks) (m1 g1' : Nat) (y1 : Option Addr) (y2 y3 : Nat) (q1 : RowK eS 9 wo.heap.size w g1' (.slice y1 y2 y3) vs) (m2 g2' : Nat) (u1 : Option Addr) (u2 u3 : Nat) (q2 : RowK eS 9 wo.heap.size w g2' (.slice u1 u2 u3) ps) (gA : Nat) (q3 : Box3 wo.heap.size w gA (.slice none 0 0) (.slice none 0 0) (.slice none 0 0)) (d01 : g0' ≠ g1') (d02 : g0' ≠ g2') (d03 : g0' ≠ gA) (d12 : g1' ≠ g2') (d13 : g1' ≠ gA) (d23 : g2' ≠ gA), wpAnyF Tryd.prog .any bentOps Q (fun w' : World => w'.cell? ⟨g2, 0, none⟩ = some (.slice a1 n2 a2) ∧ w'.cell? ⟨g2, 1, none⟩ = some (.slice b1 n2 b2) ∧ w'.cell? ⟨g2, 2, none⟩ = some (.slice c1 n3 c2)) 14 2 l { tmps := #[.agg #[.slice a1 n2 a2, .slice b1 n2 b2, .slice c1 n3 c2], .agg #[.int .i64 h0, .int .i64 h1, .int .i64 h2], .pointer (some ⟨g2, 0, none⟩), .pointer (some ⟨g2 + 1, 0, none⟩), .pointer (some ⟨g2 + 1 + 1, 0, none⟩), .pointer (some ⟨gA, 0, none⟩), undef, undef, undef, .slice (some ⟨m0, 0, none⟩) 0 0, .pointer (some ⟨g2, 0, none⟩), .slice a1 n2 a2, .slice x1 x2 x3, .slice (some ⟨m1, 0, none⟩) 0 0, .pointer (some ⟨g2, 1, none⟩), .slice b1 n2 b2, .slice y1 y2 y3, .slice (some ⟨m2, 0, none⟩) 0 0, .pointer (some ⟨g2, 2, none⟩), .slice c1 n3 c2, .slice u1 u2 u3, undef, undef, undef, undef, undef, undef, undef, undef, undef, undef, undef, undef, undef, undef, undef, undef, undef, undef, undef, undef, undef, undef, undef, undef, undef, undef, undef, undef, undef, undef, undef, undef, undef, undef, undef, undef, undef, undef, undef, undef, undef, undef, undef, undef, undef, undef, undef, undef, undef, undef, undef, undef, undef, undef, undef, undef, undef, undef, undef, undef, undef, undef, undef, undef, undef, undef, undef, undef, undef, undef, undef, undef, undef, undef, undef, undef, undef, undef, undef, undef, undef, undef, undef, undef, undef, undef, undef, undef, undef, undef, undef, undef, undef, undef, undef, undef, undef, undef, undef, undef, undef, undef, undef, undef, undef, undef, undef, undef, undef, undef, undef, undef, undef, undef, undef, undef, undef, undef, undef, undef, undef, undef, undef, undef, undef, undef, undef, undef, undef, undef, undef, undef, undef, undef, undef, undef, undef, undef, undef, undef, undef, undef, undef, undef, undef, undef, undef, undef, undef, undef, undef, undef], defers := [] } w := by
  intro l hl w hB m0 g0' x1 x2 x3 q0 m1 g1' y1 y2 y3 q1 m2 g2' u1 u2 u3 q2 gA q3 d01 d02 d03 d12 d13 d23
  have hl := hl.out
  subst hl
  have sz0 := q0.2.1
  have sz1 := q1.2.1
  have sz2 := q2.2.1
  have sz3 := q3.2.1
  have hHeld := cb.out _ hB
  refine takeA (i := 12) (oi := { dst := some 21, op := .build 37 #[(0, (.tmp 12)), (1, (.tmp 16)), (2, (.tmp 20))], type := _, pos := _, after := _, guard := none }) (v := ?_) rfl (Or.inl ⟨by rfl, ?_⟩) (by assumption) ?_ (fun _ _ _ h => hQ _ _ _ _ _ h)
  rotate_left
  ·(intro w hSw; (try dsimp only at hSw); go_simp) <;> with_reducible rfl
  try simp only [Act.put, zT, z0, zS]
  exact st_2221b _ (show _ = _ by rfl) w hB m0 g0' x1 x2 x3 q0 m1 g1' y1 y2 y3 q1 m2 g2' u1 u2 u3 q2 gA q3 d01 d02 d03 d12 d13 d23
 have st_2211 : ∀ (l : Array Bool) (hl : Hid (l = #[true, true, true, true, true, true, true, true, true, true, true, false, false, true, false])) (w : World) (hB : Below wo.heap.size wo w) (m0 g0' : Nat) (x1 : Option Addr) (x2 x3 : Nat) (q0 : RowK eI 3 wo.heap.size w g0' (.slice x1 x2 x3) ks) (m1 g1' : Nat) (y1 : Option Addr) (y2 y3 : Nat) (q1 : RowK eS 9 wo.heap.size w g1' (.slice y1 y2 y3) vs) (g2' : Nat) (q2 : Lit 9 wo.heap.size w g2') (gA : Nat) (q3 : Box3 wo.heap.size w gA (.slice none 0 0) (.slice none 0 0) (.slice none 0 0)) (d01 : g0' ≠ g1') (d02 : g0' ≠ g2') (d03 : g0' ≠ gA) (d12 : g1' ≠ g2') (d13 : g1' ≠ gA) (d23 : g2' ≠ gA), wpAnyF Tryd.prog .any bentOps Q (fun w' : World => w'.cell? ⟨g2, 0, none⟩ = some (.slice a1 n2 a2) ∧ w'.cell? ⟨g2, 1, none⟩ = some (.slice b1 n2 b2) ∧ w'.cell? ⟨g2, 2, none⟩ = some (.slice c1 n3 c2)) 14 3 l { tmps := #[.agg #[.slice a1 n2 a2, .slice b1 n2 b2, .slice c1 n3 c2], .agg #[.int .i64 h0, .int .i64 h1, .int .i64 h2], .pointer (some ⟨g2, 0, none⟩), .pointer (some ⟨g2 + 1, 0, none⟩), .pointer (some ⟨g2 + 1 + 1, 0, none⟩), .pointer (some ⟨gA, 0, none⟩), undef, undef, undef, .slice (some ⟨m0, 0, none⟩) 0 0, .pointer (some ⟨g2, 0, none⟩), .slice a1 n2 a2, .slice x1 x2 x3, .slice (some ⟨m1, 0, none⟩) 0 0, .pointer (some ⟨g2, 1, none⟩), .slice b1 n2 b2, .slice y1 y2 y3, .slice (some ⟨g2', 0, none⟩) 0 0, .pointer (some ⟨g2, 2, none⟩), .slice c1 n3 c2, undef, undef, undef, undef, undef, undef, undef, undef, undef, undef, undef, undef, undef, undef, undef, undef, undef, undef, undef, undef, undef, undef, undef, undef, undef, undef, undef, undef, undef, undef, undef, undef, undef, undef, undef, undef, undef, undef, undef, undef, undef, undef, undef, undef, undef, undef, undef, undef, undef, undef, undef, undef, undef, undef, undef, undef, undef, undef, undef, undef, undef, undef, undef, undef, undef, undef, undef, undef, undef, undef, undef, undef, undef, undef, undef, undef, undef, undef, undef, undef, undef, undef, undef, undef, undef, undef, undef, undef, undef, undef, undef, undef, undef, undef, undef, undef, undef, undef, undef, undef, undef, undef, undef, undef, undef, undef, undef, undef, undef, undef, undef, undef, undef, undef, undef, undef, undef, undef, undef, undef, undef, undef, undef, undef, undef, undef, undef, undef, undef, undef, undef, undef, undef, undef, undef, undef, undef, undef, undef, undef, undef, undef, undef, undef, undef, undef, undef, undef, undef, undef, undef, undef, undef], defers := [] } w := by
  intro l hl w hB m0 g0' x1 x2 x3 q0 m1 g1' y1 y2 y3 q1 g2' q2 gA q3 d01 d02 d03 d12 d13 d23
  have hl := hl.out
  subst hl
  have sz0 := q0.2.1
  have sz1 := q1.2.1
  have sz2 := q2.2.1
  have sz3 := q3.2.1
  refine wpAnyF_ready (rs := [11]) (by kernel_rfl) (by simp) ?_
  refine AllReadyF.cons (o := { dst := some 20, op := .call { callee := .builtin .append, args := #[(.tmp 17), (.tmp 19)], argTypes := #[35, 35] }, type := _, pos := _, after := _, guard := none }) rfl (fun K hK => ?_) ?_
  ·skip
   obtain ⟨v', w', g9, ⟨u1, u2, u3, rfl⟩, hr, hq, hBB, hF, hor⟩ := app_litS w wo.heap.size g2' q2 (.slice c1 n3 c2) ps (fc.out _ (toW.out _ hB)) (by have := hN3.out; omega) hB.size
   have hBW := hB.trans hBB
   refine wp_append_run (.tmp 17) (.tmp 19) 35 rfl (.slice (some ⟨g2', 0, none⟩) 0 0) (.slice c1 n3 c2) rfl rfl _ _ hr ?_
   refine hK.out _ _ (cb.out _ hBW) (fun hHeld => ?_)
   clear hK K
   try simp only [Act.put, zT, z0, zS]
   exact st_2221 _ (show _ = _ by rfl) _ hBW _ _ _ _ _ (q0.keep hF (by omega)) _ _ _ _ _ (q1.keep hF (by omega)) _ _ _ _ _ hq _ (q3.keep hF (by omega)) (by omega) (by omega) (by omega) (by omega) (by omega) (by omega)
  exact AllReadyF.nil
 have st_2220 : ∀ (l : Array Bool) (hl : Hid (l = #[true, true, true, true, true, true, true, true, true, true, true, true, false, false, false])) (w : World) (hB : Below wo.heap.size wo w) (m0 g0' : Nat) (x1 : Option Addr) (x2 x3 : Nat) (q0 : RowK eI 3 wo.heap.size w g0' (.slice x1 x2 x3) ks) (m1 g1' : Nat) (y1 : Option Addr) (y2 y3 : Nat) (q1 : RowK eS 9 wo.heap.size w g1' (.slice y1 y2 y3) vs) (m2 g2' : Nat) (u1 : Option Addr) (u2 u3 : Nat) (q2 : RowK eS 9 wo.heap.size w g2' (.slice u1 u2 u3) ps) (d01 : g0' ≠ g1') (d02 : g0' ≠ g2') (d12 : g1' ≠ g2'), wpAnyF Tryd.prog .any bentOps Q (fun w' : World => w'.cell? ⟨g2, 0, none⟩ = some (.slice a1 n2 a2) ∧ w'.cell? ⟨g2, 1, none⟩ = some (.slice b1 n2 b2) ∧ w'.cell? ⟨g2, 2, none⟩ = some (.slice c1 n3 c2)) 14 3 l { tmps := #[.agg #[.slice a1 n2 a2, .slice b1 n2 b2, .slice c1 n3 c2], .agg #[.int .i64 h0, .int .i64 h1, .int .i64 h2], .pointer (some ⟨g2, 0, none⟩), .pointer (some ⟨g2 + 1, 0, none⟩), .pointer (some ⟨g2 + 1 + 1, 0, none⟩), undef, undef, undef, undef, .slice (some ⟨m0, 0, none⟩) 0 0, .pointer (some ⟨g2, 0, none⟩), .slice a1 n2 a2, .slice x1 x2 x3, .slice (some ⟨m1, 0, none⟩) 0 0, .pointer (some ⟨g2, 1, none⟩), .slice b1 n2 b2, .slice y1 y2 y3, .slice (some ⟨m2, 0, none⟩) 0 0, .pointer (some ⟨g2, 2, none⟩), .slice c1 n3 c2, .slice u1 u2 u3, undef, undef, undef, undef, undef, undef, undef, undef, undef, undef, undef, undef, undef, undef, undef, undef, undef, undef, undef, undef, undef, undef, undef, undef, undef, undef, undef, undef, undef, undef, undef, undef, undef, undef, undef, undef, undef, undef, undef, undef, undef, undef, undef, undef, undef, undef, undef, undef, undef, undef, undef, undef, undef, undef, undef, undef, undef, undef, undef, undef, undef, undef, undef, undef, undef, undef, undef, undef, undef, undef, undef, undef, undef, undef, undef, undef, undef, undef, undef, undef, undef, undef, undef, undef, undef, undef, undef, undef, undef, undef, undef, undef, undef, undef, undef, undef, undef, undef, undef, undef, undef, undef, undef, undef, undef, undef, undef, undef, undef, undef, undef, undef, undef, undef, undef, undef, undef, undef, undef, undef, undef, undef, undef, undef, undef, undef, undef, undef, undef, undef, undef, undef, undef, undef, undef, undef, undef, undef, undef, undef, undef, undef, undef, undef, undef, undef, undef, undef, undef, undef, undef, undef], defers := [] } w := by
  intro l hl w hB m0 g0' x1 x2 x3 q0 m1 g1' y1 y2 y3 q1 m2 g2' u1 u2 u3 q2 d01 d02 d12
  have hl := hl.out
  subst hl
  have sz0 := q0.2.1
  have sz1 := q1.2.1
  have sz2 := q2.2.1
  have hHeld := cb.out _ hB
  refine takeA (i := 12) (oi := { dst := some 21, op := .build 37 #[(0, (.tmp 12)), (1, (.tmp 16)), (2, (.tmp 20))], type := _, pos := _, after := _, guard := none }) (v := ?_) rfl (Or.inl ⟨by rfl, ?_⟩) (by assumption) ?_ (fun _ _ _ h => hQ _ _ _ _ _ h)
  rotate_left
  ·(intro w hSw; (try dsimp only at hSw); go_simp) <;> with_reducible rfl
  try simp only [Act.put, zT, z0, zS]
  refine wpAnyF_ready (rs := [13]) (by kernel_rfl) (by simp) ?_
  refine AllReadyF.cons (o := { dst := some 5, op := .alloc 37, type := _, pos := _, after := _, guard := none }) rfl (fun K hK => ?_) ?_
  ·skip
   go_simp
   go_wp2_with fail
   refine hK.out _ _ (cb.out _ (hB.alloc hB.size _)) (fun hHeld => ?_)
   clear hK K
   try simp only [Act.put, zT, z0, zS]
   exact st_2221b _ (show _ = _ by rfl) _ (hB.alloc hB.size _) _ _ _ _ _ (q0.keep (Frm.alloc w _) (by omega)) _ _ _ _ _ (q1.keep (Frm.alloc w _) (by omega)) _ _ _ _ _ (q2.keep (Frm.alloc w _) (by omega)) _ (Box3.new hB.size _ _ _) (by omega) (by omega) (by omega) (by omega) (by omega) (by omega)
  exact AllReadyF.nil
 have st_2111 : ∀ (l : Array Bool) (hl : Hid (l = #[true, true, true, true, true, true, true, false, true, true, true, false, false, true, false])) (w : World) (hB : Below wo.heap.size wo w) (m0 g0' : Nat) (x1 : Option Addr) (x2 x3 : Nat) (q0 : RowK eI 3 wo.heap.size w g0' (.slice x1 x2 x3) ks) (g1' : Nat) (q1 : Lit 9 wo.heap.size w g1') (g2' : Nat) (q2 : Lit 9 wo.heap.size w g2') (gA : Nat) (q3 : Box3 wo.heap.size w gA (.slice none 0 0) (.slice none 0 0) (.slice none 0 0)) (d01 : g0' ≠ g1') (d02 : g0' ≠ g2') (d03 : g0' ≠ gA) (d12 : g1' ≠ g2') (d13 : g1' ≠ gA) (d23 : g2' ≠ gA), wpAnyF Tryd.prog .any bentOps Q (fun w' : World => w'.cell? ⟨g2, 0, none⟩ = some (.slice a1 n2 a2) ∧ w'.cell? ⟨g2, 1, none⟩ = some (.slice b1 n2 b2) ∧ w'.cell? ⟨g2, 2, none⟩ = some (.slice c1 n3 c2)) 14 4 l { tmps := #[.agg #[.slice a1 n2 a2, .slice b1 n2 b2, .slice c1 n3 c2], .agg #[.int .i64 h0, .int .i64 h1, .int .i64 h2], .pointer (some ⟨g2, 0, none⟩), .pointer (some ⟨g2 + 1, 0, none⟩), .pointer (some ⟨g2 + 1 + 1, 0, none⟩), .pointer (some ⟨gA, 0, none⟩), undef, undef, undef, .slice (some ⟨m0, 0, none⟩) 0 0, .pointer (some ⟨g2, 0, none⟩), .slice a1 n2 a2, .slice x1 x2 x3, .slice (some ⟨g1', 0, none⟩) 0 0, .pointer (some ⟨g2, 1, none⟩), .slice b1 n2 b2, undef, .slice (some ⟨g2', 0, none⟩) 0 0, .pointer (some ⟨g2, 2, none⟩), .slice c1 n3 c2, undef, undef, undef, undef, undef, undef, undef, undef, undef, undef, undef, undef, undef, undef, undef, undef, undef, undef, undef, undef, undef, undef, undef, undef, undef, undef, undef, undef, undef, undef, undef, undef, undef, undef, undef, undef, undef, undef, undef, undef, undef, undef, undef, undef, undef, undef, undef, undef, undef, undef, undef, undef, undef, undef, undef, undef, undef, undef, undef, undef, undef, undef, undef, undef, undef, undef, undef, undef, undef, undef, undef, undef, undef, undef, undef, undef, undef, undef, undef, undef, undef, undef, undef, undef, undef, undef, undef, undef, undef, undef, undef, undef, undef, undef, undef, undef, undef, undef, undef, undef, undef, undef, undef, undef, undef, undef, undef, undef, undef, undef, undef, undef, undef, undef, undef, undef, undef, undef, undef, undef, undef, undef, undef, undef, undef, undef, undef, undef, undef, undef, undef, undef, undef, undef, undef, undef, undef, undef, undef, undef, undef, undef, undef, undef, undef, undef, undef, undef, undef, undef, undef, undef, undef], defers := [] } w := by
  intro l hl w hB m0 g0' x1 x2 x3 q0 g1' q1 g2' q2 gA q3 d01 d02 d03 d12 d13 d23
  have hl := hl.out
  subst hl
  have sz0 := q0.2.1
  have sz1 := q1.2.1
  have sz2 := q2.2.1
  have sz3 := q3.2.1
  refine wpAnyF_ready (rs := [7]) (by kernel_rfl) (by simp) ?_
  refine AllReadyF.cons (o := { dst := some 16, op := .call { callee := .builtin .append, args := #[(.tmp 13), (.tmp 15)], argTypes := #[35, 35] }, type := _, pos := _, after := _, guard := none }) rfl (fun K hK => ?_) ?_
  ·skip
   obtain ⟨v', w', g9, ⟨y1, y2, y3, rfl⟩, hr, hq, hBB, hF, hor⟩ := app_litS w wo.heap.size g1' q1 (.slice b1 n2 b2) vs (fb.out _ (toW.out _ hB)) (by have := hN2.out; omega) hB.size
   have hBW := hB.trans hBB
   refine wp_append_run (.tmp 13) (.tmp 15) 35 rfl (.slice (some ⟨g1', 0, none⟩) 0 0) (.slice b1 n2 b2) rfl rfl _ _ hr ?_
   refine hK.out _ _ (cb.out _ hBW) (fun hHeld => ?_)
   clear hK K
   try simp only [Act.put, zT, z0, zS]
   exact st_2211 _ (show _ = _ by rfl) _ hBW _ _ _ _ _ (q0.keep hF (by omega)) _ _ _ _ _ hq _ (q2.keep hF (by omega)) _ (q3.keep hF (by omega)) (by omega) (by omega) (by omega) (by omega) (by omega) (by omega)
  exact AllReadyF.nil
 have st_2201 : ∀ (l : Array Bool) (hl : Hid (l = #[true, true, true, true, true, true, true, true, false, true, true, false, false, true, false])) (w : World) (hB : Below wo.heap.size wo w) (m0 g0' : Nat) (x1 : Option Addr) (x2 x3 : Nat) (q0 : RowK eI 3 wo.heap.size w g0' (.slice x1 x2 x3) ks) (m1 g1' : Nat) (y1 : Option Addr) (y2 y3 : Nat) (q1 : RowK eS 9 wo.heap.size w g1' (.slice y1 y2 y3) vs) (gA : Nat) (q3 : Box3 wo.heap.size w gA (.slice none 0 0) (.slice none 0 0) (.slice none 0 0)) (d01 : g0' ≠ g1') (d03 : g0' ≠ gA) (d13 : g1' ≠ gA), wpAnyF Tryd.prog .any bentOps Q (fun w' : World => w'.cell? ⟨g2, 0, none⟩ = some (.slice a1 n2 a2) ∧ w'.cell? ⟨g2, 1, none⟩ = some (.slice b1 n2 b2) ∧ w'.cell? ⟨g2, 2, none⟩ = some (.slice c1 n3 c2)) 14 4 l { tmps := #[.agg #[.slice a1 n2 a2, .slice b1 n2 b2, .slice c1 n3 c2], .agg #[.int .i64 h0, .int .i64 h1, .int .i64 h2], .pointer (some ⟨g2, 0, none⟩), .pointer (some ⟨g2 + 1, 0, none⟩), .pointer (some ⟨g2 + 1 + 1, 0, none⟩), .pointer (some ⟨gA, 0, none⟩), undef, undef, undef, .slice (some ⟨m0, 0, none⟩) 0 0, .pointer (some ⟨g2, 0, none⟩), .slice a1 n2 a2, .slice x1 x2 x3, .slice (some ⟨m1, 0, none⟩) 0 0, .pointer (some ⟨g2, 1, none⟩), .slice b1 n2 b2, .slice y1 y2 y3, undef, .pointer (some ⟨g2, 2, none⟩), .slice c1 n3 c2, undef, undef, undef, undef, undef, undef, undef, undef, undef, undef, undef, undef, undef, undef, undef, undef, undef, undef, undef, undef, undef, undef, undef, undef, undef, undef, undef, undef, undef, undef, undef, undef, undef, undef, undef, undef, undef, undef, undef, undef, undef, undef, undef, undef, undef, undef, undef, undef, undef, undef, undef, undef, undef, undef, undef, undef, undef, undef, undef, undef, undef, undef, undef, undef, undef, undef, undef, undef, undef, undef, undef, undef, undef, undef, undef, undef, undef, undef, undef, undef, undef, undef, undef, undef, undef, undef, undef, undef, undef, undef, undef, undef, undef, undef, undef, undef, undef, undef, undef, undef, undef, undef, undef, undef, undef, undef, undef, undef, undef, undef, undef, undef, undef, undef, undef, undef, undef, undef, undef, undef, undef, undef, undef, undef, undef, undef, undef, undef, undef, undef, undef, undef, undef, undef, undef, undef, undef, undef, undef, undef, undef, undef, undef, undef, undef, undef, undef, undef, undef, undef, undef, undef, undef], defers := [] } w := by
  intro l hl w hB m0 g0' x1 x2 x3 q0 m1 g1' y1 y2 y3 q1 gA q3 d01 d03 d13
  have hl := hl.out
  subst hl
  have sz0 := q0.2.1
  have sz1 := q1.2.1
  have sz3 := q3.2.1
  refine wpAnyF_ready (rs := [8]) (by kernel_rfl) (by simp) ?_
  refine AllReadyF.cons (o := { dst := some 17, op := .buildSlice 35 0 #[], type := _, pos := _, after := _, guard := none }) rfl (fun K hK => ?_) ?_
  ·skip
   go_simp
   go_wp2_with fail
   refine hK.out _ _ (cb.out _ (hB.alloc hB.size _)) (fun hHeld => ?_)
   clear hK K
   try simp only [Act.put, zT, z0, zS]
   exact st_2211 _ (show _ = _ by rfl) _ (hB.alloc hB.size _) _ _ _ _ _ (q0.keep (Frm.alloc w _) (by omega)) _ _ _ _ _ (q1.keep (Frm.alloc w _) (by omega)) _ (Lit.new hB.size) _ (q3.keep (Frm.alloc w _) (by omega)) (by omega) (by omega) (by omega) (by omega) (by omega) (by omega)
  exact AllReadyF.nil
 have st_2210 : ∀ (l : Array Bool) (hl : Hid (l = #[true, true, true, true, true, true, true, true, true, true, true, false, false, false, false])) (w : World) (hB : Below wo.heap.size wo w) (m0 g0' : Nat) (x1 : Option Addr) (x2 x3 : Nat) (q0 : RowK eI 3 wo.heap.size w g0' (.slice x1 x2 x3) ks) (m1 g1' : Nat) (y1 : Option Addr) (y2 y3 : Nat) (q1 : RowK eS 9 wo.heap.size w g1' (.slice y1 y2 y3) vs) (g2' : Nat) (q2 : Lit 9 wo.heap.size w g2') (d01 : g0' ≠ g1') (d02 : g0' ≠ g2') (d12 : g1' ≠ g2'), wpAnyF Tryd.prog .any bentOps Q (fun w' : World => w'.cell? ⟨g2, 0, none⟩ = some (.slice a1 n2 a2) ∧ w'.cell? ⟨g2, 1, none⟩ = some (.slice b1 n2 b2) ∧ w'.cell? ⟨g2, 2, none⟩ = some (.slice c1 n3 c2)) 14 4 l { tmps := #[.agg #[.slice a1 n2 a2, .slice b1 n2 b2, .slice c1 n3 c2], .agg #[.int .i64 h0, .int .i64 h1, .int .i64 h2], .pointer (some ⟨g2, 0, none⟩), .pointer (some ⟨g2 + 1, 0, none⟩), .pointer (some ⟨g2 + 1 + 1, 0, none⟩), undef, undef, undef, undef, .slice (some ⟨m0, 0, none⟩) 0 0, .pointer (some ⟨g2, 0, none⟩), .slice a1 n2 a2, .slice x1 x2 x3, .slice (some ⟨m1, 0, none⟩) 0 0, .pointer (some ⟨g2, 1, none⟩), .slice b1 n2 b2, .slice y1 y2 y3, .slice (some ⟨g2', 0, none⟩) 0 0, .pointer (some ⟨g2, 2, none⟩), .slice c1 n3 c2, undef, undef, undef, undef, undef, undef, undef, undef, undef, undef, undef, undef, undef, undef, undef, undef, undef, undef, undef, undef, undef, undef, undef, undef, undef, undef, undef, undef, undef, undef, undef, undef, undef, undef, undef, undef, undef, undef, undef, undef, undef, undef, undef, undef, undef, undef, undef, undef, undef, undef, undef, undef, undef, undef, undef, undef, undef, undef, undef, undef, undef, undef, undef, undef, undef, undef, undef, undef, undef, undef, undef, undef, undef, undef, undef, undef, undef, undef, undef, undef, undef, undef, undef, undef, undef, undef, undef, undef, undef, undef, undef, undef, undef, undef, undef, undef, undef, undef, undef, undef, undef, undef, undef, undef, undef, undef, undef, undef, undef, undef, undef, undef, undef, undef, undef, undef, undef, undef, undef, undef, undef, undef, undef, undef, undef, undef, undef, undef, undef, undef, undef, undef, undef, undef, undef, undef, undef, undef, undef, undef, undef, undef, undef, undef, undef, undef, undef, undef, undef, undef, undef, undef, undef], defers := [] } w := by
  intro l hl w hB m0 g0' x1 x2 x3 q0 m1 g1' y1 y2 y3 q1 g2' q2 d01 d02 d12
  have hl := hl.out
  subst hl
  have sz0 := q0.2.1
  have sz1 := q1.2.1
  have sz2 := q2.2.1
  refine wpAnyF_ready (rs := [11, 13]) (by kernel_rfl) (by simp) ?_
  refine AllReadyF.cons (o := { dst := some 20, op := .call { callee := .builtin .append, args := #[(.tmp 17), (.tmp 19)], argTypes := #[35, 35] }, type := _, pos := _, after := _, guard := none }) rfl (fun K hK => ?_) ?_
  ·skip
   obtain ⟨v', w', g9, ⟨u1, u2, u3, rfl⟩, hr, hq, hBB, hF, hor⟩ := app_litS w wo.heap.size g2' q2 (.slice c1 n3 c2) ps (fc.out _ (toW.out _ hB)) (by have := hN3.out; omega) hB.size
   have hBW := hB.trans hBB
   refine wp_append_run (.tmp 17) (.tmp 19) 35 rfl (.slice (some ⟨g2', 0, none⟩) 0 0) (.slice c1 n3 c2) rfl rfl _ _ hr ?_
   refine hK.out _ _ (cb.out _ hBW) (fun hHeld => ?_)
   clear hK K
   try simp only [Act.put, zT, z0, zS]
   exact st_2220 _ (show _ = _ by rfl) _ hBW _ _ _ _ _ (q0.keep hF (by omega)) _ _ _ _ _ (q1.keep hF (by omega)) _ _ _ _ _ hq (by omega) (by omega) (by omega)
  refine AllReadyF.cons (o := { dst := some 5, op := .alloc 37, type := _, pos := _, after := _, guard := none }) rfl (fun K hK => ?_) ?_
  ·skip
   go_simp
   go_wp2_with fail
   refine hK.out _ _ (cb.out _ (hB.alloc hB.size _)) (fun hHeld => ?_)
   clear hK K
   try simp only [Act.put, zT, z0, zS]
   exact st_2211 _ (show _ = _ by rfl) _ (hB.alloc hB.size _) _ _ _ _ _ (q0.keep (Frm.alloc w _) (by omega)) _ _ _ _ _ (q1.keep (Frm.alloc w _) (by omega)) _ (q2.keep (Frm.alloc w _) (by omega)) _ (Box3.new hB.size _ _ _) (by omega) (by omega) (by omega) (by omega) (by omega) (by omega)
  exact AllReadyF.nil
 have st_1111 : ∀ (l : Array Bool) (hl : Hid (l = #[true, true, true, false, true, true, true, false, true, true, true, false, false, true, false])) (w : World) (hB : Below wo.heap.size wo w) (g0' : Nat) (q0 : Lit 3 wo.heap.size w g0') (g1' : Nat) (q1 : Lit 9 wo.heap.size w g1') (g2' : Nat) (q2 : Lit 9 wo.heap.size w g2') (gA : Nat) (q3 : Box3 wo.heap.size w gA (.slice none 0 0) (.slice none 0 0) (.slice none 0 0)) (d01 : g0' ≠ g1') (d02 : g0' ≠ g2') (d03 : g0' ≠ gA) (d12 : g1' ≠ g2') (d13 : g1' ≠ gA) (d23 : g2' ≠ gA), wpAnyF Tryd.prog .any bentOps Q (fun w' : World => w'.cell? ⟨g2, 0, none⟩ = some (.slice a1 n2 a2) ∧ w'.cell? ⟨g2, 1, none⟩ = some (.slice b1 n2 b2) ∧ w'.cell? ⟨g2, 2, none⟩ = some (.slice c1 n3 c2)) 14 5 l { tmps := #[.agg #[.slice a1 n2 a2, .slice b1 n2 b2, .slice c1 n3 c2], .agg #[.int .i64 h0, .int .i64 h1, .int .i64 h2], .pointer (some ⟨g2, 0, none⟩), .pointer (some ⟨g2 + 1, 0, none⟩), .pointer (some ⟨g2 + 1 + 1, 0, none⟩), .pointer (some ⟨gA, 0, none⟩), undef, undef, undef, .slice (some ⟨g0', 0, none⟩) 0 0, .pointer (some ⟨g2, 0, none⟩), .slice a1 n2 a2, undef, .slice (some ⟨g1', 0, none⟩) 0 0, .pointer (some ⟨g2, 1, none⟩), .slice b1 n2 b2, undef, .slice (some ⟨g2', 0, none⟩) 0 0, .pointer (some ⟨g2, 2, none⟩), .slice c1 n3 c2, undef, undef, undef, undef, undef, undef, undef, undef, undef, undef, undef, undef, undef, undef, undef, undef, undef, undef, undef, undef, undef, undef, undef, undef, undef, undef, undef, undef, undef, undef, undef, undef, undef, undef, undef, undef, undef, undef, undef, undef, undef, undef, undef, undef, undef, undef, undef, undef, undef, undef, undef, undef, undef, undef, undef, undef, undef, undef, undef, undef, undef, undef, undef, undef, undef, undef, undef, undef, undef, undef, undef, undef, undef, undef, undef, undef, undef, undef, undef, undef, undef, undef, undef, undef, undef, undef, undef, undef, undef, undef, undef, undef, undef, undef, undef, undef, undef, undef, undef, undef, undef, undef, undef, undef, undef, undef, undef, undef, undef, undef, undef, undef, undef, undef, undef, undef, undef, undef, undef, undef, undef, undef, undef, undef, undef, undef, undef, undef, undef, undef, undef, undef, undef, undef, undef, undef, undef, undef, undef, undef, undef, undef, undef, undef, undef, undef, undef, undef, undef, undef, undef, undef, undef], defers := [] } w := by
  intro l hl w hB g0' q0 g1' q1 g2' q2 gA q3 d01 d02 d03 d12 d13 d23
  have hl := hl.out
  subst hl
  have sz0 := q0.2.1
  have sz1 := q1.2.1
  have sz2 := q2.2.1
  have sz3 := q3.2.1
  refine wpAnyF_ready (rs := [3]) (by kernel_rfl) (by simp) ?_
  refine AllReadyF.cons (o := { dst := some 12, op := .call { callee := .builtin .append, args := #[(.tmp 9), (.tmp 11)], argTypes := #[24, 24] }, type := _, pos := _, after := _, guard := none }) rfl (fun K hK => ?_) ?_
  ·skip
   obtain ⟨v', w', g9, ⟨x1, x2, x3, rfl⟩, hr, hq, hBB, hF, hor⟩ := app_litI w wo.heap.size g0' q0 (.slice a1 n2 a2) ks (fa.out _ (toW.out _ hB)) (by have := hN1.out; omega) hB.size
   have hBW := hB.trans hBB
   refine wp_append_run (.tmp 9) (.tmp 11) 24 rfl (.slice (some ⟨g0', 0, none⟩) 0 0) (.slice a1 n2 a2) rfl rfl _ _ hr ?_
   refine hK.out _ _ (cb.out _ hBW) (fun hHeld => ?_)
   clear hK K
   try simp only [Act.put, zT, z0, zS]
   exact st_2111 _ (show _ = _ by rfl) _ hBW _ _ _ _ _ hq _ (q1.keep hF (by omega)) _ (q2.keep hF (by omega)) _ (q3.keep hF (by omega)) (by omega) (by omega) (by omega) (by omega) (by omega) (by omega)
  exact AllReadyF.nil
 have st_2011 : ∀ (l : Array Bool) (hl : Hid (l = #[true, true, true, true, false, true, true, false, true, true, true, false, false, true, false])) (w : World) (hB : Below wo.heap.size wo w) (m0 g0' : Nat) (x1 : Option Addr) (x2 x3 : Nat) (q0 : RowK eI 3 wo.heap.size w g0' (.slice x1 x2 x3) ks) (g2' : Nat) (q2 : Lit 9 wo.heap.size w g2') (gA : Nat) (q3 : Box3 wo.heap.size w gA (.slice none 0 0) (.slice none 0 0) (.slice none 0 0)) (d02 : g0' ≠ g2') (d03 : g0' ≠ gA) (d23 : g2' ≠ gA), wpAnyF Tryd.prog .any bentOps Q (fun w' : World => w'.cell? ⟨g2, 0, none⟩ = some (.slice a1 n2 a2) ∧ w'.cell? ⟨g2, 1, none⟩ = some (.slice b1 n2 b2) ∧ w'.cell? ⟨g2, 2, none⟩ = some (.slice c1 n3 c2)) 14 5 l { tmps := #[.agg #[.slice a1 n2 a2, .slice b1 n2 b2, .slice c1 n3 c2], .agg #[.int .i64 h0, .int .i64 h1, .int .i64 h2], .pointer (some ⟨g2, 0, none⟩), .pointer (some ⟨g2 + 1, 0, none⟩), .pointer (some ⟨g2 + 1 + 1, 0, none⟩), .pointer (some ⟨gA, 0, none⟩), undef, undef, undef, .slice (some ⟨m0, 0, none⟩) 0 0, .pointer (some ⟨g2, 0, none⟩), .slice a1 n2 a2, .slice x1 x2 x3, undef, .pointer (some ⟨g2, 1, none⟩), .slice b1 n2 b2, undef, .slice (some ⟨g2', 0, none⟩) 0 0, .pointer (some ⟨g2, 2, none⟩), .slice c1 n3 c2, undef, undef, undef, undef, undef, undef, undef, undef, undef, undef, undef, undef, undef, undef, undef, undef, undef, undef, undef, undef, undef, undef, undef, undef, undef, undef, undef, undef, undef, undef, undef, undef, undef, undef, undef, undef, undef, undef, undef, undef, undef, undef, undef, undef, undef, undef, undef, undef, undef, undef, undef, undef, undef, undef, undef, undef, undef, undef, undef, undef, undef, undef, undef, undef, undef, undef, undef, undef, undef, undef, undef, undef, undef, undef, undef, undef, undef, undef, undef, undef, undef, undef, undef, undef, undef, undef, undef, undef, undef, undef, undef, undef, undef, undef, undef, undef, undef, undef, undef, undef, undef, undef, undef, undef, undef, undef, undef, undef, undef, undef, undef, undef, undef, undef, undef, undef, undef, undef, undef, undef, undef, undef, undef, undef, undef, undef, undef, undef, undef, undef, undef, undef, undef, undef, undef, undef, undef, undef, undef, undef, undef, undef, undef, undef, undef, undef, undef, undef, undef, undef, undef, undef, undef], defers := [] } w := by
  intro l hl w hB m0 g0' x1 x2 x3 q0 g2' q2 gA q3 d02 d03 d23
  have hl := hl.out
  subst hl
  have sz0 := q0.2.1
  have sz2 := q2.2.1
  have sz3 := q3.2.1
  refine wpAnyF_ready (rs := [4]) (by kernel_rfl) (by simp) ?_
  refine AllReadyF.cons (o := { dst := some 13, op := .buildSlice 35 0 #[], type := _, pos := _, after := _, guard := none }) rfl (fun K hK => ?_) ?_
  ·skip
   go_simp
   go_wp2_with fail
   refine hK.out _ _ (cb.out _ (hB.alloc hB.size _)) (fun hHeld => ?_)
   clear hK K
   try simp only [Act.put, zT, z0, zS]
   exact st_2111 _ (show _ = _ by rfl) _ (hB.alloc hB.size _) _ _ _ _ _ (q0.keep (Frm.alloc w _) (by omega)) _ (Lit.new hB.size) _ (q2.keep (Frm.alloc w _) (by omega)) _ (q3.keep (Frm.alloc w _) (by omega)) (by omega) (by omega) (by omega) (by omega) (by omega) (by omega)
  exact AllReadyF.nil
 have st_2101 : ∀ (l : Array Bool) (hl : Hid (l = #[true, true, true, true, true, true, true, false, false, true, true, false, false, true, false])) (w : World) (hB : Below wo.heap.size wo w) (m0 g0' : Nat) (x1 : Option Addr) (x2 x3 : Nat) (q0 : RowK eI 3 wo.heap.size w g0' (.slice x1 x2 x3) ks) (g1' : Nat) (q1 : Lit 9 wo.heap.size w g1') (gA : Nat) (q3 : Box3 wo.heap.size w gA (.slice none 0 0) (.slice none 0 0) (.slice none 0 0)) (d01 : g0' ≠ g1') (d03 : g0' ≠ gA) (d13 : g1' ≠ gA), wpAnyF Tryd.prog .any bentOps Q (fun w' : World => w'.cell? ⟨g2, 0, none⟩ = some (.slice a1 n2 a2) ∧ w'.cell? ⟨g2, 1, none⟩ = some (.slice b1 n2 b2) ∧ w'.cell? ⟨g2, 2, none⟩ = some (.slice c1 n3 c2)) 14 5 l { tmps := #[.agg #[.slice a1 n2 a2, .slice b1 n2 b2, .slice c1 n3 c2], .agg #[.int .i64 h0, .int .i64 h1, .int .i64 h2], .pointer (some ⟨g2, 0, none⟩), .pointer (some ⟨g2 + 1, 0, none⟩), .pointer (some ⟨g2 + 1 + 1, 0, none⟩), .pointer (some ⟨gA, 0, none⟩), undef, undef, undef, .slice (some ⟨m0, 0, none⟩) 0 0, .pointer (some ⟨g2, 0, none⟩), .slice a1 n2 a2, .slice x1 x2 x3, .slice (some ⟨g1', 0, none⟩) 0 0, .pointer (some ⟨g2, 1, none⟩), .slice b1 n2 b2, undef, undef, .pointer (some ⟨g2, 2, none⟩), .slice c1 n3 c2, undef, undef, undef, undef, undef, undef, undef, undef, undef, undef, undef, undef, undef, undef, undef, undef, undef, undef, undef, undef, undef, undef, undef, undef, undef, undef, undef, undef, undef, undef, undef, undef, undef, undef, undef, undef, undef, undef, undef, undef, undef, undef, undef, undef, undef, undef, undef, undef, undef, undef, undef, undef, undef, undef, undef, undef, undef, undef, undef, undef, undef, undef, undef, undef, undef, undef, undef, undef, undef, undef, undef, undef, undef, undef, undef, undef, undef, undef, undef, undef, undef, undef, undef, undef, undef, undef, undef, undef, undef, undef, undef, undef, undef, undef, undef, undef, undef, undef, undef, undef, undef, undef, undef, undef, undef, undef, undef, undef, undef, undef, undef, undef, undef, undef, undef, undef, undef, undef, undef, undef, undef, undef, undef, undef, undef, undef, undef, undef, undef, undef, undef, undef, undef, undef, undef, undef, undef, undef, undef, undef, undef, undef, undef, undef, undef, undef, undef, undef, undef, undef, undef, undef, undef], defers := [] } w := by
  intro l hl w hB m0 g0' x1 x2 x3 q0 g1' q1 gA q3 d01 d03 d13
  have hl := hl.out
  subst hl
  have sz0 := q0.2.1
  have sz1 := q1.2.1
  have sz3 := q3.2.1
  refine wpAnyF_ready (rs := [7, 8]) (by kernel_rfl) (by simp) ?_
  refine AllReadyF.cons (o := { dst := some 16, op := .call { callee := .builtin .append, args := #[(.tmp 13), (.tmp 15)], argTypes := #[35, 35] }, type := _, pos := _, after := _, guard := none }) rfl (fun K hK => ?_) ?_
  ·skip
   obtain ⟨v', w', g9, ⟨y1, y2, y3, rfl⟩, hr, hq, hBB, hF, hor⟩ := app_litS w wo.heap.size g1' q1 (.slice b1 n2 b2) vs (fb.out _ (toW.out _ hB)) (by have := hN2.out; omega) hB.size
   have hBW := hB.trans hBB
   refine wp_append_run (.tmp 13) (.tmp 15) 35 rfl (.slice (some ⟨g1', 0, none⟩) 0 0) (.slice b1 n2 b2) rfl rfl _ _ hr ?_
   refine hK.out _ _ (cb.out _ hBW) (fun hHeld => ?_)
   clear hK K
   try simp only [Act.put, zT, z0, zS]
   exact st_2201 _ (show _ = _ by rfl) _ hBW _ _ _ _ _ (q0.keep hF (by omega)) _ _ _ _ _ hq _ (q3.keep hF (by omega)) (by omega) (by omega) (by omega)
  refine AllReadyF.cons (o := { dst := some 17, op := .buildSlice 35 0 #[], type := _, pos := _, after := _, guard := none }) rfl (fun K hK => ?_) ?_
  ·skip
   go_simp
   go_wp2_with fail
   refine hK.out _ _ (cb.out _ (hB.alloc hB.size _)) (fun hHeld => ?_)
   clear hK K
   try simp only [Act.put, zT, z0, zS]
   exact st_2111 _ (show _ = _ by rfl) _ (hB.alloc hB.size _) _ _ _ _ _ (q0.keep (Frm.alloc w _) (by omega)) _ (q1.keep (Frm.alloc w _) (by omega)) _ (Lit.new hB.size) _ (q3.keep (Frm.alloc w _) (by omega)) (by omega) (by omega) (by omega) (by omega) (by omega) (by omega)
  exact AllReadyF.nil
 have st_2110 : ∀ (l : Array Bool) (hl : Hid (l = #[true, true, true, true, true, true, true, false, true, true, true, false, false, false, false])) (w : World) (hB : Below wo.heap.size wo w) (m0 g0' : Nat) (x1 : Option Addr) (x2 x3 : Nat) (q0 : RowK eI 3 wo.heap.size w g0' (.slice x1 x2 x3) ks) (g1' : Nat) (q1 : Lit 9 wo.heap.size w g1') (g2' : Nat) (q2 : Lit 9 wo.heap.size w g2') (d01 : g0' ≠ g1') (d02 : g0' ≠ g2') (d12 : g1' ≠ g2'), wpAnyF Tryd.prog .any bentOps Q (fun w' : World => w'.cell? ⟨g2, 0, none⟩ = some (.slice a1 n2 a2) ∧ w'.cell? ⟨g2, 1, none⟩ = some (.slice b1 n2 b2) ∧ w'.cell? ⟨g2, 2, none⟩ = some (.slice c1 n3 c2)) 14 5 l { tmps := #[.agg #[.slice a1 n2 a2, .slice b1 n2 b2, .slice c1 n3 c2], .agg #[.int .i64 h0, .int .i64 h1, .int .i64 h2], .pointer (some ⟨g2, 0, none⟩), .pointer (some ⟨g2 + 1, 0, none⟩), .pointer (some ⟨g2 + 1 + 1, 0, none⟩), undef, undef, undef, undef, .slice (some ⟨m0, 0, none⟩) 0 0, .pointer (some ⟨g2, 0, none⟩), .slice a1 n2 a2, .slice x1 x2 x3, .slice (some ⟨g1', 0, none⟩) 0 0, .pointer (some ⟨g2, 1, none⟩), .slice b1 n2 b2, undef, .slice (some ⟨g2', 0, none⟩) 0 0, .pointer (some ⟨g2, 2, none⟩), .slice c1 n3 c2, undef, undef, undef, undef, undef, undef, undef, undef, undef, undef, undef, undef, undef, undef, undef, undef, undef, undef, undef, undef, undef, undef, undef, undef, undef, undef, undef, undef, undef, undef, undef, undef, undef, undef, undef, undef, undef, undef, undef, undef, undef, undef, undef, undef, undef, undef, undef, undef, undef, undef, undef, undef, undef, undef, undef, undef, undef, undef, undef, undef, undef, undef, undef, undef, undef, undef, undef, undef, undef, undef, undef, undef, undef, undef, undef, undef, undef, undef, undef, undef, undef, undef, undef, undef, undef, undef, undef, undef, undef, undef, undef, undef, undef, undef, undef, undef, undef, undef, undef, undef, undef, undef, undef, undef, undef, undef, undef, undef, undef, undef, undef, undef, undef, undef, undef, undef, undef, undef, undef, undef, undef, undef, undef, undef, undef, undef, undef, undef, undef, undef, undef, undef, undef, undef, undef, undef, undef, undef, undef, undef, undef, undef, undef, undef, undef, undef, undef, undef, undef, undef, undef, undef, undef], defers := [] } w := by
  intro l hl w hB m0 g0' x1 x2 x3 q0 g1' q1 g2' q2 d01 d02 d12
  have hl := hl.out
  subst hl
  have sz0 := q0.2.1
  have sz1 := q1.2.1
  have sz2 := q2.2.1
  refine wpAnyF_ready (rs := [7, 13]) (by kernel_rfl) (by simp) ?_
  refine AllReadyF.cons (o := { dst := some 16, op := .call { callee := .builtin .append, args := #[(.tmp 13), (.tmp 15)], argTypes := #[35, 35] }, type := _, pos := _, after := _, guard := none }) rfl (fun K hK => ?_) ?_
  ·skip
   obtain ⟨v', w', g9, ⟨y1, y2, y3, rfl⟩, hr, hq, hBB, hF, hor⟩ := app_litS w wo.heap.size g1' q1 (.slice b1 n2 b2) vs (fb.out _ (toW.out _ hB)) (by have := hN2.out; omega) hB.size
   have hBW := hB.trans hBB
   refine wp_append_run (.tmp 13) (.tmp 15) 35 rfl (.slice (some ⟨g1', 0, none⟩) 0 0) (.slice b1 n2 b2) rfl rfl _ _ hr ?_
   refine hK.out _ _ (cb.out _ hBW) (fun hHeld => ?_)
   clear hK K
   try simp only [Act.put, zT, z0, zS]
   exact st_2210 _ (show _ = _ by rfl) _ hBW _ _ _ _ _ (q0.keep hF (by omega)) _ _ _ _ _ hq _ (q2.keep hF (by omega)) (by omega) (by omega) (by omega)
  refine AllReadyF.cons (o := { dst := some 5, op := .alloc 37, type := _, pos := _, after := _, guard := none }) rfl (fun K hK => ?_) ?_
  ·skip
   go_simp
   go_wp2_with fail
   refine hK.out _ _ (cb.out _ (hB.alloc hB.size _)) (fun hHeld => ?_)
   clear hK K
   try simp only [Act.put, zT, z0, zS]
   exact st_2111 _ (show _ = _ by rfl) _ (hB.alloc hB.size _) _ _ _ _ _ (q0.keep (Frm.alloc w _) (by omega)) _ (q1.keep (Frm.alloc w _) (by omega)) _ (q2.keep (Frm.alloc w _) (by omega)) _ (Box3.new hB.size _ _ _) (by omega) (by omega) (by omega) (by omega) (by omega) (by omega)
  exact AllReadyF.nil
 have st_2200 : ∀ (l : Array Bool) (hl : Hid (l = #[true, true, true, true, true, true, true, true, false, true, true, false, false, false, false])) (w : World) (hB : Below wo.heap.size wo w) (m0 g0' : Nat) (x1 : Option Addr) (x2 x3 : Nat) (q0 : RowK eI 3 wo.heap.size w g0' (.slice x1 x2 x3) ks) (m1 g1' : Nat) (y1 : Option Addr) (y2 y3 : Nat) (q1 : RowK eS 9 wo.heap.size w g1' (.slice y1 y2 y3) vs) (d01 : g0' ≠ g1'), wpAnyF Tryd.prog .any bentOps Q (fun w' : World => w'.cell? ⟨g2, 0, none⟩ = some (.slice a1 n2 a2) ∧ w'.cell? ⟨g2, 1, none⟩ = some (.slice b1 n2 b2) ∧ w'.cell? ⟨g2, 2, none⟩ = some (.slice c1 n3 c2)) 14 5 l { tmps := #[.agg #[.slice a1 n2 a2, .slice b1 n2 b2, .slice c1 n3 c2], .agg #[.int .i64 h0, .int .i64 h1, .int .i64 h2], .pointer (some ⟨g2, 0, none⟩), .pointer (some ⟨g2 + 1, 0, none⟩), .pointer (some ⟨g2 + 1 + 1, 0, none⟩), undef, undef, undef, undef, .slice (some ⟨m0, 0, none⟩) 0 0, .pointer (some ⟨g2, 0, none⟩), .slice a1 n2 a2, .slice x1 x2 x3, .slice (some ⟨m1, 0, none⟩) 0 0, .pointer (some ⟨g2, 1, none⟩), .slice b1 n2 b2, .slice y1 y2 y3, undef, .pointer (some ⟨g2, 2, none⟩), .slice c1 n3 c2, undef, undef, undef, undef, undef, undef, undef, undef, undef, undef, undef, undef, undef, undef, undef, undef, undef, undef, undef, undef, undef, undef, undef, undef, undef, undef, undef, undef, undef, undef, undef, undef, undef, undef, undef, undef, undef, undef, undef, undef, undef, undef, undef, undef, undef, undef, undef, undef, undef, undef, undef, undef, undef, undef, undef, undef, undef, undef, undef, undef, undef, undef, undef, undef, undef, undef, undef, undef, undef, undef, undef, undef, undef, undef, undef, undef, undef, undef, undef, undef, undef, undef, undef, undef, undef, undef, undef, undef, undef, undef, undef, undef, undef, undef, undef, undef, undef, undef, undef, undef, undef, undef, undef, undef, undef, undef, undef, undef, undef, undef, undef, undef, undef, undef, undef, undef, undef, undef, undef, undef, undef, undef, undef, undef, undef, undef, undef, undef, undef, undef, undef, undef, undef, undef, undef, undef, undef, undef, undef, undef, undef, undef, undef, undef, undef, undef, undef, undef, undef, undef, undef, undef, undef], defers := [] } w := by
  intro l hl w hB m0 g0' x1 x2 x3 q0 m1 g1' y1 y2 y3 q1 d01
  have hl := hl.out
  subst hl
  have sz0 := q0.2.1
  have sz1 := q1.2.1
  refine wpAnyF_ready (rs := [8, 13]) (by kernel_rfl) (by simp) ?_
  refine AllReadyF.cons (o := { dst := some 17, op := .buildSlice 35 0 #[], type := _, pos := _, after := _, guard := none }) rfl (fun K hK => ?_) ?_
  ·skip
   go_simp
   go_wp2_with fail
   refine hK.out _ _ (cb.out _ (hB.alloc hB.size _)) (fun hHeld => ?_)
   clear hK K
   try simp only [Act.put, zT, z0, zS]
   exact st_2210 _ (show _ = _ by rfl) _ (hB.alloc hB.size _) _ _ _ _ _ (q0.keep (Frm.alloc w _) (by omega)) _ _ _ _ _ (q1.keep (Frm.alloc w _) (by omega)) _ (Lit.new hB.size) (by omega) (by omega) (by omega)
  refine AllReadyF.cons (o := { dst := some 5, op := .alloc 37, type := _, pos := _, after := _, guard := none }) rfl (fun K hK => ?_) ?_
  ·skip
   go_simp
   go_wp2_with fail
   refine hK.out _ _ (cb.out _ (hB.alloc hB.size _)) (fun hHeld => ?_)
   clear hK K
   try simp only [Act.put, zT, z0, zS]
   exact st_2201 _ (show _ = _ by rfl) _ (hB.alloc hB.size _) _ _ _ _ _ (q0.keep (Frm.alloc w _) (by omega)) _ _ _ _ _ (q1.keep (Frm.alloc w _) (by omega)) _ (Box3.new hB.size _ _ _) (by omega) (by omega) (by omega)
  exact AllReadyF.nil
 have st_0111 : ∀ (l : Array Bool) (hl : Hid (l = #[false, true, true, false, true, true, true, false, true, true, true, false, false, true, false])) (w : World) (hB : Below wo.heap.size wo w) (g1' : Nat) (q1 : Lit 9 wo.heap.size w g1') (g2' : Nat) (q2 : Lit 9 wo.heap.size w g2') (gA : Nat) (q3 : Box3 wo.heap.size w gA (.slice none 0 0) (.slice none 0 0) (.slice none 0 0)) (d12 : g1' ≠ g2') (d13 : g1' ≠ gA) (d23 : g2' ≠ gA), wpAnyF Tryd.prog .any bentOps Q (fun w' : World => w'.cell? ⟨g2, 0, none⟩ = some (.slice a1 n2 a2) ∧ w'.cell? ⟨g2, 1, none⟩ = some (.slice b1 n2 b2) ∧ w'.cell? ⟨g2, 2, none⟩ = some (.slice c1 n3 c2)) 14 6 l { tmps := #[.agg #[.slice a1 n2 a2, .slice b1 n2 b2, .slice c1 n3 c2], .agg #[.int .i64 h0, .int .i64 h1, .int .i64 h2], .pointer (some ⟨g2, 0, none⟩), .pointer (some ⟨g2 + 1, 0, none⟩), .pointer (some ⟨g2 + 1 + 1, 0, none⟩), .pointer (some ⟨gA, 0, none⟩), undef, undef, undef, undef, .pointer (some ⟨g2, 0, none⟩), .slice a1 n2 a2, undef, .slice (some ⟨g1', 0, none⟩) 0 0, .pointer (some ⟨g2, 1, none⟩), .slice b1 n2 b2, undef, .slice (some ⟨g2', 0, none⟩) 0 0, .pointer (some ⟨g2, 2, none⟩), .slice c1 n3 c2, undef, undef, undef, undef, undef, undef, undef, undef, undef, undef, undef, undef, undef, undef, undef, undef, undef, undef, undef, undef, undef, undef, undef, undef, undef, undef, undef, undef, undef, undef, undef, undef, undef, undef, undef, undef, undef, undef, undef, undef, undef, undef, undef, undef, undef, undef, undef, undef, undef, undef, undef, undef, undef, undef, undef, undef, undef, undef, undef, undef, undef, undef, undef, undef, undef, undef, undef, undef, undef, undef, undef, undef, undef, undef, undef, undef, undef, undef, undef, undef, undef, undef, undef, undef, undef, undef, undef, undef, undef, undef, undef, undef, undef, undef, undef, undef, undef, undef, undef, undef, undef, undef, undef, undef, undef, undef, undef, undef, undef, undef, undef, undef, undef, undef, undef, undef, undef, undef, undef, undef, undef, undef, undef, undef, undef, undef, undef, undef, undef, undef, undef, undef, undef, undef, undef, undef, undef, undef, undef, undef, undef, undef, undef, undef, undef, undef, undef, undef, undef, undef, undef, undef, undef], defers := [] } w := by
  intro l hl w hB g1' q1 g2' q2 gA q3 d12 d13 d23
  have hl := hl.out
  subst hl
  have sz1 := q1.2.1
  have sz2 := q2.2.1
  have sz3 := q3.2.1
  refine wpAnyF_ready (rs := [0]) (by kernel_rfl) (by simp) ?_
  refine AllReadyF.cons (o := { dst := some 9, op := .buildSlice 24 0 #[], type := _, pos := _, after := _, guard := none }) rfl (fun K hK => ?_) ?_
  ·skip
   go_simp
   go_wp2_with fail
   refine hK.out _ _ (cb.out _ (hB.alloc hB.size _)) (fun hHeld => ?_)
   clear hK K
   try simp only [Act.put, zT, z0, zS]
   exact st_1111 _ (show _ = _ by rfl) _ (hB.alloc hB.size _) _ (Lit.new hB.size) _ (q1.keep (Frm.alloc w _) (by omega)) _ (q2.keep (Frm.alloc w _) (by omega)) _ (q3.keep (Frm.alloc w _) (by omega)) (by omega) (by omega) (by omega) (by omega) (by omega) (by omega)
  exact AllReadyF.nil
 have st_1011 : ∀ (l : Array Bool) (hl : Hid (l = #[true, true, true, false, false, true, true, false, true, true, true, false, false, true, false])) (w : World) (hB : Below wo.heap.size wo w) (g0' : Nat) (q0 : Lit 3 wo.heap.size w g0') (g2' : Nat) (q2 : Lit 9 wo.heap.size w g2') (gA : Nat) (q3 : Box3 wo.heap.size w gA (.slice none 0 0) (.slice none 0 0) (.slice none 0 0)) (d02 : g0' ≠ g2') (d03 : g0' ≠ gA) (d23 : g2' ≠ gA), wpAnyF Tryd.prog .any bentOps Q (fun w' : World => w'.cell? ⟨g2, 0, none⟩ = some (.slice a1 n2 a2) ∧ w'.cell? ⟨g2, 1, none⟩ = some (.slice b1 n2 b2) ∧ w'.cell? ⟨g2, 2, none⟩ = some (.slice c1 n3 c2)) 14 6 l { tmps := #[.agg #[.slice a1 n2 a2, .slice b1 n2 b2, .slice c1 n3 c2], .agg #[.int .i64 h0, .int .i64 h1, .int .i64 h2], .pointer (some ⟨g2, 0, none⟩), .pointer (some ⟨g2 + 1, 0, none⟩), .pointer (some ⟨g2 + 1 + 1, 0, none⟩), .pointer (some ⟨gA, 0, none⟩), undef, undef, undef, .slice (some ⟨g0', 0, none⟩) 0 0, .pointer (some ⟨g2, 0, none⟩), .slice a1 n2 a2, undef, undef, .pointer (some ⟨g2, 1, none⟩), .slice b1 n2 b2, undef, .slice (some ⟨g2', 0, none⟩) 0 0, .pointer (some ⟨g2, 2, none⟩), .slice c1 n3 c2, undef, undef, undef, undef, undef, undef, undef, undef, undef, undef, undef, undef, undef, undef, undef, undef, undef, undef, undef, undef, undef, undef, undef, undef, undef, undef, undef, undef, undef, undef, undef, undef, undef, undef, undef, undef, undef, undef, undef, undef, undef, undef, undef, undef, undef, undef, undef, undef, undef, undef, undef, undef, undef, undef, undef, undef, undef, undef, undef, undef, undef, undef, undef, undef, undef, undef, undef, undef, undef, undef, undef, undef, undef, undef, undef, undef, undef, undef, undef, undef, undef, undef, undef, undef, undef, undef, undef, undef, undef, undef, undef, undef, undef, undef, undef, undef, undef, undef, undef, undef, undef, undef, undef, undef, undef, undef, undef, undef, undef, undef, undef, undef, undef, undef, undef, undef, undef, undef, undef, undef, undef, undef, undef, undef, undef, undef, undef, undef, undef, undef, undef, undef, undef, undef, undef, undef, undef, undef, undef, undef, undef, undef, undef, undef, undef, undef, undef, undef, undef, undef, undef, undef, undef], defers := [] } w := by
  intro l hl w hB g0' q0 g2' q2 gA q3 d02 d03 d23
  have hl := hl.out
  subst hl
  have sz0 := q0.2.1
  have sz2 := q2.2.1
  have sz3 := q3.2.1
  refine wpAnyF_ready (rs := [3, 4]) (by kernel_rfl) (by simp) ?_
  refine AllReadyF.cons (o := { dst := some 12, op := .call { callee := .builtin .append, args := #[(.tmp 9), (.tmp 11)], argTypes := #[24, 24] }, type := _, pos := _, after := _, guard := none }) rfl (fun K hK => ?_) ?_
  ·skip
   obtain ⟨v', w', g9, ⟨x1, x2, x3, rfl⟩, hr, hq, hBB, hF, hor⟩ := app_litI w wo.heap.size g0' q0 (.slice a1 n2 a2) ks (fa.out _ (toW.out _ hB)) (by have := hN1.out; omega) hB.size
   have hBW := hB.trans hBB
   refine wp_append_run (.tmp 9) (.tmp 11) 24 rfl (.slice (some ⟨g0', 0, none⟩) 0 0) (.slice a1 n2 a2) rfl rfl _ _ hr ?_
   refine hK.out _ _ (cb.out _ hBW) (fun hHeld => ?_)
   clear hK K
   try simp only [Act.put, zT, z0, zS]
   exact st_2011 _ (show _ = _ by rfl) _ hBW _ _ _ _ _ hq _ (q2.keep hF (by omega)) _ (q3.keep hF (by omega)) (by omega) (by omega) (by omega)
  refine AllReadyF.cons (o := { dst := some 13, op := .buildSlice 35 0 #[], type := _, pos := _, after := _, guard := none }) rfl (fun K hK => ?_) ?_
  ·skip
   go_simp
   go_wp2_with fail
   refine hK.out _ _ (cb.out _ (hB.alloc hB.size _)) (fun hHeld => ?_)
   clear hK K
   try simp only [Act.put, zT, z0, zS]
   exact st_1111 _ (show _ = _ by rfl) _ (hB.alloc hB.size _) _ (q0.keep (Frm.alloc w _) (by omega)) _ (Lit.new hB.size) _ (q2.keep (Frm.alloc w _) (by omega)) _ (q3.keep (Frm.alloc w _) (by omega)) (by omega) (by omega) (by omega) (by omega) (by omega) (by omega)
  exact AllReadyF.nil
 have st_1101 : ∀ (l : Array Bool) (hl : Hid (l = #[true, true, true, false, true, true, true, false, false, true, true, false, false, true, false])) (w : World) (hB : Below wo.heap.size wo w) (g0' : Nat) (q0 : Lit 3 wo.heap.size w g0') (g1' : Nat) (q1 : Lit 9 wo.heap.size w g1') (gA : Nat) (q3 : Box3 wo.heap.size w gA (.slice none 0 0) (.slice none 0 0) (.slice none 0 0)) (d01 : g0' ≠ g1') (d03 : g0' ≠ gA) (d13 : g1' ≠ gA), wpAnyF Tryd.prog .any bentOps Q (fun w' : World => w'.cell? ⟨g2, 0, none⟩ = some (.slice a1 n2 a2) ∧ w'.cell? ⟨g2, 1, none⟩ = some (.slice b1 n2 b2) ∧ w'.cell? ⟨g2, 2, none⟩ = some (.slice c1 n3 c2)) 14 6 l { tmps := #[.agg #[.slice a1 n2 a2, .slice b1 n2 b2, .slice c1 n3 c2], .agg #[.int .i64 h0, .int .i64 h1, .int .i64 h2], .pointer (some ⟨g2, 0, none⟩), .pointer (some ⟨g2 + 1, 0, none⟩), .pointer (some ⟨g2 + 1 + 1, 0, none⟩), .pointer (some ⟨gA, 0, none⟩), undef, undef, undef, .slice (some ⟨g0', 0, none⟩) 0 0, .pointer (some ⟨g2, 0, none⟩), .slice a1 n2 a2, undef, .slice (some ⟨g1', 0, none⟩) 0 0, .pointer (some ⟨g2, 1, none⟩), .slice b1 n2 b2, undef, undef, .pointer (some ⟨g2, 2, none⟩), .slice c1 n3 c2, undef, undef, undef, undef, undef, undef, undef, undef, undef, undef, undef, undef, undef, undef, undef, undef, undef, undef, undef, undef, undef, undef, undef, undef, undef, undef, undef, undef, undef, undef, undef, undef, undef, undef, undef, undef, undef, undef, undef, undef, undef, undef, undef, undef, undef, undef, undef, undef, undef, undef, undef, undef, undef, undef, undef, undef, undef, undef, undef, undef, undef, undef, undef, undef, undef, undef, undef, undef, undef, undef, undef, undef, undef, undef, undef, undef, undef, undef, undef, undef, undef, undef, undef, undef, undef, undef, undef, undef, undef, undef, undef, undef, undef, undef, undef, undef, undef, undef, undef, undef, undef, undef, undef, undef, undef, undef, undef, undef, undef, undef, undef, undef, undef, undef, undef, undef, undef, undef, undef, undef, undef, undef, undef, undef, undef, undef, undef, undef, undef, undef, undef, undef, undef, undef, undef, undef, undef, undef, undef, undef, undef, undef, undef, undef, undef, undef, undef, undef, undef, undef, undef, undef, undef], defers := [] } w := by
  intro l hl w hB g0' q0 g1' q1 gA q3 d01 d03 d13
  have hl := hl.out
  subst hl
  have sz0 := q0.2.1
  have sz1 := q1.2.1
  have sz3 := q3.2.1
  refine wpAnyF_ready (rs := [3, 8]) (by kernel_rfl) (by simp) ?_
  refine AllReadyF.cons (o := { dst := some 12, op := .call { callee := .builtin .append, args := #[(.tmp 9), (.tmp 11)], argTypes := #[24, 24] }, type := _, pos := _, after := _, guard := none }) rfl (fun K hK => ?_) ?_
  ·skip
   obtain ⟨v', w', g9, ⟨x1, x2, x3, rfl⟩, hr, hq, hBB, hF, hor⟩ := app_litI w wo.heap.size g0' q0 (.slice a1 n2 a2) ks (fa.out _ (toW.out _ hB)) (by have := hN1.out; omega) hB.size
   have hBW := hB.trans hBB
   refine wp_append_run (.tmp 9) (.tmp 11) 24 rfl (.slice (some ⟨g0', 0, none⟩) 0 0) (.slice a1 n2 a2) rfl rfl _ _ hr ?_
   refine hK.out _ _ (cb.out _ hBW) (fun hHeld => ?_)
   clear hK K
   try simp only [Act.put, zT, z0, zS]
   exact st_2101 _ (show _ = _ by rfl) _ hBW _ _ _ _ _ hq _ (q1.keep hF (by omega)) _ (q3.keep hF (by omega)) (by omega) (by omega) (by omega)
  refine AllReadyF.cons (o := { dst := some 17, op := .buildSlice 35 0 #[], type := _, pos := _, after := _, guard := none }) rfl (fun K hK => ?_) ?_
  ·skip
   go_simp
   go_wp2_with fail
   refine hK.out _ _ (cb.out _ (hB.alloc hB.size _)) (fun hHeld => ?_)
   clear hK K
   try simp only [Act.put, zT, z0, zS]
   exact st_1111 _ (show _ = _ by rfl) _ (hB.alloc hB.size _) _ (q0.keep (Frm.alloc w _) (by omega)) _ (q1.keep (Frm.alloc w _) (by omega)) _ (Lit.new hB.size) _ (q3.keep (Frm.alloc w _) (by omega)) (by omega) (by omega) (by omega) (by omega) (by omega) (by omega)
  exact AllReadyF.nil
 have st_1110 : ∀ (l : Array Bool) (hl : Hid (l = #[true, true, true, false, true, true, true, false, true, true, true, false, false, false, false])) (w : World) (hB : Below wo.heap.size wo w) (g0' : Nat) (q0 : Lit 3 wo.heap.size w g0') (g1' : Nat) (q1 : Lit 9 wo.heap.size w g1') (g2' : Nat) (q2 : Lit 9 wo.heap.size w g2') (d01 : g0' ≠ g1') (d02 : g0' ≠ g2') (d12 : g1' ≠ g2'), wpAnyF Tryd.prog .any bentOps Q (fun w' : World => w'.cell? ⟨g2, 0, none⟩ = some (.slice a1 n2 a2) ∧ w'.cell? ⟨g2, 1, none⟩ = some (.slice b1 n2 b2) ∧ w'.cell? ⟨g2, 2, none⟩ = some (.slice c1 n3 c2)) 14 6 l { tmps := #[.agg #[.slice a1 n2 a2, .slice b1 n2 b2, .slice c1 n3 c2], .agg #[.int .i64 h0, .int .i64 h1, .int .i64 h2], .pointer (some ⟨g2, 0, none⟩), .pointer (some ⟨g2 + 1, 0, none⟩), .pointer (some ⟨g2 + 1 + 1, 0, none⟩), undef, undef, undef, undef, .slice (some ⟨g0', 0, none⟩) 0 0, .pointer (some ⟨g2, 0, none⟩), .slice a1 n2 a2, undef, .slice (some ⟨g1', 0, none⟩) 0 0, .pointer (some ⟨g2, 1, none⟩), .slice b1 n2 b2, undef, .slice (some ⟨g2', 0, none⟩) 0 0, .pointer (some ⟨g2, 2, none⟩), .slice c1 n3 c2, undef, undef, undef, undef, undef, undef, undef, undef, undef, undef, undef, undef, undef, undef, undef, undef, undef, undef, undef, undef, undef, undef, undef, undef, undef, undef, undef, undef, undef, undef, undef, undef, undef, undef, undef, undef, undef, undef, undef, undef, undef, undef, undef, undef, undef, undef, undef, undef, undef, undef, undef, undef, undef, undef, undef, undef, undef, undef, undef, undef, undef, undef, undef, undef, undef, undef, undef, undef, undef, undef, undef, undef, undef, undef, undef, undef, undef, undef, undef, undef, undef, undef, undef, undef, undef, undef, undef, undef, undef, undef, undef, undef, undef, undef, undef, undef, undef, undef, undef, undef, undef, undef, undef, undef, undef, undef, undef, undef, undef, undef, undef, undef, undef, undef, undef, undef, undef, undef, undef, undef, undef, undef, undef, undef, undef, undef, undef, undef, undef, undef, undef, undef, undef, undef, undef, undef, undef, undef, undef, undef, undef, undef, undef, undef, undef, undef, undef, undef, undef, undef, undef, undef, undef], defers := [] } w := by
  intro l hl w hB g0' q0 g1' q1 g2' q2 d01 d02 d12
  have hl := hl.out
  subst hl
  have sz0 := q0.2.1
  have sz1 := q1.2.1
  have sz2 := q2.2.1
  refine wpAnyF_ready (rs := [3, 13]) (by kernel_rfl) (by simp) ?_
  refine AllReadyF.cons (o := { dst := some 12, op := .call { callee := .builtin .append, args := #[(.tmp 9), (.tmp 11)], argTypes := #[24, 24] }, type := _, pos := _, after := _, guard := none }) rfl (fun K hK => ?_) ?_
  ·skip
   obtain ⟨v', w', g9, ⟨x1, x2, x3, rfl⟩, hr, hq, hBB, hF, hor⟩ := app_litI w wo.heap.size g0' q0 (.slice a1 n2 a2) ks (fa.out _ (toW.out _ hB)) (by have := hN1.out; omega) hB.size
   have hBW := hB.trans hBB
   refine wp_append_run (.tmp 9) (.tmp 11) 24 rfl (.slice (some ⟨g0', 0, none⟩) 0 0) (.slice a1 n2 a2) rfl rfl _ _ hr ?_
   refine hK.out _ _ (cb.out _ hBW) (fun hHeld => ?_)
   clear hK K
   try simp only [Act.put, zT, z0, zS]
   exact st_2110 _ (show _ = _ by rfl) _ hBW _ _ _ _ _ hq _ (q1.keep hF (by omega)) _ (q2.keep hF (by omega)) (by omega) (by omega) (by omega)
  refine AllReadyF.cons (o := { dst := some 5, op := .alloc 37, type := _, pos := _, after := _, guard := none }) rfl (fun K hK => ?_) ?_
  ·skip
   go_simp
   go_wp2_with fail
   refine hK.out _ _ (cb.out _ (hB.alloc hB.size _)) (fun hHeld => ?_)
   clear hK K
   try simp only [Act.put, zT, z0, zS]
   exact st_1111 _ (show _ = _ by rfl) _ (hB.alloc hB.size _) _ (q0.keep (Frm.alloc w _) (by omega)) _ (q1.keep (Frm.alloc w _) (by omega)) _ (q2.keep (Frm.alloc w _) (by omega)) _ (Box3.new hB.size _ _ _) (by omega) (by omega) (by omega) (by omega) (by omega) (by omega)
  exact AllReadyF.nil
 have st_2001 : ∀ (l : Array Bool) (hl : Hid (l = #[true, true, true, true, false, true, true, false, false, true, true, false, false, true, false])) (w : World) (hB : Below wo.heap.size wo w) (m0 g0' : Nat) (x1 : Option Addr) (x2 x3 : Nat) (q0 : RowK eI 3 wo.heap.size w g0' (.slice x1 x2 x3) ks) (gA : Nat) (q3 : Box3 wo.heap.size w gA (.slice none 0 0) (.slice none 0 0) (.slice none 0 0)) (d03 : g0' ≠ gA), wpAnyF Tryd.prog .any bentOps Q (fun w' : World => w'.cell? ⟨g2, 0, none⟩ = some (.slice a1 n2 a2) ∧ w'.cell? ⟨g2, 1, none⟩ = some (.slice b1 n2 b2) ∧ w'.cell? ⟨g2, 2, none⟩ = some (.slice c1 n3 c2)) 14 6 l { tmps := #[.agg #[.slice a1 n2 a2, .slice b1 n2 b2, .slice c1 n3 c2], .agg #[.int .i64 h0, .int .i64 h1, .int .i64 h2], .pointer (some ⟨g2, 0, none⟩), .pointer (some ⟨g2 + 1, 0, none⟩), .pointer (some ⟨g2 + 1 + 1, 0, none⟩), .pointer (some ⟨gA, 0, none⟩), undef, undef, undef, .slice (some ⟨m0, 0, none⟩) 0 0, .pointer (some ⟨g2, 0, none⟩), .slice a1 n2 a2, .slice x1 x2 x3, undef, .pointer (some ⟨g2, 1, none⟩), .slice b1 n2 b2, undef, undef, .pointer (some ⟨g2, 2, none⟩), .slice c1 n3 c2, undef, undef, undef, undef, undef, undef, undef, undef, undef, undef, undef, undef, undef, undef, undef, undef, undef, undef, undef, undef, undef, undef, undef, undef, undef, undef, undef, undef, undef, undef, undef, undef, undef, undef, undef, undef, undef, undef, undef, undef, undef, undef, undef, undef, undef, undef, undef, undef, undef, undef, undef, undef, undef, undef, undef, undef, undef, undef, undef, undef, undef, undef, undef, undef, undef, undef, undef, undef, undef, undef, undef, undef, undef, undef, undef, undef, undef, undef, undef, undef, undef, undef, undef, undef, undef, undef, undef, undef, undef, undef, undef, undef, undef, undef, undef, undef, undef, undef, undef, undef, undef, undef, undef, undef, undef, undef, undef, undef, undef, undef, undef, undef, undef, undef, undef, undef, undef, undef, undef, undef, undef, undef, undef, undef, undef, undef, undef, undef, undef, undef, undef, undef, undef, undef, undef, undef, undef, undef, undef, undef, undef, undef, undef, undef, undef, undef, undef, undef, undef, undef, undef, undef, undef], defers := [] } w := by
  intro l hl w hB m0 g0' x1 x2 x3 q0 gA q3 d03
  have hl := hl.out
  subst hl
  have sz0 := q0.2.1
  have sz3 := q3.2.1
  refine wpAnyF_ready (rs := [4, 8]) (by kernel_rfl) (by simp) ?_
  refine AllReadyF.cons (o := { dst := some 13, op := .buildSlice 35 0 #[], type := _, pos := _, after := _, guard := none }) rfl (fun K hK => ?_) ?_
  ·skip
   go_simp
   go_wp2_with fail
   refine hK.out _ _ (cb.out _ (hB.alloc hB.size _)) (fun hHeld => ?_)
   clear hK K
   try simp only [Act.put, zT, z0, zS]
   exact st_2101 _ (show _ = _ by rfl) _ (hB.alloc hB.size _) _ _ _ _ _ (q0.keep (Frm.alloc w _) (by omega)) _ (Lit.new hB.size) _ (q3.keep (Frm.alloc w _) (by omega)) (by omega) (by omega) (by omega)
  refine AllReadyF.cons (o := { dst := some 17, op := .buildSlice 35 0 #[], type := _, pos := _, after := _, guard := none }) rfl (fun K hK => ?_) ?_
  ·skip
   go_simp
   go_wp2_with fail
   refine hK.out _ _ (cb.out _ (hB.alloc hB.size _)) (fun hHeld => ?_)
   clear hK K
   try simp only [Act.put, zT, z0, zS]
   exact st_2011 _ (show _ = _ by rfl) _ (hB.alloc hB.size _) _ _ _ _ _ (q0.keep (Frm.alloc w _) (by omega)) _ (Lit.new hB.size) _ (q3.keep (Frm.alloc w _) (by omega)) (by omega) (by omega) (by omega)
  exact AllReadyF.nil
 have st_2010 : ∀ (l : Array Bool) (hl : Hid (l = #[true, true, true, true, false, true, true, false, true, true, true, false, false, false, false])) (w : World) (hB : Below wo.heap.size wo w) (m0 g0' : Nat) (x1 : Option Addr) (x2 x3 : Nat) (q0 : RowK eI 3 wo.heap.size w g0' (.slice x1 x2 x3) ks) (g2' : Nat) (q2 : Lit 9 wo.heap.size w g2') (d02 : g0' ≠ g2'), wpAnyF Tryd.prog .any bentOps Q (fun w' : World => w'.cell? ⟨g2, 0, none⟩ = some (.slice a1 n2 a2) ∧ w'.cell? ⟨g2, 1, none⟩ = some (.slice b1 n2 b2) ∧ w'.cell? ⟨g2, 2, none⟩ = some (.slice c1 n3 c2)) 14 6 l { tmps := #[.agg #[.slice a1 n2 a2, .slice b1 n2 b2, .slice c1 n3 c2], .agg #[.int .i64 h0, .int .i64 h1, .int .i64 h2], .pointer (some ⟨g2, 0, none⟩), .pointer (some ⟨g2 + 1, 0, none⟩), .pointer (some ⟨g2 + 1 + 1, 0, none⟩), undef, undef, undef, undef, .slice (some ⟨m0, 0, none⟩) 0 0, .pointer (some ⟨g2, 0, none⟩), .slice a1 n2 a2, .slice x1 x2 x3, undef, .pointer (some ⟨g2, 1, none⟩), .slice b1 n2 b2, undef, .slice (some ⟨g2', 0, none⟩) 0 0, .pointer (some ⟨g2, 2, none⟩), .slice c1 n3 c2, undef, undef, undef, undef, undef, undef, undef, undef, undef, undef, undef, undef, undef, undef, undef, undef, undef, undef, undef, undef, undef, undef, undef, undef, undef, undef, undef, undef, undef, undef, undef, undef, undef, undef, undef, undef, undef, undef, undef, undef, undef, undef, undef, undef, undef, undef, undef, undef, undef, undef, undef, undef, undef, undef, undef, undef, undef, undef, undef, undef, undef, undef, undef, undef, undef, undef, undef, undef, undef, undef, undef, undef, undef, undef, undef, undef, undef, undef, undef, undef, undef, undef, undef, undef, undef, undef, undef, undef, undef, undef, undef, undef, undef, undef, undef, undef, undef, undef, undef, undef, undef, undef, undef, undef, undef, undef, undef, undef, undef, undef, undef, undef, undef, undef, undef, undef, undef, undef, undef, undef, undef, undef, undef, undef, undef, undef, undef, undef, undef, undef, undef, undef, undef, undef, undef, undef, undef, undef, undef, undef, undef, undef, undef, undef, undef, undef, undef, undef, undef, undef, undef, undef, undef], defers := [] } w := by
  intro l hl w hB m0 g0' x1 x2 x3 q0 g2' q2 d02
  have hl := hl.out
  subst hl
  have sz0 := q0.2.1
  have sz2 := q2.2.1
  refine wpAnyF_ready (rs := [4, 13]) (by kernel_rfl) (by simp) ?_
  refine AllReadyF.cons (o := { dst := some 13, op := .buildSlice 35 0 #[], type := _, pos := _, after := _, guard := none }) rfl (fun K hK => ?_) ?_
  ·skip
   go_simp
   go_wp2_with fail
   refine hK.out _ _ (cb.out _ (hB.alloc hB.size _)) (fun hHeld => ?_)
   clear hK K
   try simp only [Act.put, zT, z0, zS]
   exact st_2110 _ (show _ = _ by rfl) _ (hB.alloc hB.size _) _ _ _ _ _ (q0.keep (Frm.alloc w _) (by omega)) _ (Lit.new hB.size) _ (q2.keep (Frm.alloc w _) (by omega)) (by omega) (by omega) (by omega)
  refine AllReadyF.cons (o := { dst := some 5, op := .alloc 37, type := _, pos := _, after := _, guard := none }) rfl (fun K hK => ?_) ?_
  ·skip
   go_simp
   go_wp2_with fail
   refine hK.out _ _ (cb.out _ (hB.alloc hB.size _)) (fun hHeld => ?_)
   clear hK K
   try simp only [Act.put, zT, z0, zS]
   exact st_2011 _ (show _ = _ by rfl) _ (hB.alloc hB.size _) _ _ _ _ _ (q0.keep (Frm.alloc w _) (by omega)) _ (q2.keep (Frm.alloc w _) (by omega)) _ (Box3.new hB.size _ _ _) (by omega) (by omega) (by omega)
  exact AllReadyF.nil
 have st_2100 : ∀ (l : Array Bool) (hl : Hid (l = #[true, true, true, true, true, true, true, false, false, true, true, false, false, false, false])) (w : World) (hB : Below wo.heap.size wo w) (m0 g0' : Nat) (x1 : Option Addr) (x2 x3 : Nat) (q0 : RowK eI 3 wo.heap.size w g0' (.slice x1 x2 x3) ks) (g1' : Nat) (q1 : Lit 9 wo.heap.size w g1') (d01 : g0' ≠ g1'), wpAnyF Tryd.prog .any bentOps Q (fun w' : World => w'.cell? ⟨g2, 0, none⟩ = some (.slice a1 n2 a2) ∧ w'.cell? ⟨g2, 1, none⟩ = some (.slice b1 n2 b2) ∧ w'.cell? ⟨g2, 2, none⟩ = some (.slice c1 n3 c2)) 14 6 l { tmps := #[.agg #[.slice a1 n2 a2, .slice b1 n2 b2, .slice c1 n3 c2], .agg #[.int .i64 h0, .int .i64 h1, .int .i64 h2], .pointer (some ⟨g2, 0, none⟩), .pointer (some ⟨g2 + 1, 0, none⟩), .pointer (some ⟨g2 + 1 + 1, 0, none⟩), undef, undef, undef, undef, .slice (some ⟨m0, 0, none⟩) 0 0, .pointer (some ⟨g2, 0, none⟩), .slice a1 n2 a2, .slice x1 x2 x3, .slice (some ⟨g1', 0, none⟩) 0 0, .pointer (some ⟨g2, 1, none⟩), .slice b1 n2 b2, undef, undef, .pointer (some ⟨g2, 2, none⟩), .slice c1 n3 c2, undef, undef, undef, undef, undef, undef, undef, undef, undef, undef, undef, undef, undef, undef, undef, undef, undef, undef, undef, undef, undef, undef, undef, undef, undef, undef, undef, undef, undef, undef, undef, undef, undef, undef, undef, undef, undef, undef, undef, undef, undef, undef, undef, undef, undef, undef, undef, undef, undef, undef, undef, undef, undef, undef, undef, undef, undef, undef, undef, undef, undef, undef, undef, undef, undef, undef, undef, undef, undef, undef, undef, undef, undef, undef, undef, undef, undef, undef, undef, undef, undef, undef, undef, undef, undef, undef, undef, undef, undef, undef, undef, undef, undef, undef, undef, undef, undef, undef, undef, undef, undef, undef, undef, undef, undef, undef, undef, undef, undef, undef, undef, undef, undef, undef, undef, undef, undef, undef, undef, undef, undef, undef, undef, undef, undef, undef, undef, undef, undef, undef, undef, undef, undef, undef, undef, undef, undef, undef, undef, undef, undef, undef, undef, undef, undef, undef, undef, undef, undef, undef, undef, undef, undef], defers := [] } w := by
  intro l hl w hB m0 g0' x1 x2 x3 q0 g1' q1 d01
  have hl := hl.out
  subst hl
  have sz0 := q0.2.1
  have sz1 := q1.2.1
  refine wpAnyF_ready (rs := [7, 8, 13]) (by kernel_rfl) (by simp) ?_
  refine AllReadyF.cons (o := { dst := some 16, op := .call { callee := .builtin .append, args := #[(.tmp 13), (.tmp 15)], argTypes := #[35, 35] }, type := _, pos := _, after := _, guard := none }) rfl (fun K hK => ?_) ?_
  ·skip
   obtain ⟨v', w', g9, ⟨y1, y2, y3, rfl⟩, hr, hq, hBB, hF, hor⟩ := app_litS w wo.heap.size g1' q1 (.slice b1 n2 b2) vs (fb.out _ (toW.out _ hB)) (by have := hN2.out; omega) hB.size
   have hBW := hB.trans hBB
   refine wp_append_run (.tmp 13) (.tmp 15) 35 rfl (.slice (some ⟨g1', 0, none⟩) 0 0) (.slice b1 n2 b2) rfl rfl _ _ hr ?_
   refine hK.out _ _ (cb.out _ hBW) (fun hHeld => ?_)
   clear hK K
   try simp only [Act.put, zT, z0, zS]
   exact st_2200 _ (show _ = _ by rfl) _ hBW _ _ _ _ _ (q0.keep hF (by omega)) _ _ _ _ _ hq (by omega)
  refine AllReadyF.cons (o := { dst := some 17, op := .buildSlice 35 0 #[], type := _, pos := _, after := _, guard := none }) rfl (fun K hK => ?_) ?_
  ·skip
   go_simp
   go_wp2_with fail
   refine hK.out _ _ (cb.out _ (hB.alloc hB.size _)) (fun hHeld => ?_)
   clear hK K
   try simp only [Act.put, zT, z0, zS]
   exact st_2110 _ (show _ = _ by rfl) _ (hB.alloc hB.size _) _ _ _ _ _ (q0.keep (Frm.alloc w _) (by omega)) _ (q1.keep (Frm.alloc w _) (by omega)) _ (Lit.new hB.size) (by omega) (by omega) (by omega)
  refine AllReadyF.cons (o := { dst := some 5, op := .alloc 37, type := _, pos := _, after := _, guard := none }) rfl (fun K hK => ?_) ?_
  ·skip
   go_simp
   go_wp2_with fail
   refine hK.out _ _ (cb.out _ (hB.alloc hB.size _)) (fun hHeld => ?_)
   clear hK K
   try simp only [Act.put, zT, z0, zS]
   exact st_2101 _ (show _ = _ by rfl) _ (hB.alloc hB.size _) _ _ _ _ _ (q0.keep (Frm.alloc w _) (by omega)) _ (q1.keep (Frm.alloc w _) (by omega)) _ (Box3.new hB.size _ _ _) (by omega) (by omega) (by omega)
  exact AllReadyF.nil
 have st_0011 : ∀ (l : Array Bool) (hl : Hid (l = #[false, true, true, false, false, true, true, false, true, true, true, false, false, true, false])) (w : World) (hB : Below wo.heap.size wo w) (g2' : Nat) (q2 : Lit 9 wo.heap.size w g2') (gA : Nat) (q3 : Box3 wo.heap.size w gA (.slice none 0 0) (.slice none 0 0) (.slice none 0 0)) (d23 : g2' ≠ gA), wpAnyF Tryd.prog .any bentOps Q (fun w' : World => w'.cell? ⟨g2, 0, none⟩ = some (.slice a1 n2 a2) ∧ w'.cell? ⟨g2, 1, none⟩ = some (.slice b1 n2 b2) ∧ w'.cell? ⟨g2, 2, none⟩ = some (.slice c1 n3 c2)) 14 7 l { tmps := #[.agg #[.slice a1 n2 a2, .slice b1 n2 b2, .slice c1 n3 c2], .agg #[.int .i64 h0, .int .i64 h1, .int .i64 h2], .pointer (some ⟨g2, 0, none⟩), .pointer (some ⟨g2 + 1, 0, none⟩), .pointer (some ⟨g2 + 1 + 1, 0, none⟩), .pointer (some ⟨gA, 0, none⟩), undef, undef, undef, undef, .pointer (some ⟨g2, 0, none⟩), .slice a1 n2 a2, undef, undef, .pointer (some ⟨g2, 1, none⟩), .slice b1 n2 b2, undef, .slice (some ⟨g2', 0, none⟩) 0 0, .pointer (some ⟨g2, 2, none⟩), .slice c1 n3 c2, undef, undef, undef, undef, undef, undef, undef, undef, undef, undef, undef, undef, undef, undef, undef, undef, undef, undef, undef, undef, undef, undef, undef, undef, undef, undef, undef, undef, undef, undef, undef, undef, undef, undef, undef, undef, undef, undef, undef, undef, undef, undef, undef, undef, undef, undef, undef, undef, undef, undef, undef, undef, undef, undef, undef, undef, undef, undef, undef, undef, undef, undef, undef, undef, undef, undef, undef, undef, undef, undef, undef, undef, undef, undef, undef, undef, undef, undef, undef, undef, undef, undef, undef, undef, undef, undef, undef, undef, undef, undef, undef, undef, undef, undef, undef, undef, undef, undef, undef, undef, undef, undef, undef, undef, undef, undef, undef, undef, undef, undef, undef, undef, undef, undef, undef, undef, undef, undef, undef, undef, undef, undef, undef, undef, undef, undef, undef, undef, undef, undef, undef, undef, undef, undef, undef, undef, undef, undef, undef, undef, undef, undef, undef, undef, undef, undef, undef, undef, undef, undef, undef, undef, undef], defers := [] } w := by
  intro l hl w hB g2' q2 gA q3 d23
  have hl := hl.out
  subst hl
  have sz2 := q2.2.1
  have sz3 := q3.2.1
  refine wpAnyF_ready (rs := [0, 4]) (by kernel_rfl) (by simp) ?_
  refine AllReadyF.cons (o := { dst := some 9, op := .buildSlice 24 0 #[], type := _, pos := _, after := _, guard := none }) rfl (fun K hK => ?_) ?_
  ·skip
   go_simp
   go_wp2_with fail
   refine hK.out _ _ (cb.out _ (hB.alloc hB.size _)) (fun hHeld => ?_)
   clear hK K
   try simp only [Act.put, zT, z0, zS]
   exact st_1011 _ (show _ = _ by rfl) _ (hB.alloc hB.size _) _ (Lit.new hB.size) _ (q2.keep (Frm.alloc w _) (by omega)) _ (q3.keep (Frm.alloc w _) (by omega)) (by omega) (by omega) (by omega)
  refine AllReadyF.cons (o := { dst := some 13, op := .buildSlice 35 0 #[], type := _, pos := _, after := _, guard := none }) rfl (fun K hK => ?_) ?_
  ·skip
   go_simp
   go_wp2_with fail
   refine hK.out _ _ (cb.out _ (hB.alloc hB.size _)) (fun hHeld => ?_)
   clear hK K
   try simp only [Act.put, zT, z0, zS]
   exact st_0111 _ (show _ = _ by rfl) _ (hB.alloc hB.size _) _ (Lit.new hB.size) _ (q2.keep (Frm.alloc w _) (by omega)) _ (q3.keep (Frm.alloc w _) (by omega)) (by omega) (by omega) (by omega)
  exact AllReadyF.nil
 have st_0101 : ∀ (l : Array Bool) (hl : Hid (l = #[false, true, true, false, true, true, true, false, false, true, true, false, false, true, false])) (w : World) (hB : Below wo.heap.size wo w) (g1' : Nat) (q1 : Lit 9 wo.heap.size w g1') (gA : Nat) (q3 : Box3 wo.heap.size w gA (.slice none 0 0) (.slice none 0 0) (.slice none 0 0)) (d13 : g1' ≠ gA), wpAnyF Tryd.prog .any bentOps Q (fun w' : World => w'.cell? ⟨g2, 0, none⟩ = some (.slice a1 n2 a2) ∧ w'.cell? ⟨g2, 1, none⟩ = some (.slice b1 n2 b2) ∧ w'.cell? ⟨g2, 2, none⟩ = some (.slice c1 n3 c2)) 14 7 l { tmps := #[.agg #[.slice a1 n2 a2, .slice b1 n2 b2, .slice c1 n3 c2], .agg #[.int .i64 h0, .int .i64 h1, .int .i64 h2], .pointer (some ⟨g2, 0, none⟩), .pointer (some ⟨g2 + 1, 0, none⟩), .pointer (some ⟨g2 + 1 + 1, 0, none⟩), .pointer (some ⟨gA, 0, none⟩), undef, undef, undef, undef, .pointer (some ⟨g2, 0, none⟩), .slice a1 n2 a2, undef, .slice (some ⟨g1', 0, none⟩) 0 0, .pointer (some ⟨g2, 1, none⟩), .slice b1 n2 b2, undef, undef, .pointer (some ⟨g2, 2, none⟩), .slice c1 n3 c2, undef, undef, undef, undef, undef, undef, undef, undef, undef, undef, undef, undef, undef, undef, undef, undef, undef, undef, undef, undef, undef, undef, undef, undef, undef, undef, undef, undef, undef, undef, undef, undef, undef, undef, undef, undef, undef, undef, undef, undef, undef, undef, undef, undef, undef, undef, undef, undef, undef, undef, undef, undef, undef, undef, undef, undef, undef, undef, undef, undef, undef, undef, undef, undef, undef, undef, undef, undef, undef, undef, undef, undef, undef, undef, undef, undef, undef, undef, undef, undef, undef, undef, undef, undef, undef, undef, undef, undef, undef, undef, undef, undef, undef, undef, undef, undef, undef, undef, undef, undef, undef, undef, undef, undef, undef, undef, undef, undef, undef, undef, undef, undef, undef, undef, undef, undef, undef, undef, undef, undef, undef, undef, undef, undef, undef, undef, undef, undef, undef, undef, undef, undef, undef, undef, undef, undef, undef, undef, undef, undef, undef, undef, undef, undef, undef, undef, undef, undef, undef, undef, undef, undef, undef], defers := [] } w := by
  intro l hl w hB g1' q1 gA q3 d13
  have hl := hl.out
  subst hl
  have sz1 := q1.2.1
  have sz3 := q3.2.1
  refine wpAnyF_ready (rs := [0, 8]) (by kernel_rfl) (by simp) ?_
  refine AllReadyF.cons (o := { dst := some 9, op := .buildSlice 24 0 #[], type := _, pos := _, after := _, guard := none }) rfl (fun K hK => ?_) ?_
  ·skip
   go_simp
   go_wp2_with fail
   refine hK.out _ _ (cb.out _ (hB.alloc hB.size _)) (fun hHeld => ?_)
   clear hK K
   try simp only [Act.put, zT, z0, zS]
   exact st_1101 _ (show _ = _ by rfl) _ (hB.alloc hB.size _) _ (Lit.new hB.size) _ (q1.keep (Frm.alloc w _) (by omega)) _ (q3.keep (Frm.alloc w _) (by omega)) (by omega) (by omega) (by omega)
  refine AllReadyF.cons (o := { dst := some 17, op := .buildSlice 35 0 #[], type := _, pos := _, after := _, guard := none }) rfl (fun K hK => ?_) ?_
  ·skip
   go_simp
   go_wp2_with fail
   refine hK.out _ _ (cb.out _ (hB.alloc hB.size _)) (fun hHeld => ?_)
   clear hK K
   try simp only [Act.put, zT, z0, zS]
   exact st_0111 _ (show _ = _ by rfl) _ (hB.alloc hB.size _) _ (q1.keep (Frm.alloc w _) (by omega)) _ (Lit.new hB.size) _ (q3.keep (Frm.alloc w _) (by omega)) (by omega) (by omega) (by omega)
  exact AllReadyF.nil
 have st_0110 : ∀ (l : Array Bool) (hl : Hid (l = #[false, true, true, false, true, true, true, false, true, true, true, false, false, false, false])) (w : World) (hB : Below wo.heap.size wo w) (g1' : Nat) (q1 : Lit 9 wo.heap.size w g1') (g2' : Nat) (q2 : Lit 9 wo.heap.size w g2') (d12 : g1' ≠ g2'), wpAnyF Tryd.prog .any bentOps Q (fun w' : World => w'.cell? ⟨g2, 0, none⟩ = some (.slice a1 n2 a2) ∧ w'.cell? ⟨g2, 1, none⟩ = some (.slice b1 n2 b2) ∧ w'.cell? ⟨g2, 2, none⟩ = some (.slice c1 n3 c2)) 14 7 l { tmps := #[.agg #[.slice a1 n2 a2, .slice b1 n2 b2, .slice c1 n3 c2], .agg #[.int .i64 h0, .int .i64 h1, .int .i64 h2], .pointer (some ⟨g2, 0, none⟩), .pointer (some ⟨g2 + 1, 0, none⟩), .pointer (some ⟨g2 + 1 + 1, 0, none⟩), undef, undef, undef, undef, undef, .pointer (some ⟨g2, 0, none⟩), .slice a1 n2 a2, undef, .slice (some ⟨g1', 0, none⟩) 0 0, .pointer (some ⟨g2, 1, none⟩), .slice b1 n2 b2, undef, .slice (some ⟨g2', 0, none⟩) 0 0, .pointer (some ⟨g2, 2, none⟩), .slice c1 n3 c2, undef, undef, undef, undef, undef, undef, undef, undef, undef, undef, undef, undef, undef, undef, undef, undef, undef, undef, undef, undef, undef, undef, undef, undef, undef, undef, undef, undef, undef, undef, undef, undef, undef, undef, undef, undef, undef, undef, undef, undef, undef, undef, undef, undef, undef, undef, undef, undef, undef, undef, undef, undef, undef, undef, undef, undef, undef, undef, undef, undef, undef, undef, undef, undef, undef, undef, undef, undef, undef, undef, undef, undef, undef, undef, undef, undef, undef, undef, undef, undef, undef, undef, undef, undef, undef, undef, undef, undef, undef, undef, undef, undef, undef, undef, undef, undef, undef, undef, undef, undef, undef, undef, undef, undef, undef, undef, undef, undef, undef, undef, undef, undef, undef, undef, undef, undef, undef, undef, undef, undef, undef, undef, undef, undef, undef, undef, undef, undef, undef, undef, undef, undef, undef, undef, undef, undef, undef, undef, undef, undef, undef, undef, undef, undef, undef, undef, undef, undef, undef, undef, undef, undef, undef], defers := [] } w := by
  intro l hl w hB g1' q1 g2' q2 d12
  have hl := hl.out
  subst hl
  have sz1 := q1.2.1
  have sz2 := q2.2.1
  refine wpAnyF_ready (rs := [0, 13]) (by kernel_rfl) (by simp) ?_
  refine AllReadyF.cons (o := { dst := some 9, op := .buildSlice 24 0 #[], type := _, pos := _, after := _, guard := none }) rfl (fun K hK => ?_) ?_
  ·skip
   go_simp
   go_wp2_with fail
   refine hK.out _ _ (cb.out _ (hB.alloc hB.size _)) (fun hHeld => ?_)
   clear hK K
   try simp only [Act.put, zT, z0, zS]
   exact st_1110 _ (show _ = _ by rfl) _ (hB.alloc hB.size _) _ (Lit.new hB.size) _ (q1.keep (Frm.alloc w _) (by omega)) _ (q2.keep (Frm.alloc w _) (by omega)) (by omega) (by omega) (by omega)
  refine AllReadyF.cons (o := { dst := some 5, op := .alloc 37, type := _, pos := _, after := _, guard := none }) rfl (fun K hK => ?_) ?_
  ·skip
   go_simp
   go_wp2_with fail
   refine hK.out _ _ (cb.out _ (hB.alloc hB.size _)) (fun hHeld => ?_)
   clear hK K
   try simp only [Act.put, zT, z0, zS]
   exact st_0111 _ (show _ = _ by rfl) _ (hB.alloc hB.size _) _ (q1.keep (Frm.alloc w _) (by omega)) _ (q2.keep (Frm.alloc w _) (by omega)) _ (Box3.new hB.size _ _ _) (by omega) (by omega) (by omega)
  exact AllReadyF.nil
 have st_1001 : ∀ (l : Array Bool) (hl : Hid (l = #[true, true, true, false, false, true, true, false, false, true, true, false, false, true, false])) (w : World) (hB : Below wo.heap.size wo w) (g0' : Nat) (q0 : Lit 3 wo.heap.size w g0') (gA : Nat) (q3 : Box3 wo.heap.size w gA (.slice none 0 0) (.slice none 0 0) (.slice none 0 0)) (d03 : g0' ≠ gA), wpAnyF Tryd.prog .any bentOps Q (fun w' : World => w'.cell? ⟨g2, 0, none⟩ = some (.slice a1 n2 a2) ∧ w'.cell? ⟨g2, 1, none⟩ = some (.slice b1 n2 b2) ∧ w'.cell? ⟨g2, 2, none⟩ = some (.slice c1 n3 c2)) 14 7 l { tmps := #[.agg #[.slice a1 n2 a2, .slice b1 n2 b2, .slice c1 n3 c2], .agg #[.int .i64 h0, .int .i64 h1, .int .i64 h2], .pointer (some ⟨g2, 0, none⟩), .pointer (some ⟨g2 + 1, 0, none⟩), .pointer (some ⟨g2 + 1 + 1, 0, none⟩), .pointer (some ⟨gA, 0, none⟩), undef, undef, undef, .slice (some ⟨g0', 0, none⟩) 0 0, .pointer (some ⟨g2, 0, none⟩), .slice a1 n2 a2, undef, undef, .pointer (some ⟨g2, 1, none⟩), .slice b1 n2 b2, undef, undef, .pointer (some ⟨g2, 2, none⟩), .slice c1 n3 c2, undef, undef, undef, undef, undef, undef, undef, undef, undef, undef, undef, undef, undef, undef, undef, undef, undef, undef, undef, undef, undef, undef, undef, undef, undef, undef, undef, undef, undef, undef, undef, undef, undef, undef, undef, undef, undef, undef, undef, undef, undef, undef, undef, undef, undef, undef, undef, undef, undef, undef, undef, undef, undef, undef, undef, undef, undef, undef, undef, undef, undef, undef, undef, undef, undef, undef, undef, undef, undef, undef, undef, undef, undef, undef, undef, undef, undef, undef, undef, undef, undef, undef, undef, undef, undef, undef, undef, undef, undef, undef, undef, undef, undef, undef, undef, undef, undef, undef, undef, undef, undef, undef, undef, undef, undef, undef, undef, undef, undef, undef, undef, undef, undef, undef, undef, undef, undef, undef, undef, undef, undef, undef, undef, undef, undef, undef, undef, undef, undef, undef, undef, undef, undef, undef, undef, undef, undef, undef, undef, undef, undef, undef, undef, undef, undef, undef, undef, undef, undef, undef, undef, undef, undef], defers := [] } w := by
  intro l hl w hB g0' q0 gA q3 d03
  have hl := hl.out
  subst hl
  have sz0 := q0.2.1
  have sz3 := q3.2.1
  refine wpAnyF_ready (rs := [3, 4, 8]) (by kernel_rfl) (by simp) ?_
  refine AllReadyF.cons (o := { dst := some 12, op := .call { callee := .builtin .append, args := #[(.tmp 9), (.tmp 11)], argTypes := #[24, 24] }, type := _, pos := _, after := _, guard := none }) rfl (fun K hK => ?_) ?_
  ·skip
   obtain ⟨v', w', g9, ⟨x1, x2, x3, rfl⟩, hr, hq, hBB, hF, hor⟩ := app_litI w wo.heap.size g0' q0 (.slice a1 n2 a2) ks (fa.out _ (toW.out _ hB)) (by have := hN1.out; omega) hB.size
   have hBW := hB.trans hBB
   refine wp_append_run (.tmp 9) (.tmp 11) 24 rfl (.slice (some ⟨g0', 0, none⟩) 0 0) (.slice a1 n2 a2) rfl rfl _ _ hr ?_
   refine hK.out _ _ (cb.out _ hBW) (fun hHeld => ?_)
   clear hK K
   try simp only [Act.put, zT, z0, zS]
   exact st_2001 _ (show _ = _ by rfl) _ hBW _ _ _ _ _ hq _ (q3.keep hF (by omega)) (by omega)
  refine AllReadyF.cons (o := { dst := some 13, op := .buildSlice 35 0 #[], type := _, pos := _, after := _, guard := none }) rfl (fun K hK => ?_) ?_
  ·skip
   go_simp
   go_wp2_with fail
   refine hK.out _ _ (cb.out _ (hB.alloc hB.size _)) (fun hHeld => ?_)
   clear hK K
   try simp only [Act.put, zT, z0, zS]
   exact st_1101 _ (show _ = _ by rfl) _ (hB.alloc hB.size _) _ (q0.keep (Frm.alloc w _) (by omega)) _ (Lit.new hB.size) _ (q3.keep (Frm.alloc w _) (by omega)) (by omega) (by omega) (by omega)
  refine AllReadyF.cons (o := { dst := some 17, op := .buildSlice 35 0 #[], type := _, pos := _, after := _, guard := none }) rfl (fun K hK => ?_) ?_
  ·skip
   go_simp
   go_wp2_with fail
   refine hK.out _ _ (cb.out _ (hB.alloc hB.size _)) (fun hHeld => ?_)
   clear hK K
   try simp only [Act.put, zT, z0, zS]
   exact st_1011 _ (show _ = _ by rfl) _ (hB.alloc hB.size _) _ (q0.keep (Frm.alloc w _) (by omega)) _ (Lit.new hB.size) _ (q3.keep (Frm.alloc w _) (by omega)) (by omega) (by omega) (by omega)
  exact AllReadyF.nil
 have st_1010 : ∀ (l : Array Bool) (hl : Hid (l = #[true, true, true, false, false, true, true, false, true, true, true, false, false, false, false])) (w : World) (hB : Below wo.heap.size wo w) (g0' : Nat) (q0 : Lit 3 wo.heap.size w g0') (g2' : Nat) (q2 : Lit 9 wo.heap.size w g2') (d02 : g0' ≠ g2'), wpAnyF Tryd.prog .any bentOps Q (fun w' : World => w'.cell? ⟨g2, 0, none⟩ = some (.slice a1 n2 a2) ∧ w'.cell? ⟨g2, 1, none⟩ = some (.slice b1 n2 b2) ∧ w'.cell? ⟨g2, 2, none⟩ = some (.slice c1 n3 c2)) 14 7 l { tmps := #[.agg #[.slice a1 n2 a2, .slice b1 n2 b2, .slice c1 n3 c2], .agg #[.int .i64 h0, .int .i64 h1, .int .i64 h2], .pointer (some ⟨g2, 0, none⟩), .pointer (some ⟨g2 + 1, 0, none⟩), .pointer (some ⟨g2 + 1 + 1, 0, none⟩), undef, undef, undef, undef, .slice (some ⟨g0', 0, none⟩) 0 0, .pointer (some ⟨g2, 0, none⟩), .slice a1 n2 a2, undef, undef, .pointer (some ⟨g2, 1, none⟩), .slice b1 n2 b2, undef, .slice (some ⟨g2', 0, none⟩) 0 0, .pointer (some ⟨g2, 2, none⟩), .slice c1 n3 c2, undef, undef, undef, undef, undef, undef, undef, undef, undef, undef, undef, undef, undef, undef, undef, undef, undef, undef, undef, undef, undef, undef, undef, undef, undef, undef, undef, undef, undef, undef, undef, undef, undef, undef, undef, undef, undef, undef, undef, undef, undef, undef, undef, undef, undef, undef, undef, undef, undef, undef, undef, undef, undef, undef, undef, undef, undef, undef, undef, undef, undef, undef, undef, undef, undef, undef, undef, undef, undef, undef, undef, undef, undef, undef, undef, undef, undef, undef, undef, undef, undef, undef, undef, undef, undef, undef, undef, undef, undef, undef, undef, undef, undef, undef, undef, undef, undef, undef, undef, undef, undef, undef, undef, undef, undef, undef, undef, undef, undef, undef, undef, undef, undef, undef, undef, undef, undef, undef, undef, undef, undef, undef, undef, undef, undef, undef, undef, undef, undef, undef, undef, undef, undef, undef, undef, undef, undef, undef, undef, undef, undef, undef, undef, undef, undef, undef, undef, undef, undef, undef, undef, undef, undef], defers := [] } w := by
  intro l hl w hB g0' q0 g2' q2 d02
  have hl := hl.out
  subst hl
  have sz0 := q0.2.1
  have sz2 := q2.2.1
  refine wpAnyF_ready (rs := [3, 4, 13]) (by kernel_rfl) (by simp) ?_
  refine AllReadyF.cons (o := { dst := some 12, op := .call { callee := .builtin .append, args := #[(.tmp 9), (.tmp 11)], argTypes := #[24, 24] }, type := _, pos := _, after := _, guard := none }) rfl (fun K hK => ?_) ?_
  ·skip
   obtain ⟨v', w', g9, ⟨x1, x2, x3, rfl⟩, hr, hq, hBB, hF, hor⟩ := app_litI w wo.heap.size g0' q0 (.slice a1 n2 a2) ks (fa.out _ (toW.out _ hB)) (by have := hN1.out; omega) hB.size
   have hBW := hB.trans hBB
   refine wp_append_run (.tmp 9) (.tmp 11) 24 rfl (.slice (some ⟨g0', 0, none⟩) 0 0) (.slice a1 n2 a2) rfl rfl _ _ hr ?_
   refine hK.out _ _ (cb.out _ hBW) (fun hHeld => ?_)
   clear hK K
   try simp only [Act.put, zT, z0, zS]
   exact st_2010 _ (show _ = _ by rfl) _ hBW _ _ _ _ _ hq _ (q2.keep hF (by omega)) (by omega)
  refine AllReadyF.cons (o := { dst := some 13, op := .buildSlice 35 0 #[], type := _, pos := _, after := _, guard := none }) rfl (fun K hK => ?_) ?_
  ·skip
   go_simp
   go_wp2_with fail
   refine hK.out _ _ (cb.out _ (hB.alloc hB.size _)) (fun hHeld => ?_)
   clear hK K
   try simp only [Act.put, zT, z0, zS]
   exact st_1110 _ (show _ = _ by rfl) _ (hB.alloc hB.size _) _ (q0.keep (Frm.alloc w _) (by omega)) _ (Lit.new hB.size) _ (q2.keep (Frm.alloc w _) (by omega)) (by omega) (by omega) (by omega)
  refine AllReadyF.cons (o := { dst := some 5, op := .alloc 37, type := _, pos := _, after := _, guard := none }) rfl (fun K hK => ?_) ?_
  ·skip
   go_simp
   go_wp2_with fail
   refine hK.out _ _ (cb.out _ (hB.alloc hB.size _)) (fun hHeld => ?_)
   clear hK K
   try simp only [Act.put, zT, z0, zS]
   exact st_1011 _ (show _ = _ by rfl) _ (hB.alloc hB.size _) _ (q0.keep (Frm.alloc w _) (by omega)) _ (q2.keep (Frm.alloc w _) (by omega)) _ (Box3.new hB.size _ _ _) (by omega) (by omega) (by omega)
  exact AllReadyF.nil
 have st_1100 : ∀ (l : Array Bool) (hl : Hid (l = #[true, true, true, false, true, true, true, false, false, true, true, false, false, false, false])) (w : World) (hB : Below wo.heap.size wo w) (g0' : Nat) (q0 : Lit 3 wo.heap.size w g0') (g1' : Nat) (q1 : Lit 9 wo.heap.size w g1') (d01 : g0' ≠ g1'), wpAnyF Tryd.prog .any bentOps Q (fun w' : World => w'.cell? ⟨g2, 0, none⟩ = some (.slice a1 n2 a2) ∧ w'.cell? ⟨g2, 1, none⟩ = some (.slice b1 n2 b2) ∧ w'.cell? ⟨g2, 2, none⟩ = some (.slice c1 n3 c2)) 14 7 l { tmps := #[.agg #[.slice a1 n2 a2, .slice b1 n2 b2, .slice c1 n3 c2], .agg #[.int .i64 h0, .int .i64 h1, .int .i64 h2], .pointer (some ⟨g2, 0, none⟩), .pointer (some ⟨g2 + 1, 0, none⟩), .pointer (some ⟨g2 + 1 + 1, 0, none⟩), undef, undef, undef, undef, .slice (some ⟨g0', 0, none⟩) 0 0, .pointer (some ⟨g2, 0, none⟩), .slice a1 n2 a2, undef, .slice (some ⟨g1', 0, none⟩) 0 0, .pointer (some ⟨g2, 1, none⟩), .slice b1 n2 b2, undef, undef, .pointer (some ⟨g2, 2, none⟩), .slice c1 n3 c2, undef, undef, undef, undef, undef, undef, undef, undef, undef, undef, undef, undef, undef, undef, undef, undef, undef, undef, undef, undef, undef, undef, undef, undef, undef, undef, undef, undef, undef, undef, undef, undef, undef, undef, undef, undef, undef, undef, undef, undef, undef, undef, undef, undef, undef, undef, undef, undef, undef, undef, undef, undef, undef, undef, undef, undef, undef, undef, undef, undef, undef, undef, undef, undef, undef, undef, undef, undef, undef, undef, undef, undef, undef, undef, undef, undef, undef, undef, undef, undef, undef, undef, undef, undef, undef, undef, undef, undef, undef, undef, undef, undef, undef, undef, undef, undef, undef, undef, undef, undef, undef, undef, undef, undef, undef, undef, undef, undef, undef, undef, undef, undef, undef, undef, undef, undef, undef, undef, undef, undef, undef, undef, undef, undef, undef, undef, undef, undef, undef, undef, undef, undef, undef, undef, undef, undef, undef, undef, undef, undef, undef, undef, undef, undef, undef, undef, undef, undef, undef, undef, undef, undef, undef], defers := [] } w := by
  intro l hl w hB g0' q0 g1' q1 d01
  have hl := hl.out
  subst hl
  have sz0 := q0.2.1
  have sz1 := q1.2.1
  refine wpAnyF_ready (rs := [3, 8, 13]) (by kernel_rfl) (by simp) ?_
  refine AllReadyF.cons (o := { dst := some 12, op := .call { callee := .builtin .append, args := #[(.tmp 9), (.tmp 11)], argTypes := #[24, 24] }, type := _, pos := _, after := _, guard := none }) rfl (fun K hK => ?_) ?_
  ·skip
   obtain ⟨v', w', g9, ⟨x1, x2, x3, rfl⟩, hr, hq, hBB, hF, hor⟩ := app_litI w wo.heap.size g0' q0 (.slice a1 n2 a2) ks (fa.out _ (toW.out _ hB)) (by have := hN1.out; omega) hB.size
   have hBW := hB.trans hBB
   refine wp_append_run (.tmp 9) (.tmp 11) 24 rfl (.slice (some ⟨g0', 0, none⟩) 0 0) (.slice a1 n2 a2) rfl rfl _ _ hr ?_
   refine hK.out _ _ (cb.out _ hBW) (fun hHeld => ?_)
   clear hK K
   try simp only [Act.put, zT, z0, zS]
   exact st_2100 _ (show _ = _ by rfl) _ hBW _ _ _ _ _ hq _ (q1.keep hF (by omega)) (by omega)
  refine AllReadyF.cons (o := { dst := some 17, op := .buildSlice 35 0 #[], type := _, pos := _, after := _, guard := none }) rfl (fun K hK => ?_) ?_
  ·skip
   go_simp
   go_wp2_with fail
   refine hK.out _ _ (cb.out _ (hB.alloc hB.size _)) (fun hHeld => ?_)
   clear hK K
   try simp only [Act.put, zT, z0, zS]
   exact st_1110 _ (show _ = _ by rfl) _ (hB.alloc hB.size _) _ (q0.keep (Frm.alloc w _) (by omega)) _ (q1.keep (Frm.alloc w _) (by omega)) _ (Lit.new hB.size) (by omega) (by omega) (by omega)
  refine AllReadyF.cons (o := { dst := some 5, op := .alloc 37, type := _, pos := _, after := _, guard := none }) rfl (fun K hK => ?_) ?_
  ·skip
   go_simp
   go_wp2_with fail
   refine hK.out _ _ (cb.out _ (hB.alloc hB.size _)) (fun hHeld => ?_)
   clear hK K
   try simp only [Act.put, zT, z0, zS]
   exact st_1101 _ (show _ = _ by rfl) _ (hB.alloc hB.size _) _ (q0.keep (Frm.alloc w _) (by omega)) _ (q1.keep (Frm.alloc w _) (by omega)) _ (Box3.new hB.size _ _ _) (by omega) (by omega) (by omega)
  exact AllReadyF.nil
 have st_2000 : ∀ (l : Array Bool) (hl : Hid (l = #[true, true, true, true, false, true, true, false, false, true, true, false, false, false, false])) (w : World) (hB : Below wo.heap.size wo w) (m0 g0' : Nat) (x1 : Option Addr) (x2 x3 : Nat) (q0 : RowK eI 3 wo.heap.size w g0' (.slice x1 x2 x3) ks), wpAnyF Tryd.prog .any bentOps Q (fun w' : World => w'.cell? ⟨g2, 0, none⟩ = some (.slice a1 n2 a2) ∧ w'.cell? ⟨g2, 1, none⟩ = some (.slice b1 n2 b2) ∧ w'.cell? ⟨g2, 2, none⟩ = some (.slice c1 n3 c2)) 14 7 l { tmps := #[.agg #[.slice a1 n2 a2, .slice b1 n2 b2, .slice c1 n3 c2], .agg #[.int .i64 h0, .int .i64 h1, .int .i64 h2], .pointer (some ⟨g2, 0, none⟩), .pointer (some ⟨g2 + 1, 0, none⟩), .pointer (some ⟨g2 + 1 + 1, 0, none⟩), undef, undef, undef, undef, .slice (some ⟨m0, 0, none⟩) 0 0, .pointer (some ⟨g2, 0, none⟩), .slice a1 n2 a2, .slice x1 x2 x3, undef, .pointer (some ⟨g2, 1, none⟩), .slice b1 n2 b2, undef, undef, .pointer (some ⟨g2, 2, none⟩), .slice c1 n3 c2, undef, undef, undef, undef, undef, undef, undef, undef, undef, undef, undef, undef, undef, undef, undef, undef, undef, undef, undef, undef, undef, undef, undef, undef, undef, undef, undef, undef, undef, undef, undef, undef, undef, undef, undef, undef, undef, undef, undef, undef, undef, undef, undef, undef, undef, undef, undef, undef, undef, undef, undef, undef, undef, undef, undef, undef, undef, undef, undef, undef, undef, undef, undef, undef, undef, undef, undef, undef, undef, undef, undef, undef, undef, undef, undef, undef, undef, undef, undef, undef, undef, undef, undef, undef, undef, undef, undef, undef, undef, undef, undef, undef, undef, undef, undef, undef, undef, undef, undef, undef, undef, undef, undef, undef, undef, undef, undef, undef, undef, undef, undef, undef, undef, undef, undef, undef, undef, undef, undef, undef, undef, undef, undef, undef, undef, undef, undef, undef, undef, undef, undef, undef, undef, undef, undef, undef, undef, undef, undef, undef, undef, undef, undef, undef, undef, undef, undef, undef, undef, undef, undef, undef, undef], defers := [] } w := by
  intro l hl w hB m0 g0' x1 x2 x3 q0
  have hl := hl.out
  subst hl
  have sz0 := q0.2.1
  refine wpAnyF_ready (rs := [4, 8, 13]) (by kernel_rfl) (by simp) ?_
  refine AllReadyF.cons (o := { dst := some 13, op := .buildSlice 35 0 #[], type := _, pos := _, after := _, guard := none }) rfl (fun K hK => ?_) ?_
  ·skip
   go_simp
   go_wp2_with fail
   refine hK.out _ _ (cb.out _ (hB.alloc hB.size _)) (fun hHeld => ?_)
   clear hK K
   try simp only [Act.put, zT, z0, zS]
   exact st_2100 _ (show _ = _ by rfl) _ (hB.alloc hB.size _) _ _ _ _ _ (q0.keep (Frm.alloc w _) (by omega)) _ (Lit.new hB.size) (by omega)
  refine AllReadyF.cons (o := { dst := some 17, op := .buildSlice 35 0 #[], type := _, pos := _, after := _, guard := none }) rfl (fun K hK => ?_) ?_
  ·skip
   go_simp
   go_wp2_with fail
   refine hK.out _ _ (cb.out _ (hB.alloc hB.size _)) (fun hHeld => ?_)
   clear hK K
   try simp only [Act.put, zT, z0, zS]
   exact st_2010 _ (show _ = _ by rfl) _ (hB.alloc hB.size _) _ _ _ _ _ (q0.keep (Frm.alloc w _) (by omega)) _ (Lit.new hB.size) (by omega)
  refine AllReadyF.cons (o := { dst := some 5, op := .alloc 37, type := _, pos := _, after := _, guard := none }) rfl (fun K hK => ?_) ?_
  ·skip
   go_simp
   go_wp2_with fail
   refine hK.out _ _ (cb.out _ (hB.alloc hB.size _)) (fun hHeld => ?_)
   clear hK K
   try simp only [Act.put, zT, z0, zS]
   exact st_2001 _ (show _ = _ by rfl) _ (hB.alloc hB.size _) _ _ _ _ _ (q0.keep (Frm.alloc w _) (by omega)) _ (Box3.new hB.size _ _ _) (by omega)
  exact AllReadyF.nil
 have st_0001 : ∀ (l : Array Bool) (hl : Hid (l = #[false, true, true, false, false, true, true, false, false, true, true, false, false, true, false])) (w : World) (hB : Below wo.heap.size wo w) (gA : Nat) (q3 : Box3 wo.heap.size w gA (.slice none 0 0) (.slice none 0 0) (.slice none 0 0)), wpAnyF Tryd.prog .any bentOps Q (fun w' : World => w'.cell? ⟨g2, 0, none⟩ = some (.slice a1 n2 a2) ∧ w'.cell? ⟨g2, 1, none⟩ = some (.slice b1 n2 b2) ∧ w'.cell? ⟨g2, 2, none⟩ = some (.slice c1 n3 c2)) 14 8 l { tmps := #[.agg #[.slice a1 n2 a2, .slice b1 n2 b2, .slice c1 n3 c2], .agg #[.int .i64 h0, .int .i64 h1, .int .i64 h2], .pointer (some ⟨g2, 0, none⟩), .pointer (some ⟨g2 + 1, 0, none⟩), .pointer (some ⟨g2 + 1 + 1, 0, none⟩), .pointer (some ⟨gA, 0, none⟩), undef, undef, undef, undef, .pointer (some ⟨g2, 0, none⟩), .slice a1 n2 a2, undef, undef, .pointer (some ⟨g2, 1, none⟩), .slice b1 n2 b2, undef, undef, .pointer (some ⟨g2, 2, none⟩), .slice c1 n3 c2, undef, undef, undef, undef, undef, undef, undef, undef, undef, undef, undef, undef, undef, undef, undef, undef, undef, undef, undef, undef, undef, undef, undef, undef, undef, undef, undef, undef, undef, undef, undef, undef, undef, undef, undef, undef, undef, undef, undef, undef, undef, undef, undef, undef, undef, undef, undef, undef, undef, undef, undef, undef, undef, undef, undef, undef, undef, undef, undef, undef, undef, undef, undef, undef, undef, undef, undef, undef, undef, undef, undef, undef, undef, undef, undef, undef, undef, undef, undef, undef, undef, undef, undef, undef, undef, undef, undef, undef, undef, undef, undef, undef, undef, undef, undef, undef, undef, undef, undef, undef, undef, undef, undef, undef, undef, undef, undef, undef, undef, undef, undef, undef, undef, undef, undef, undef, undef, undef, undef, undef, undef, undef, undef, undef, undef, undef, undef, undef, undef, undef, undef, undef, undef, undef, undef, undef, undef, undef, undef, undef, undef, undef, undef, undef, undef, undef, undef, undef, undef, undef, undef, undef, undef], defers := [] } w := by
  intro l hl w hB gA q3
  have hl := hl.out
  subst hl
  have sz3 := q3.2.1
  refine wpAnyF_ready (rs := [0, 4, 8]) (by kernel_rfl) (by simp) ?_
  refine AllReadyF.cons (o := { dst := some 9, op := .buildSlice 24 0 #[], type := _, pos := _, after := _, guard := none }) rfl (fun K hK => ?_) ?_
  ·skip
   go_simp
   go_wp2_with fail
   refine hK.out _ _ (cb.out _ (hB.alloc hB.size _)) (fun hHeld => ?_)
   clear hK K
   try simp only [Act.put, zT, z0, zS]
   exact st_1001 _ (show _ = _ by rfl) _ (hB.alloc hB.size _) _ (Lit.new hB.size) _ (q3.keep (Frm.alloc w _) (by omega)) (by omega)
  refine AllReadyF.cons (o := { dst := some 13, op := .buildSlice 35 0 #[], type := _, pos := _, after := _, guard := none }) rfl (fun K hK => ?_) ?_
  ·skip
   go_simp
   go_wp2_with fail
   refine hK.out _ _ (cb.out _ (hB.alloc hB.size _)) (fun hHeld => ?_)
   clear hK K
   try simp only [Act.put, zT, z0, zS]
   exact st_0101 _ (show _ = _ by rfl) _ (hB.alloc hB.size _) _ (Lit.new hB.size) _ (q3.keep (Frm.alloc w _) (by omega)) (by omega)
  refine AllReadyF.cons (o := { dst := some 17, op := .buildSlice 35 0 #[], type := _, pos := _, after := _, guard := none }) rfl (fun K hK => ?_) ?_
  ·skip
   go_simp
   go_wp2_with fail
   refine hK.out _ _ (cb.out _ (hB.alloc hB.size _)) (fun hHeld => ?_)
   clear hK K
   try simp only [Act.put, zT, z0, zS]
   exact st_0011 _ (show _ = _ by rfl) _ (hB.alloc hB.size _) _ (Lit.new hB.size) _ (q3.keep (Frm.alloc w _) (by omega)) (by omega)
  exact AllReadyF.nil
 have st_0010 : ∀ (l : Array Bool) (hl : Hid (l = #[false, true, true, false, false, true, true, false, true, true, true, false, false, false, false])) (w : World) (hB : Below wo.heap.size wo w) (g2' : Nat) (q2 : Lit 9 wo.heap.size w g2'), wpAnyF Tryd.prog .any bentOps Q (fun w' : World => w'.cell? ⟨g2, 0, none⟩ = some (.slice a1 n2 a2) ∧ w'.cell? ⟨g2, 1, none⟩ = some (.slice b1 n2 b2) ∧ w'.cell? ⟨g2, 2, none⟩ = some (.slice c1 n3 c2)) 14 8 l { tmps := #[.agg #[.slice a1 n2 a2, .slice b1 n2 b2, .slice c1 n3 c2], .agg #[.int .i64 h0, .int .i64 h1, .int .i64 h2], .pointer (some ⟨g2, 0, none⟩), .pointer (some ⟨g2 + 1, 0, none⟩), .pointer (some ⟨g2 + 1 + 1, 0, none⟩), undef, undef, undef, undef, undef, .pointer (some ⟨g2, 0, none⟩), .slice a1 n2 a2, undef, undef, .pointer (some ⟨g2, 1, none⟩), .slice b1 n2 b2, undef, .slice (some ⟨g2', 0, none⟩) 0 0, .pointer (some ⟨g2, 2, none⟩), .slice c1 n3 c2, undef, undef, undef, undef, undef, undef, undef, undef, undef, undef, undef, undef, undef, undef, undef, undef, undef, undef, undef, undef, undef, undef, undef, undef, undef, undef, undef, undef, undef, undef, undef, undef, undef, undef, undef, undef, undef, undef, undef, undef, undef, undef, undef, undef, undef, undef, undef, undef, undef, undef, undef, undef, undef, undef, undef, undef, undef, undef, undef, undef, undef, undef, undef, undef, undef, undef, undef, undef, undef, undef, undef, undef, undef, undef, undef, undef, undef, undef, undef, undef, undef, undef, undef, undef, undef, undef, undef, undef, undef, undef, undef, undef, undef, undef, undef, undef, undef, undef, undef, undef, undef, undef, undef, undef, undef, undef, undef, undef, undef, undef, undef, undef, undef, undef, undef, undef, undef, undef, undef, undef, undef, undef, undef, undef, undef, undef, undef, undef, undef, undef, undef, undef, undef, undef, undef, undef, undef, undef, undef, undef, undef, undef, undef, undef, undef, undef, undef, undef, undef, undef, undef, undef, undef], defers := [] } w := by
  intro l hl w hB g2' q2
  have hl := hl.out
  subst hl
  have sz2 := q2.2.1
  refine wpAnyF_ready (rs := [0, 4, 13]) (by kernel_rfl) (by simp) ?_
  refine AllReadyF.cons (o := { dst := some 9, op := .buildSlice 24 0 #[], type := _, pos := _, after := _, guard := none }) rfl (fun K hK => ?_) ?_
  ·skip
   go_simp
   go_wp2_with fail
   refine hK.out _ _ (cb.out _ (hB.alloc hB.size _)) (fun hHeld => ?_)
   clear hK K
   try simp only [Act.put, zT, z0, zS]
   exact st_1010 _ (show _ = _ by rfl) _ (hB.alloc hB.size _) _ (Lit.new hB.size) _ (q2.keep (Frm.alloc w _) (by omega)) (by omega)
  refine AllReadyF.cons (o := { dst := some 13, op := .buildSlice 35 0 #[], type := _, pos := _, after := _, guard := none }) rfl (fun K hK => ?_) ?_
  ·skip
   go_simp
   go_wp2_with fail
   refine hK.out _ _ (cb.out _ (hB.alloc hB.size _)) (fun hHeld => ?_)
   clear hK K
   try simp only [Act.put, zT, z0, zS]
   exact st_0110 _ (show _ = _ by rfl) _ (hB.alloc hB.size _) _ (Lit.new hB.size) _ (q2.keep (Frm.alloc w _) (by omega)) (by omega)
  refine AllReadyF.cons (o := { dst := some 5, op := .alloc 37, type := _, pos := _, after := _, guard := none }) rfl (fun K hK => ?_) ?_
  ·skip
   go_simp
   go_wp2_with fail
   refine hK.out _ _ (cb.out _ (hB.alloc hB.size _)) (fun hHeld => ?_)
   clear hK K
   try simp only [Act.put, zT, z0, zS]
   exact st_0011 _ (show _ = _ by rfl) _ (hB.alloc hB.size _) _ (q2.keep (Frm.alloc w _) (by omega)) _ (Box3.new hB.size _ _ _) (by omega)
  exact AllReadyF.nil
 have st_0100 : ∀ (l : Array Bool) (hl : Hid (l = #[false, true, true, false, true, true, true, false, false, true, true, false, false, false, false])) (w : World) (hB : Below wo.heap.size wo w) (g1' : Nat) (q1 : Lit 9 wo.heap.size w g1'), wpAnyF Tryd.prog .any bentOps Q (fun w' : World => w'.cell? ⟨g2, 0, none⟩ = some (.slice a1 n2 a2) ∧ w'.cell? ⟨g2, 1, none⟩ = some (.slice b1 n2 b2) ∧ w'.cell? ⟨g2, 2, none⟩ = some (.slice c1 n3 c2)) 14 8 l { tmps := #[.agg #[.slice a1 n2 a2, .slice b1 n2 b2, .slice c1 n3 c2], .agg #[.int .i64 h0, .int .i64 h1, .int .i64 h2], .pointer (some ⟨g2, 0, none⟩), .pointer (some ⟨g2 + 1, 0, none⟩), .pointer (some ⟨g2 + 1 + 1, 0, none⟩), undef, undef, undef, undef, undef, .pointer (some ⟨g2, 0, none⟩), .slice a1 n2 a2, undef, .slice (some ⟨g1', 0, none⟩) 0 0, .pointer (some ⟨g2, 1, none⟩), .slice b1 n2 b2, undef, undef, .pointer (some ⟨g2, 2, none⟩), .slice c1 n3 c2, undef, undef, undef, undef, undef, undef, undef, undef, undef, undef, undef, undef, undef, undef, undef, undef, undef, undef, undef, undef, undef, undef, undef, undef, undef, undef, undef, undef, undef, undef, undef, undef, undef, undef, undef, undef, undef, undef, undef, undef, undef, undef, undef, undef, undef, undef, undef, undef, undef, undef, undef, undef, undef, undef, undef, undef, undef, undef, undef, undef, undef, undef, undef, undef, undef, undef, undef, undef, undef, undef, undef, undef, undef, undef, undef, undef, undef, undef, undef, undef, undef, undef, undef, undef, undef, undef, undef, undef, undef, undef, undef, undef, undef, undef, undef, undef, undef, undef, undef, undef, undef, undef, undef, undef, undef, undef, undef, undef, undef, undef, undef, undef, undef, undef, undef, undef, undef, undef, undef, undef, undef, undef, undef, undef, undef, undef, undef, undef, undef, undef, undef, undef, undef, undef, undef, undef, undef, undef, undef, undef, undef, undef, undef, undef, undef, undef, undef, undef, undef, undef, undef, undef, undef], defers := [] } w := by
  intro l hl w hB g1' q1
  have hl := hl.out
  subst hl
  have sz1 := q1.2.1
  refine wpAnyF_ready (rs := [0, 8, 13]) (by kernel_rfl) (by simp) ?_
  refine AllReadyF.cons (o := { dst := some 9, op := .buildSlice 24 0 #[], type := _, pos := _, after := _, guard := none }) rfl (fun K hK => ?_) ?_
  ·skip
   go_simp
   go_wp2_with fail
   refine hK.out _ _ (cb.out _ (hB.alloc hB.size _)) (fun hHeld => ?_)
   clear hK K
   try simp only [Act.put, zT, z0, zS]
   exact st_1100 _ (show _ = _ by rfl) _ (hB.alloc hB.size _) _ (Lit.new hB.size) _ (q1.keep (Frm.alloc w _) (by omega)) (by omega)
  refine AllReadyF.cons (o := { dst := some 17, op := .buildSlice 35 0 #[], type := _, pos := _, after := _, guard := none }) rfl (fun K hK => ?_) ?_
  ·skip
   go_simp
   go_wp2_with fail
   refine hK.out _ _ (cb.out _ (hB.alloc hB.size _)) (fun hHeld => ?_)
   clear hK K
   try simp only [Act.put, zT, z0, zS]
   exact st_0110 _ (show _ = _ by rfl) _ (hB.alloc hB.size _) _ (q1.keep (Frm.alloc w _) (by omega)) _ (Lit.new hB.size) (by omega)
  refine AllReadyF.cons (o := { dst := some 5, op := .alloc 37, type := _, pos := _, after := _, guard := none }) rfl (fun K hK => ?_) ?_
  ·skip
   go_simp
   go_wp2_with fail
   refine hK.out _ _ (cb.out _ (hB.alloc hB.size _)) (fun hHeld => ?_)
   clear hK K
   try simp only [Act.put, zT, z0, zS]
   exact st_0101 _ (show _ = _ by rfl) _ (hB.alloc hB.size _) _ (q1.keep (Frm.alloc w _) (by omega)) _ (Box3.new hB.size _ _ _) (by omega)
  exact AllReadyF.nil
 have st_1000 : ∀ (l : Array Bool) (hl : Hid (l = #[true, true, true, false, false, true, true, false, false, true, true, false, false, false, false])) (w : World) (hB : Below wo.heap.size wo w) (g0' : Nat) (q0 : Lit 3 wo.heap.size w g0'), wpAnyF Tryd.prog .any bentOps Q (fun w' : World => w'.cell? ⟨g2, 0, none⟩ = some (.slice a1 n2 a2) ∧ w'.cell? ⟨g2, 1, none⟩ = some (.slice b1 n2 b2) ∧ w'.cell? ⟨g2, 2, none⟩ = some (.slice c1 n3 c2)) 14 8 l { tmps := #[.agg #[.slice a1 n2 a2, .slice b1 n2 b2, .slice c1 n3 c2], .agg #[.int .i64 h0, .int .i64 h1, .int .i64 h2], .pointer (some ⟨g2, 0, none⟩), .pointer (some ⟨g2 + 1, 0, none⟩), .pointer (some ⟨g2 + 1 + 1, 0, none⟩), undef, undef, undef, undef, .slice (some ⟨g0', 0, none⟩) 0 0, .pointer (some ⟨g2, 0, none⟩), .slice a1 n2 a2, undef, undef, .pointer (some ⟨g2, 1, none⟩), .slice b1 n2 b2, undef, undef, .pointer (some ⟨g2, 2, none⟩), .slice c1 n3 c2, undef, undef, undef, undef, undef, undef, undef, undef, undef, undef, undef, undef, undef, undef, undef, undef, undef, undef, undef, undef, undef, undef, undef, undef, undef, undef, undef, undef, undef, undef, undef, undef, undef, undef, undef, undef, undef, undef, undef, undef, undef, undef, undef, undef, undef, undef, undef, undef, undef, undef, undef, undef, undef, undef, undef, undef, undef, undef, undef, undef, undef, undef, undef, undef, undef, undef, undef, undef, undef, undef, undef, undef, undef, undef, undef, undef, undef, undef, undef, undef, undef, undef, undef, undef, undef, undef, undef, undef, undef, undef, undef, undef, undef, undef, undef, undef, undef, undef, undef, undef, undef, undef, undef, undef, undef, undef, undef, undef, undef, undef, undef, undef, undef, undef, undef, undef, undef, undef, undef, undef, undef, undef, undef, undef, undef, undef, undef, undef, undef, undef, undef, undef, undef, undef, undef, undef, undef, undef, undef, undef, undef, undef, undef, undef, undef, undef, undef, undef, undef, undef, undef, undef, undef], defers := [] } w := by
  intro l hl w hB g0' q0
  have hl := hl.out
  subst hl
  have sz0 := q0.2.1
  refine wpAnyF_ready (rs := [3, 4, 8, 13]) (by kernel_rfl) (by simp) ?_
  refine AllReadyF.cons (o := { dst := some 12, op := .call { callee := .builtin .append, args := #[(.tmp 9), (.tmp 11)], argTypes := #[24, 24] }, type := _, pos := _, after := _, guard := none }) rfl (fun K hK => ?_) ?_
  ·skip
   obtain ⟨v', w', g9, ⟨x1, x2, x3, rfl⟩, hr, hq, hBB, hF, hor⟩ := app_litI w wo.heap.size g0' q0 (.slice a1 n2 a2) ks (fa.out _ (toW.out _ hB)) (by have := hN1.out; omega) hB.size
   have hBW := hB.trans hBB
   refine wp_append_run (.tmp 9) (.tmp 11) 24 rfl (.slice (some ⟨g0', 0, none⟩) 0 0) (.slice a1 n2 a2) rfl rfl _ _ hr ?_
   refine hK.out _ _ (cb.out _ hBW) (fun hHeld => ?_)
   clear hK K
   try simp only [Act.put, zT, z0, zS]
   exact st_2000 _ (show _ = _ by rfl) _ hBW _ _ _ _ _ hq
  refine AllReadyF.cons (o := { dst := some 13, op := .buildSlice 35 0 #[], type := _, pos := _, after := _, guard := none }) rfl (fun K hK => ?_) ?_
  ·skip
   go_simp
   go_wp2_with fail
   refine hK.out _ _ (cb.out _ (hB.alloc hB.size _)) (fun hHeld => ?_)
   clear hK K
   try simp only [Act.put, zT, z0, zS]
   exact st_1100 _ (show _ = _ by rfl) _ (hB.alloc hB.size _) _ (q0.keep (Frm.alloc w _) (by omega)) _ (Lit.new hB.size) (by omega)
  refine AllReadyF.cons (o := { dst := some 17, op := .buildSlice 35 0 #[], type := _, pos := _, after := _, guard := none }) rfl (fun K hK => ?_) ?_
  ·skip
   go_simp
   go_wp2_with fail
   refine hK.out _ _ (cb.out _ (hB.alloc hB.size _)) (fun hHeld => ?_)
   clear hK K
   try simp only [Act.put, zT, z0, zS]
   exact st_1010 _ (show _ = _ by rfl) _ (hB.alloc hB.size _) _ (q0.keep (Frm.alloc w _) (by omega)) _ (Lit.new hB.size) (by omega)
  refine AllReadyF.cons (o := { dst := some 5, op := .alloc 37, type := _, pos := _, after := _, guard := none }) rfl (fun K hK => ?_) ?_
  ·skip
   go_simp
   go_wp2_with fail
   refine hK.out _ _ (cb.out _ (hB.alloc hB.size _)) (fun hHeld => ?_)
   clear hK K
   try simp only [Act.put, zT, z0, zS]
   exact st_1001 _ (show _ = _ by rfl) _ (hB.alloc hB.size _) _ (q0.keep (Frm.alloc w _) (by omega)) _ (Box3.new hB.size _ _ _) (by omega)
  exact AllReadyF.nil
 have st_0000 : ∀ (l : Array Bool) (hl : Hid (l = #[false, true, true, false, false, true, true, false, false, true, true, false, false, false, false])) (w : World) (hB : Below wo.heap.size wo w), wpAnyF Tryd.prog .any bentOps Q (fun w' : World => w'.cell? ⟨g2, 0, none⟩ = some (.slice a1 n2 a2) ∧ w'.cell? ⟨g2, 1, none⟩ = some (.slice b1 n2 b2) ∧ w'.cell? ⟨g2, 2, none⟩ = some (.slice c1 n3 c2)) 14 9 l { tmps := #[.agg #[.slice a1 n2 a2, .slice b1 n2 b2, .slice c1 n3 c2], .agg #[.int .i64 h0, .int .i64 h1, .int .i64 h2], .pointer (some ⟨g2, 0, none⟩), .pointer (some ⟨g2 + 1, 0, none⟩), .pointer (some ⟨g2 + 1 + 1, 0, none⟩), undef, undef, undef, undef, undef, .pointer (some ⟨g2, 0, none⟩), .slice a1 n2 a2, undef, undef, .pointer (some ⟨g2, 1, none⟩), .slice b1 n2 b2, undef, undef, .pointer (some ⟨g2, 2, none⟩), .slice c1 n3 c2, undef, undef, undef, undef, undef, undef, undef, undef, undef, undef, undef, undef, undef, undef, undef, undef, undef, undef, undef, undef, undef, undef, undef, undef, undef, undef, undef, undef, undef, undef, undef, undef, undef, undef, undef, undef, undef, undef, undef, undef, undef, undef, undef, undef, undef, undef, undef, undef, undef, undef, undef, undef, undef, undef, undef, undef, undef, undef, undef, undef, undef, undef, undef, undef, undef, undef, undef, undef, undef, undef, undef, undef, undef, undef, undef, undef, undef, undef, undef, undef, undef, undef, undef, undef, undef, undef, undef, undef, undef, undef, undef, undef, undef, undef, undef, undef, undef, undef, undef, undef, undef, undef, undef, undef, undef, undef, undef, undef, undef, undef, undef, undef, undef, undef, undef, undef, undef, undef, undef, undef, undef, undef, undef, undef, undef, undef, undef, undef, undef, undef, undef, undef, undef, undef, undef, undef, undef, undef, undef, undef, undef, undef, undef, undef, undef, undef, undef, undef, undef, undef, undef, undef, undef], defers := [] } w := by
  intro l hl w hB
  have hl := hl.out
  subst hl
  refine wpAnyF_ready (rs := [0, 4, 8, 13]) (by kernel_rfl) (by simp) ?_
  refine AllReadyF.cons (o := { dst := some 9, op := .buildSlice 24 0 #[], type := _, pos := _, after := _, guard := none }) rfl (fun K hK => ?_) ?_
  ·skip
   go_simp
   go_wp2_with fail
   refine hK.out _ _ (cb.out _ (hB.alloc hB.size _)) (fun hHeld => ?_)
   clear hK K
   try simp only [Act.put, zT, z0, zS]
   exact st_1000 _ (show _ = _ by rfl) _ (hB.alloc hB.size _) _ (Lit.new hB.size)
  refine AllReadyF.cons (o := { dst := some 13, op := .buildSlice 35 0 #[], type := _, pos := _, after := _, guard := none }) rfl (fun K hK => ?_) ?_
  ·skip
   go_simp
   go_wp2_with fail
   refine hK.out _ _ (cb.out _ (hB.alloc hB.size _)) (fun hHeld => ?_)
   clear hK K
   try simp only [Act.put, zT, z0, zS]
   exact st_0100 _ (show _ = _ by rfl) _ (hB.alloc hB.size _) _ (Lit.new hB.size)
  refine AllReadyF.cons (o := { dst := some 17, op := .buildSlice 35 0 #[], type := _, pos := _, after := _, guard := none }) rfl (fun K hK => ?_) ?_
  ·skip
   go_simp
   go_wp2_with fail
   refine hK.out _ _ (cb.out _ (hB.alloc hB.size _)) (fun hHeld => ?_)
   clear hK K
   try simp only [Act.put, zT, z0, zS]
   exact st_0010 _ (show _ = _ by rfl) _ (hB.alloc hB.size _) _ (Lit.new hB.size)
  refine AllReadyF.cons (o := { dst := some 5, op := .alloc 37, type := _, pos := _, after := _, guard := none }) rfl (fun K hK => ?_) ?_
  ·skip
   go_simp
   go_wp2_with fail
   refine hK.out _ _ (cb.out _ (hB.alloc hB.size _)) (fun hHeld => ?_)
   clear hK K
   try simp only [Act.put, zT, z0, zS]
   exact st_0001 _ (show _ = _ by rfl) _ (hB.alloc hB.size _) _ (Box3.new hB.size _ _ _)
  exact AllReadyF.nil
 exact st_0000 _ (show _ = _ by rfl) _ (Below.refl _ wo).drew
end Go.Proofs.YtegahpfmkepfmaaDoor
