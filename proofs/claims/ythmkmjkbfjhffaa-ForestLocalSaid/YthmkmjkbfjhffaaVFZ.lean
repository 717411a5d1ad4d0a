/- Contracts and facts. -/
import Derived.Deep.LoopGhost
import Derived.Handy
import Derived.RangeFuncNested
import Derived.RangeFuncBound
import Derived.RangeFuncBox
import Derived.RangeFuncCalls
import Derived.RangeFuncLeaves
import Derived.Shelf.Abstract
import Derived.Shelf.RegionOpen
import Derived.WalkKit
import Derived.OwnWalkIn
import Derived.TacticsInMore
import Derived.LoopNIn
import Derived.LoopIn
import Derived.Maps.OwnIn
import Derived.BigRegionIn
import Derived.Stop.RegionWithIn
import Derived.WalkMore
import Derived.BigRegion
import Derived.Laws.EntriesVeiled
import Derived.Test.YthmkmjkbfjhffaaVFX
import Derived.Test.YthmkmjkbfjhffaaVIN
import Derived.Test.YthmkmjkbfjhffaaVFG
set_option linter.unusedSimpArgs false
set_option maxRecDepth 100000
set_option maxHeartbeats 4000000
namespace Go.Proofs.Ythmkmjkbfjhffaa
open Go.RowKit Go.Shelf
attribute [local go_sem] Oper.semAt_some
theorem cell_of_box_c {W : World} {B : Nat} {v : Value} {t : TypeId} (h : W.heap[B]? = some (.cells #[v] t (0, 0))) : W.cell? ⟨B, 0, none⟩ = some v ∧ W.frozen? ⟨B, 0, none⟩ = false := by
  constructor <;> simp [World.cell?, World.frozen?, h]
theorem cell_new_c (W : World) (v : Value) (t : TypeId) : (W.alloc (.cells #[v] t)).cell? ⟨W.heap.size, 0, none⟩ = some v ∧ (W.alloc (.cells #[v] t)).frozen? ⟨W.heap.size, 0, none⟩ = false :=
  cell_of_box_c (World.alloc_heap_new W _)
theorem cell_alloc_c {W : World} {a : Addr} {v : Value} (o : Obj) (h : W.cell? a = some v) : (W.alloc o).cell? a = some v := cell_kept h (World.grownBy_alloc W o none) (fun r e => by cases e)
theorem PMV.grown {W W' : World} {b : Nat} {m : PM} {r : Option Nat} (h : PMV W b m) (g : W.grownBy W' r) (hr : r ≠ some b) : PMV W' b m := MI.MI.grown h g hr
theorem PMV.al {W : World} {b : Nat} {m : PM} (h : PMV W b m) (o : Obj) : PMV (W.alloc o) b m := h.grown (World.grownBy_alloc W o none) (by simp)
def foldR {n₀ : Nat} {w : World} (pre : List (RX n₀ w)) : PM := (pre.map RX.nm).foldl stepR (fun _ => none)
theorem foldR_snoc {n₀ : Nat} {w : World} (pre : List (RX n₀ w)) (x : RX n₀ w) : foldR (pre ++ [x]) = stepR (foldR pre) x.nm := by simp [foldR]
theorem al_keepR {X Y : World} {row : Option Nat} {B : Nat} {cs : Array Value} {t : TypeId} (h : X.heap[B]? = some (.cells cs t (0, 0))) (hg : X.grownBy Y row) (hr : row ≠ some B) : Y.heap[B]? = some (.cells cs t (0, 0)) := by
  rw [hg.block B (Array.getElem?_eq_some_iff.1 h).1 (fun e => hr e.symm)]; exact h
theorem cell_lt {W : World} {p : Addr} {v : Value} (h : W.cell? p = some v) : p.block < W.heap.size := by
  apply Classical.byContradiction
  intro hn
  unfold World.cell? at h
  rw [Array.getElem?_eq_none (by omega)] at h
  simp at h
theorem keepsFrom_below {W W' : World} {B : Nat} (h : Below W.heap.size W W') : KeepsFrom B W W' := ⟨h.size, fun r o _ hh _ => by
  rw [h.block r (Array.getElem?_eq_some_iff.1 hh).1]; exact hh⟩
set_option maxRecDepth 100000 in
theorem read_in (F : Fence) (n : Nat) (h3 : F.fn 40) (h4 : F.fn 57) (h5 : F.fn 69) (hro : F.round = none) (hn : 3 ≤ n) (a : Option Addr) (c : Nat) (L : List Nm) (hlen : L.length ≤ 1000000) (w : World) (hL : NL w (.slice a L.length c) L) :
    CallsIn F n Try.prog 40 #[.slice a L.length c] w fun e W' => e = .returned (.map (some w.heap.size)) ∧ PMV W' w.heap.size (readF L) ∧ Below w.heap.size w W' := by
  have h1 : 1 ≤ n := by omega
  obtain ⟨zs, z1, z2⟩ := list_choose L (fun j x (y : RX w.heap.size w) => y.1.1 = j ∧ y.nm = x ∧ ∃ b o, a = some ⟨b, o, none⟩ ∧ b < w.heap.size ∧ w.cell? ⟨b, o + j * 2, none⟩ = some (.int .i64 x.1) ∧ w.cell? ⟨b, o + j * 2 + 1, none⟩ = some y.1.2.2.1) (fun j x hx => by
    rcases hL with ⟨rfl, _⟩ | ⟨_, b, o, c', e, _, hb, hc⟩
    · simp at hx
    · injection e with e1 _ _
      obtain ⟨k1, lv, k2, k3⟩ := hc j x hx
      exact ⟨⟨(j, x.1, lv, x.2), fun W B => k3.below B⟩, rfl, rfl, b, o, e1, hb, k1, k2⟩)
  have hmap : zs.map RX.nm = L := by
    apply List.ext_getElem
    · simp [z1]
    · intro j a1 a2
      rw [List.getElem_map]
      exact (z2 j (by simpa using a1) _ (List.getElem?_eq_getElem a2)).2.1
  have hmm := @run_makeMap Try.prog
  refine callsIn_of_wp_marks Try.func40 rfl h3 ?_ hro
  simp only [Try.ntmps40, List.size_toArray, List.length_cons, List.length_nil, Nat.reduceAdd, Nat.reduceSub, Array.replicate_succ, Array.replicate_zero, List.push_toArray, List.append_toArray, List.nil_append, List.cons_append]
  gi_wp2_with (gi_at_call 57; refine (back_in F (n - 1) h4 hro _ _ _ _).mono ?_; rintro e w' ⟨rfl, rfl⟩)
  obtain ⟨W0, hW0⟩ : ∃ W0, ((w.alloc (.map #[] 0)).alloc (.cells #[.map (some w.heap.size)] 69)).alloc (.cells #[.slice a L.length c] 46) = W0 := ⟨_, rfl⟩
  have bM : Boxed W0 (w.heap.size + 1) 69 (.map (some w.heap.size)) := by rw [← hW0]; have := (Boxed.new (w.alloc (.map #[] 0)) 69 (.map (some w.heap.size))).alloc (.cells #[.slice a L.length c] 46); simpa using this
  have bS : Boxed W0 (w.heap.size + 2) 46 (.slice a L.length c) := by rw [← hW0]; have := Boxed.new ((w.alloc (.map #[] 0)).alloc (.cells #[.map (some w.heap.size)] 69)) 46 (.slice a L.length c); simpa using this
  have m0 : PMV W0 w.heap.size (fun _ => none) := by rw [← hW0]; exact ((show PMV (w.alloc (.map #[] 0)) w.heap.size (fun _ => none) from MI.MI.made w).al _).al _
  have hB0 : Below w.heap.size w W0 := by rw [← hW0]; exact (((Below.refl _ w).alloc (Nat.le_refl _) _).alloc (by simp) _).alloc (by simp; omega) _
  have hsz : W0.heap.size = w.heap.size + 3 := by rw [← hW0]; simp
  rw [hW0]
  clear hW0
  have seq : SeqStopsK F (n - 1) Try.prog 69 #[.pointer (some ⟨w.heap.size + 2, 0, none⟩)] (fun x : RX w.heap.size w => x.enc) (KB w.heap.size (w.heap.size + 2)) (fun ys => ys = zs.reverse) (fun _ => True) L.length W0 := fun l J Jx W hW _ _ hY h0 =>
    back1_in F (n - 1) h5 hro (by omega) l (w.heap.size + 2) w.heap.size L.length c a (fun x : RX w.heap.size w => x.enc) zs z1 (by omega) J Jx hY W ((hW.block _ (by omega)).trans bS) (fun j hj => by
      have hj2 : j < L.length := by omega
      obtain ⟨e1, e2, b, o, e3, e4, e5, e6⟩ := z2 j hj _ (List.getElem?_eq_getElem hj2)
      have hBW := hB0.trans (hW.mono hB0.size)
      refine ⟨b, o, _, _, e3, e4, (hBW.cell (p := ⟨b, o + j * 2, none⟩) e4).trans e5, (hBW.cell (p := ⟨b, o + j * 2 + 1, none⟩) e4).trans e6, ?_⟩
      unfold RX.enc
      rw [e1, ← e2]; rfl) h0
  refine wpIn_rangeFunc_ownH hro h1 (gf := 69) (lb := #[.pointer (some ⟨w.heap.size + 2, 0, none⟩)]) rfl h5 (enters_of Try.func69 (by kernel_rfl) rfl) seq KB.trans
    (fun W l o o' hl hh k1 k2 => ⟨belowK_b (w := W0) (by omega) W l o o' hl hh k1 k2, World.putObj_heap_other (by omega)⟩) (Below.refl _ _) (fun _ => rfl)
    (fun pre W => (Boxed W (w.heap.size + 1) 69 (.map (some w.heap.size)) ∧ PMV W w.heap.size (foldR pre)) ∧ (Below w.heap.size w W ∧ w.heap.size + 3 ≤ W.heap.size))
    (fun _ _ _ => False)
    (OwnFrom.and (OwnFrom.and (Own.from (boxed_own _ _ _) _) (fun s A B row hs hg hr => hs.grown hg (fun e => by have := (hr _ e).1; omega))) (OwnFrom.and (ownFrom_below (Nat.le_refl _) (by omega)) (fun (_ : List (RX w.heap.size w)) A B row hs hg hr => Nat.le_trans hs hg.size)))
    (fun _ _ _ _ _ hs _ _ => hs)
    ⟨⟨bM, m0⟩, hB0, by omega⟩
    (fun x a' W => ∃ Bx, w.heap.size + 2 < Bx ∧ W.heap[Bx]? = some (.cells #[.int .i64 x.1.2.1, x.1.2.2.1] 54 (0, 0)) ∧ a' = { tmps := #[.slice a L.length c, undef, .map none, .pointer (some ⟨w.heap.size + 1, 0, none⟩), undef, .pointer (some ⟨Bx, 0, none⟩), .map (some w.heap.size), .slice a L.length c, .func (.func 69) #[] #[.pointer (some ⟨w.heap.size + 2, 0, none⟩)], .int .i64 x.1.1, .agg #[.int .i64 x.1.2.1, x.1.2.2.1], undef, undef, undef, undef, undef, undef, undef, undef, undef, undef, undef, undef, undef, undef, undef, undef, undef, undef, undef, undef, undef, undef, undef, undef], defers := [] })
    (fun x a' _ X Y row hs hg hr => by
      obtain ⟨Bx, h1, h2, h3⟩ := hs
      exact ⟨Bx, h1, al_keepR h2 hg (fun e => by obtain ⟨o, ho, hc⟩ := (hr _ e).2; rw [h2] at ho; cases ho; cases hc), h3⟩)
    ?assign ?body ?done ?stop
  case assign =>
    rintro l pre x W K ⟨⟨bM1, m1⟩, hB1, hz⟩ hK
    have hs1 := hB1.size
    have hlt := bM1.lt
    obtain ⟨lv, hlv⟩ : ∃ lv, x.1.2.2.1 = lv := ⟨_, rfl⟩
    have hx := x.2 W hB1
    rw [hlv] at hx
    obtain ⟨la, lc, rfl⟩ := hx.shape
    unfold RX.enc
    simp only [hlv] at hK ⊢
    gi_wp2
    exact hK _ _ ((KeepsOthers.alloc _ _).from _) ⟨(Below.refl _ W).alloc hs1 _, Below.heap_alloc W _ _ (by omega)⟩ ⟨⟨bM1.alloc _, m1.al _⟩, hB1.alloc hs1 _, by simp; omega⟩ ⟨W.heap.size, by omega, heap_alloc_new W _, rfl⟩
  case body =>
    rintro l pre x a' W hl _ ⟨⟨bM1, m1⟩, hB1, hz⟩ ⟨Bx, hBx, hb, rfl⟩ hlt
    have hs1 := hB1.size
    obtain ⟨lv, hlv⟩ : ∃ lv, x.1.2.2.1 = lv := ⟨_, rfl⟩
    obtain ⟨id, hid⟩ : ∃ id, x.1.2.1 = id := ⟨_, rfl⟩
    obtain ⟨ll, hll⟩ : ∃ ll, x.1.2.2.2 = ll := ⟨_, rfl⟩
    have hx := x.2 W hB1
    have hnm : x.nm = (id, ll) := by unfold RX.nm; rw [hid, hll]
    have hf := foldR_snoc pre x
    rw [hnm] at hf
    rw [hlv, hll] at hx
    simp only [hlv, hid] at hb ⊢
    obtain ⟨la, lc, rfl⟩ := hx.shape
    have cM := bM1.cell
    have d0 : W.cell? ⟨Bx, 0, none⟩ = some (.int .i64 id) := by rw [cell_of_row _ _ _ _ _ _ hb]; rfl
    have d1 : W.cell? ⟨Bx, 1, none⟩ = some (.slice la ll.length lc) := by rw [cell_of_row _ _ _ _ _ _ hb]; rfl
    obtain ⟨W1, hr1, m2, hg1, hsz1⟩ := m1.strike id 0
    have ko : ∀ b, b ≠ w.heap.size → b < W.heap.size → W1.heap[b]? = W.heap[b]? := fun b h1 h2 => hg1.block b h2 (fun e => h1 (by cases e; rfl))
    have bM2 : Boxed W1 (w.heap.size + 1) 69 (.map (some w.heap.size)) := (ko _ (by omega) (by omega)).trans bM1
    have hb2 : W1.heap[Bx]? = _ := (ko _ (by omega) ((Array.getElem?_eq_some_iff.1 hb).1)).trans hb
    have cM2 := bM2.cell
    have e0 : W1.cell? ⟨Bx, 0, none⟩ = some (.int .i64 id) := by rw [cell_of_row _ _ _ _ _ _ hb2]; rfl
    have e1 : W1.cell? ⟨Bx, 1, none⟩ = some (.slice la ll.length lc) := by rw [cell_of_row _ _ _ _ _ _ hb2]; rfl
    have hB2 : Below w.heap.size w W1 := hB1.grown hg1 hs1 (fun k e => by cases e; exact Nat.le_refl _)
    have kf : KeepsFrom W0.heap.size W W1 := KeepsFrom.of_grownBy hg1 (fun j e => by cases e; omega)
    have kb : KB w.heap.size (w.heap.size + 2) W W1 := ⟨(Below.refl _ W).grown hg1 hs1 (fun k e => by cases e; exact Nat.le_refl _), ko _ (by omega) (by omega)⟩
    by_cases h3 : ll.length = 3
    · have hst : foldR (pre ++ [x]) = putP (foldR pre) id ⟨ll[0]?.getD 0, ll[1]?.getD 0, ll[2]?.getD 0⟩ := by rw [hf]; unfold stepR; rw [if_pos h3]
      have hx1 := x.2 W1 hB2
      rw [hlv, hll] at hx1
      obtain ⟨b, o, rfl, c0⟩ := hx1.cells 0 (by omega)
      obtain ⟨b', o', q, c1⟩ := hx1.cells 1 (by omega)
      injection q with q; injection q with q1 q2 _; subst q1 q2
      obtain ⟨b', o', q, c2⟩ := hx1.cells 2 (by omega)
      injection q with q; injection q with q1 q2 _; subst q1 q2
      have c0 := c0 W1 (Below.refl _ _)
      rw [Nat.add_zero] at c0
      have c1 := c1 W1 (Below.refl _ _)
      have c2 := c2 W1 (Below.refl _ _)
      rw [List.getElem?_eq_getElem (by omega : 0 < ll.length), List.getElem?_eq_getElem (by omega : 1 < ll.length), List.getElem?_eq_getElem (by omega : 2 < ll.length)] at hst
      simp only [Option.getD_some] at hst
      generalize ll[0] = x0 at *
      generalize ll[1] = x1 at *
      generalize ll[2] = x2 at *
      rw [h3] at *
      have hlt1 : b < W1.heap.size := cell_lt c0
      have hC1 := Lib.hid (fun W (q : Below W1.heap.size W1 W) => (show W.cell? ⟨w.heap.size + 1, 0, none⟩ = some (.map (some w.heap.size)) ∧ W.cell? ⟨Bx, 0, none⟩ = some (.int .i64 id) ∧ W.cell? ⟨Bx, 1, none⟩ = some (.slice (some ⟨b, o, none⟩) 3 lc) ∧ W.cell? ⟨b, o, none⟩ = some (.int .i64 x0) ∧ W.cell? ⟨b, o + 1, none⟩ = some (.int .i64 x1) ∧ W.cell? ⟨b, o + 2, none⟩ = some (.int .i64 x2) from
        ⟨(q.cell (p := ⟨w.heap.size + 1, 0, none⟩) (cell_lt cM2)).trans cM2, (q.cell (p := ⟨Bx, 0, none⟩) (cell_lt e0)).trans e0, (q.cell (p := ⟨Bx, 1, none⟩) (cell_lt e1)).trans e1, (q.cell (p := ⟨b, o, none⟩) hlt1).trans c0, (q.cell (p := ⟨b, o + 1, none⟩) hlt1).trans c1, (q.cell (p := ⟨b, o + 2, none⟩) hlt1).trans c2⟩))
      have hm : putP (fun k => if k = id then none else foldR pre k) id ⟨x0, x1, x2⟩ = putP (foldR pre) id ⟨x0, x1, x2⟩ := by
        funext k; unfold putP; split <;> simp_all
      have hPut := Lib.hid (fun W (q : Below W1.heap.size W1 W) => (show PMV W w.heap.size _ from MI.MI.of m2 (q.block _ (by omega))).put id ⟨x0, x1, x2⟩)
      rw [hm] at hPut
      unfold plV at hPut
      gi_wp2_with (gi_at_builtin; refine wlIn_delete rfl (.tmp 11) (.tmp 13) 69 3 rfl (.map (some w.heap.size)) (.int .i64 id) rfl rfl W1 hr1 ?_)
      refine Rel.b_regionIn (F.inRound l) (n - 1 - 1) l rfl W1 [some (.map (some w.heap.size)), some (.pointer (some ⟨Bx, 0, none⟩)), some (.int .i64 id), some (.pointer (some ⟨Bx, 1, none⟩)), some (.slice (some ⟨b, o, none⟩) 3 lc), some (.pointer (some ⟨b, o, none⟩)), some (.int .i64 x0), some (.pointer (some ⟨Bx, 1, none⟩)), some (.slice (some ⟨b, o, none⟩) 3 lc), some (.pointer (some ⟨b, o + 1, none⟩)), some (.int .i64 x1), some (.pointer (some ⟨Bx, 1, none⟩)), some (.slice (some ⟨b, o, none⟩) 3 lc), some (.pointer (some ⟨b, o + 2, none⟩)), some (.int .i64 x2), some (.agg #[.int .i64 x0, .int .i64 x1, .int .i64 x2]), none] (fun _ _ _ => True) (fun _ W => ∃ W9, Below W1.heap.size W1 W9 ∧ PMV W w.heap.size (putP (foldR pre) id ⟨x0, x1, x2⟩) ∧ W9.grownBy W (some w.heap.size) ∧ W.heap.size = W9.heap.size) 16 (by kernel_rfl) (by kernel_rfl) (by kernel_rfl) rfl (fun i v W W' h Bl => trivial) (fun _ _ _ _ h => h) ((Below.refl _ W1).drew) (fun vals hO => ?_)
      refine Rel.b_pure (.map (some w.heap.size)) rfl (by decide) (hO 0 _ rfl) (by rfl) (fun w hC hd => ?_) ?_
      · obtain ⟨y0, y1, y2, y3, y4, y5⟩ := hC1.out w hC; clear hd hO hPut; go_simp
      try simp only [Act.put, zT, z0, zS]
      refine Rel.b_pure (.pointer (some ⟨Bx, 0, none⟩)) rfl (by decide) (hO 1 _ rfl) (by rfl) (fun w hC hd => ?_) ?_
      · obtain ⟨y0, y1, y2, y3, y4, y5⟩ := hC1.out w hC; clear hd hO hPut; go_simp
      try simp only [Act.put, zT, z0, zS]
      refine Rel.b_pure (.int .i64 id) rfl (by decide) (hO 2 _ rfl) (by rfl) (fun w hC hd => ?_) ?_
      · obtain ⟨y0, y1, y2, y3, y4, y5⟩ := hC1.out w hC; clear hd hO hPut; go_simp
      try simp only [Act.put, zT, z0, zS]
      refine Rel.b_pure (.pointer (some ⟨Bx, 1, none⟩)) rfl (by decide) (hO 3 _ rfl) (by rfl) (fun w hC hd => ?_) ?_
      · obtain ⟨y0, y1, y2, y3, y4, y5⟩ := hC1.out w hC; clear hd hO hPut; go_simp
      try simp only [Act.put, zT, z0, zS]
      refine Rel.b_pure (.slice (some ⟨b, o, none⟩) 3 lc) rfl (by decide) (hO 4 _ rfl) (by rfl) (fun w hC hd => ?_) ?_
      · obtain ⟨y0, y1, y2, y3, y4, y5⟩ := hC1.out w hC; clear hd hO hPut; go_simp
      try simp only [Act.put, zT, z0, zS]
      refine Rel.b_pure (.pointer (some ⟨b, o, none⟩)) rfl (by decide) (hO 5 _ rfl) (by rfl) (fun w hC hd => ?_) ?_
      · obtain ⟨y0, y1, y2, y3, y4, y5⟩ := hC1.out w hC; clear hd hO hPut; go_simp
      try simp only [Act.put, zT, z0, zS]
      refine Rel.b_pure (.int .i64 x0) rfl (by decide) (hO 6 _ rfl) (by rfl) (fun w hC hd => ?_) ?_
      · obtain ⟨y0, y1, y2, y3, y4, y5⟩ := hC1.out w hC; clear hd hO hPut; go_simp
      try simp only [Act.put, zT, z0, zS]
      refine Rel.b_pure (.pointer (some ⟨Bx, 1, none⟩)) rfl (by decide) (hO 7 _ rfl) (by rfl) (fun w hC hd => ?_) ?_
      · obtain ⟨y0, y1, y2, y3, y4, y5⟩ := hC1.out w hC; clear hd hO hPut; go_simp
      try simp only [Act.put, zT, z0, zS]
      refine Rel.b_pure (.slice (some ⟨b, o, none⟩) 3 lc) rfl (by decide) (hO 8 _ rfl) (by rfl) (fun w hC hd => ?_) ?_
      · obtain ⟨y0, y1, y2, y3, y4, y5⟩ := hC1.out w hC; clear hd hO hPut; go_simp
      try simp only [Act.put, zT, z0, zS]
      refine Rel.b_pure (.pointer (some ⟨b, o + 1, none⟩)) rfl (by decide) (hO 9 _ rfl) (by rfl) (fun w hC hd => ?_) ?_
      · obtain ⟨y0, y1, y2, y3, y4, y5⟩ := hC1.out w hC; clear hd hO hPut; go_simp
      try simp only [Act.put, zT, z0, zS]
      refine Rel.b_pure (.int .i64 x1) rfl (by decide) (hO 10 _ rfl) (by rfl) (fun w hC hd => ?_) ?_
      · obtain ⟨y0, y1, y2, y3, y4, y5⟩ := hC1.out w hC; clear hd hO hPut; go_simp
      try simp only [Act.put, zT, z0, zS]
      refine Rel.b_pure (.pointer (some ⟨Bx, 1, none⟩)) rfl (by decide) (hO 11 _ rfl) (by rfl) (fun w hC hd => ?_) ?_
      · obtain ⟨y0, y1, y2, y3, y4, y5⟩ := hC1.out w hC; clear hd hO hPut; go_simp
      try simp only [Act.put, zT, z0, zS]
      refine Rel.b_pure (.slice (some ⟨b, o, none⟩) 3 lc) rfl (by decide) (hO 12 _ rfl) (by rfl) (fun w hC hd => ?_) ?_
      · obtain ⟨y0, y1, y2, y3, y4, y5⟩ := hC1.out w hC; clear hd hO hPut; go_simp
      try simp only [Act.put, zT, z0, zS]
      refine Rel.b_pure (.pointer (some ⟨b, o + 2, none⟩)) rfl (by decide) (hO 13 _ rfl) (by rfl) (fun w hC hd => ?_) ?_
      · obtain ⟨y0, y1, y2, y3, y4, y5⟩ := hC1.out w hC; clear hd hO hPut; go_simp
      try simp only [Act.put, zT, z0, zS]
      refine Rel.b_pure (.int .i64 x2) rfl (by decide) (hO 14 _ rfl) (by rfl) (fun w hC hd => ?_) ?_
      · obtain ⟨y0, y1, y2, y3, y4, y5⟩ := hC1.out w hC; clear hd hO hPut; go_simp
      try simp only [Act.put, zT, z0, zS]
      refine Rel.b_pure (.agg #[.int .i64 x0, .int .i64 x1, .int .i64 x2]) rfl (by decide) (hO 15 _ rfl) (by rfl) (fun w hC hd => ?_) ?_
      · obtain ⟨y0, y1, y2, y3, y4, y5⟩ := hC1.out w hC; clear hd hO hPut; go_simp
      try simp only [Act.put, zT, z0, zS]
      refine Rel.b_last rfl (by rfl) (fun W9 hC hd => ?_) ?_
      · obtain ⟨W2, hr2, m3, hg2, hsz2⟩ := hPut.out W9 hC
        refine post_skip' W2 ?_ ⟨W9, hC, m3, hg2, hsz2⟩
        clear hd hO hPut; go_simp
      try simp only [Act.put, zT, z0, zS]
      refine Rel.b_end ?_
      intro W2 hF
      obtain ⟨W9, B9, m3, hg2, hsz2⟩ : ∃ W9, Below W1.heap.size W1 W9 ∧ PMV W2 w.heap.size (putP (foldR pre) id ⟨x0, x1, x2⟩) ∧ W9.grownBy W2 (some w.heap.size) ∧ W2.heap.size = W9.heap.size := by simpa using hF
      have s9 := B9.size
      have bM3 : Boxed W2 (w.heap.size + 1) 69 (.map (some w.heap.size)) := ((hg2.block _ (by omega) (fun e => by injection e with e; omega)).trans (B9.block _ (by omega))).trans bM2
      have hB9 : Below w.heap.size w W9 := hB2.trans (B9.mono hB2.size)
      have hB3 : Below w.heap.size w W2 := hB9.grown hg2 hB9.size (fun k e => by cases e; exact Nat.le_refl _)
      have kf2 := (kf.trans (keepsFrom_below B9)).trans (KeepsFrom.of_grownBy (B := W0.heap.size) hg2 (fun j e => by cases e; omega))
      have kb2 := kb.trans (⟨(B9.mono hB2.size).trans ((Below.refl _ W9).grown hg2 hB9.size (fun k e => by cases e; exact Nat.le_refl _)), (hg2.block _ (by omega) (fun e => by injection e with e; omega)).trans (B9.block _ (by omega))⟩ : KB w.heap.size (w.heap.size + 2) W1 W2)
      exact ⟨kf2, kb2, ⟨bM3, by rw [hst]; exact m3⟩, hB3, by omega⟩
    · have hst : foldR (pre ++ [x]) = fun k => if k = id then none else foldR pre k := by rw [hf]; unfold stepR; rw [if_neg h3]
      have t1 : ((ll.length : Int) == 3) = false := by have : ¬ (ll.length : Int) = 3 := by omega
                                                       simpa using this
      gi_wp2_with (gi_at_builtin; refine wlIn_delete rfl (.tmp 11) (.tmp 13) 69 3 rfl (.map (some w.heap.size)) (.int .i64 id) rfl rfl W1 hr1 ?_)
      exact ⟨kf, kb, ⟨bM2, by rw [hst]; exact m2⟩, hB2, by omega⟩
  case done =>
    rintro D ys W hD rfl ⟨⟨bM1, m1⟩, hB1, hz⟩ hK
    have cM := bM1.cell
    gi_wp2
    refine ⟨by simp, .inl ⟨_, _, rfl, run_takeDeferred hK, ?_⟩⟩
    refine ⟨_, results_tmp rfl _ _ _, rfl, ?_, hB1.trans (belowK_b (w := w) (Nat.le_refl _) W D _ _ (by omega) hK rfl rfl)⟩
    have hf : foldR zs.reverse = readF L := by unfold foldR readF; rw [List.map_reverse, hmap]
    rw [← hf]
    exact m1.grown (grownBy_putObj' _ D _) (fun e => by cases e; omega)
  case stop =>
    rintro D c pre W _ _ h _
    exact h.elim

end Go.Proofs.Ythmkmjkbfjhffaa
