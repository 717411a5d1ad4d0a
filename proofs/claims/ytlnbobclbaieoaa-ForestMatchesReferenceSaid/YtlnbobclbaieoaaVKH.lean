/- Contracts and facts. -/
import Derived.Deep.LoopGhost
import Derived.Handy
import Derived.WalkMore
import Derived.BigRegion
import Derived.Laws.EntriesVeiled
import Derived.Test.YtlnbobclbaieoaaVKG
import Derived.Test.YtlnbobclbaieoaaVHE
set_option linter.unusedSimpArgs false
set_option maxRecDepth 100000
set_option maxHeartbeats 4000000
namespace Go.Proofs.Ytlnbobclbaieoaa
open Go.RowKit
theorem NL.cap {W : World} {a : Option Addr} {c : Nat} {L : List Nm} (h : NL W (.slice a L.length c) L) : L.length ≤ c := by
  rcases h with ⟨rfl, _⟩ | ⟨h0, b, o, c', e, h2, _⟩
  · simp
  · injection e with _ _ e3; rw [e3]; exact h2
theorem few_few (g : Gr) : FewF (fewG g) := by
  unfold FewF fewG
  simp only [List.length_take]; omega
theorem made_few {G : Gr} (h : Ok G) : FewF G := by
  have h1 := (ok_facts ((ok_iff G).2 h)).1
  have h2 := h.dlen
  unfold FewF; omega
set_option maxRecDepth 1000000 in
set_option maxHeartbeats 16000000 in
theorem Match_any (n : Int) (vl : Value) (l : List F5) (wide : Bool) (raw : Gr) (a b : Int) (path side : List Int) (xv : Value) (xs : List T3) (n0 sd0 : Int) (es0 : List Ed) (L0 : List Nm) (r1 r3 r5 t1 s1 d1 v1 l1 : Option Addr) (r2 r4 r6 t2 s2 d2 d3 v2 l2 : Nat) (w : World)
    (hl : L5 w vl l) (hn : i64B n) (hlen : l.length ≤ 9223372036854775807) (hr : ∀ r ∈ l, i64B r.a ∧ i64B r.b ∧ i64B r.c ∧ i64B r.d ∧ i64B r.e)
    (hv : VL w (.slice r1 raw.vs.length r2) raw.vs) (he : EL w (.slice r3 raw.es.length r4) raw.es) (hd : DL w (.slice r5 raw.ds.length r6) raw.ds) (hbig : raw.vs.length ≤ 9223372036854775807 ∧ raw.es.length ≤ 9223372036854775807 ∧ raw.ds.length ≤ 9223372036854775807)
    (ha : i64B a) (hb : i64B b) (hp : DL w (.slice t1 path.length t2) path) (hpl : path.length ≤ 9223372036854775807) (hs : DL w (.slice s1 side.length s2) side) (hsl : side.length ≤ 9223372036854775807)
    (hx : L3 w xv xs) (hxl : xs.length ≤ 9223372036854775807) (hxi : ∀ t ∈ xs, i64T t) (hve : EL w (.slice v1 es0.length v2) es0) (hvl : NL w (.slice l1 L0.length l2) L0) (hvb : es0.length ≤ 9223372036854775807 ∧ L0.length ≤ 9223372036854775807 ∧ ∀ x ∈ L0, x.2.length ≤ 9223372036854775807 ∧ ∀ v ∈ x.2, v ≤ 9223372036854775807) :
    Calls Try.prog 6 #[.int .i64 n, vl, .bool wide, .agg #[.slice r1 raw.vs.length r2, .slice r3 raw.es.length r4, .slice r5 raw.ds.length r6], .int .i64 a, .int .i64 b, .slice t1 path.length t2, .slice s1 side.length s2, xv, .agg #[.int .i64 n0, .int .i64 sd0, .slice d1 d2 d3, .slice v1 es0.length v2, .slice l1 L0.length l2]] w fun e w' => e = .returned (.bool true) ∧ Below w.heap.size w w' := by
  have hG0 := made_ok n l wide
  obtain ⟨q1, q2⟩ := hv.upto 6
  obtain ⟨q3, q4⟩ := he.upto 8
  obtain ⟨q5, q6⟩ := hd.upto 4
  have cFw := Lib.hid (fun W => few_x r1 r3 r5 raw.vs.length r2 raw.es.length r4 raw.ds.length r6 W q2 q4 q6 hbig)
  have hgf : GV w (.agg #[.slice r1 (min raw.vs.length 6) r2, .slice r3 (min raw.es.length 8) r4, .slice r5 (min raw.ds.length 4) r6]) (fewG raw) := ⟨_, _, _, rfl, q1, q3, q5⟩
  have hFf := few_few raw
  have cM := Lib.hid (fun W (B : Below w.heap.size w W) => Made_any n vl l wide W (hl.below B) hn hlen hr)
  obtain ⟨G, hG⟩ : ∃ G, Hid (G = madeG n l wide) := ⟨_, rfl⟩
  rw [← hG.out] at hG0 cM
  have hFG := made_few hG0
  have hv2 := (he.upto 8).2
  have hev := (hve.upto 6).2
  have hlv := hvl.cap
  obtain ⟨W0, hW0⟩ : ∃ W0, W0 = (w.alloc (.cells #[.slice r1 raw.vs.length r2, .slice r3 raw.es.length r4, .slice r5 raw.ds.length r6] 28)).alloc (.cells #[.int .i64 n0, .int .i64 sd0, .slice d1 d2 d3, .slice v1 es0.length v2, .slice l1 L0.length l2] 51) := ⟨_, rfl⟩
  have B0 : Below w.heap.size w W0 := by rw [hW0]; exact ((Below.refl _ w).alloc (Nat.le_refl _) _).alloc (by simp) _
  have z0 : W0.heap.size = w.heap.size + 2 := by rw [hW0]; simp
  have x13 : W0.heap[w.heap.size]? = some (.cells #[.slice r1 raw.vs.length r2, .slice r3 raw.es.length r4, .slice r5 raw.ds.length r6] 28 (0, 0)) := by rw [hW0]; exact al_keep1 (heap_alloc_new w _)
  have x19 : W0.heap[w.heap.size + 1]? = some (.cells #[.int .i64 n0, .int .i64 sd0, .slice d1 d2 d3, .slice v1 es0.length v2, .slice l1 L0.length l2] 51 (0, 0)) := by
    rw [hW0]
    have h := heap_alloc_new (w.alloc (.cells #[.slice r1 raw.vs.length r2, .slice r3 raw.es.length r4, .slice r5 raw.ds.length r6] 28)) (.cells #[.int .i64 n0, .int .i64 sd0, .slice d1 d2 d3, .slice v1 es0.length v2, .slice l1 L0.length l2] 51)
    simpa using h
  have h13 := Lib.hid (fun W (BB : Below W0.heap.size W0 W) => box3g ((BB.block w.heap.size (by omega)).trans x13))
  have h19 := Lib.hid (fun W (BB : Below W0.heap.size W0 W) => (BB.block (w.heap.size + 1) (by omega)).trans x19)
  have up0 := Lib.hid (fun W (BB : Below W0.heap.size W0 W) => B0.trans (BB.mono B0.size))
  have cMd := Lib.hid (show ∀ W (B : Below W0.heap.size W0 W), Calls Try.prog 8 #[.int .i64 n, vl, .bool wide] W fun e w' => ∃ a1 a2 b1 b2 c1 c2, ∃ n1 n2 n3 : Nat, e = .returned (.agg #[.slice a1 n1 a2, .slice b1 n2 b2, .slice c1 n3 c2]) ∧ GV w' (.agg #[.slice a1 n1 a2, .slice b1 n2 b2, .slice c1 n3 c2]) G ∧ Below W.heap.size W w' from fun W B => (cM.out W (up0.out W B)).mono fun e w' h => by
    obtain ⟨x, y, z, he, o1, o2, o3, hb⟩ := h
    obtain ⟨a1, a2, rfl⟩ := o1.VL.shape
    obtain ⟨b1, b2, rfl⟩ := o2.EL.shape
    obtain ⟨c1, c2, rfl⟩ := o3.DL.shape
    exact ⟨_, _, _, _, _, _, _, _, _, he, ⟨_, _, _, rfl, o1.VL, o2.EL, o3.DL⟩, hb⟩)
  have hgf0 := Lib.hid (fun W (BB : Below W0.heap.size W0 W) => hgf.below (up0.out W BB))
  have hsA := Lib.hid (fun W (BB : Below W0.heap.size W0 W) => (show DL W (.slice s1 side.length s2) side ∧ side.length = side.length ∧ side.length ≤ 9223372036854775807 from ⟨hs.below (up0.out W BB), rfl, hsl⟩))
  have htA := Lib.hid (fun W (BB : Below W0.heap.size W0 W) => (show DL W (.slice t1 path.length t2) path ∧ path.length = path.length ∧ path.length ≤ 9223372036854775807 from ⟨hp.below (up0.out W BB), rfl, hpl⟩))
  have hxA := Lib.hid (fun W (BB : Below W0.heap.size W0 W) => hx.below (up0.out W BB))
  have hvA := Lib.hid (fun W (BB : Below W0.heap.size W0 W) => (show W.heap[w.heap.size + 1]? = some (.cells #[.int .i64 n0, .int .i64 sd0, .slice d1 d2 d3, .slice v1 es0.length v2, .slice l1 L0.length l2] 51 (0, 0)) ∧ EL W (.slice v1 es0.length v2) es0 ∧ NL W (.slice l1 L0.length l2) L0 from ⟨h19.out W BB, hve.below (up0.out W BB), hvl.below (up0.out W BB)⟩))
  have hvB : Hid (es0.length = es0.length ∧ es0.length ≤ v2 ∧ es0.length ≤ 9223372036854775807 ∧ L0.length = L0.length ∧ L0.length ≤ l2 ∧ L0.length ≤ 9223372036854775807 ∧ ∀ x ∈ L0, x.2.length ≤ 9223372036854775807 ∧ ∀ v ∈ x.2, v ≤ 9223372036854775807) := ⟨rfl, hev, hvb.1, rfl, hlv, hvb.2.1, hvb.2.2⟩
  have hxB : Hid (xs.length ≤ 9223372036854775807 ∧ ∀ t ∈ xs, i64T t) := ⟨hxl, hxi⟩
  have haB : Hid (-9223372036854775808 ≤ a ∧ a ≤ 9223372036854775807) := by show _ ∧ _; unfold i64B at ha; omega
  have hbB : Hid (-9223372036854775808 ≤ b ∧ b ≤ 9223372036854775807) := by show _ ∧ _; unfold i64B at hb; omega
  have hFfH := Lib.hid hFf
  have hFGH := Lib.hid hFG
  generalize min raw.vs.length 6 = k1 at *
  generalize min raw.es.length 8 = k2 at *
  generalize min raw.ds.length 4 = k3 at *
  generalize fewG raw = CF at *
  obtain ⟨R1, hR1⟩ : ∃ N, Hid (N = raw.vs.length) := ⟨_, rfl⟩
  obtain ⟨R2, hR2⟩ : ∃ N, Hid (N = raw.es.length) := ⟨_, rfl⟩
  obtain ⟨R3, hR3⟩ : ∃ N, Hid (N = raw.ds.length) := ⟨_, rfl⟩
  obtain ⟨EV, hEV⟩ : ∃ N, Hid (N = es0.length) := ⟨_, rfl⟩
  obtain ⟨LV, hLV⟩ : ∃ N, Hid (N = L0.length) := ⟨_, rfl⟩
  obtain ⟨PN, hPN⟩ : ∃ N, Hid (N = path.length) := ⟨_, rfl⟩
  obtain ⟨SN, hSN⟩ : ∃ N, Hid (N = side.length) := ⟨_, rfl⟩
  replace hsA : Hid (∀ W, Below W0.heap.size W0 W → DL W (.slice s1 SN s2) side ∧ SN = side.length ∧ SN ≤ 9223372036854775807) := by rw [hSN.out]; exact hsA
  replace htA : Hid (∀ W, Below W0.heap.size W0 W → DL W (.slice t1 PN t2) path ∧ PN = path.length ∧ PN ≤ 9223372036854775807) := by rw [hPN.out]; exact htA
  replace hvA : Hid (∀ W, Below W0.heap.size W0 W → W.heap[w.heap.size + 1]? = some (.cells #[.int .i64 n0, .int .i64 sd0, .slice d1 d2 d3, .slice v1 EV v2, .slice l1 LV l2] 51 (0, 0)) ∧ EL W (.slice v1 EV v2) es0 ∧ NL W (.slice l1 LV l2) L0) := by rw [hEV.out, hLV.out]; exact hvA
  replace hvB : Hid (EV = es0.length ∧ EV ≤ v2 ∧ EV ≤ 9223372036854775807 ∧ LV = L0.length ∧ LV ≤ l2 ∧ LV ≤ 9223372036854775807 ∧ ∀ x ∈ L0, x.2.length ≤ 9223372036854775807 ∧ ∀ v ∈ x.2, v ≤ 9223372036854775807) := by rw [hEV.out, hLV.out]; exact hvB
  rw [← hR1.out, ← hR2.out, ← hR3.out] at hW0 h13 cFw
  rw [← hEV.out, ← hLV.out] at hW0
  rw [← hR1.out, ← hR2.out, ← hR3.out, ← hEV.out, ← hLV.out, ← hPN.out, ← hSN.out]
  have p19 : Hid (w.heap.size + 1 < W0.heap.size) := by show _ < _; omega
  have b0w := Lib.hid B0
  replace hW0 := Lib.hid hW0
  clear hG0 q1 q2 q3 q4 q5 q6 hgf hFf cM hFG hv2 hev hlv B0 z0 x13 x19 h19 hl hn hlen hr hv he hd hbig ha hb hp hpl hs hsl hx hxl hxi hve hvl hvb
  go_enter Try.func6, Try.ntmps6
  go_wp2_with fail
  rw [← hW0.out]
  refine (sane_any W0).mono ?_
  rintro e w1 ⟨rfl, bb1⟩
  have B1 := Lib.hid bb1
  clear bb1
  go_upto_region 3 with (fail)
  refine Rel.b_region w1 [some (.int .i64 n), some vl, some (.bool wide), none, some (.agg #[.slice r1 R1 r2, .slice r3 R2 r4, .slice r5 R3 r6]), none, none, some (.int .i64 2), some (.int .i64 0)]
    (fun i v W => match i with
      | 3 => ∃ x1 x2 y1 y2 z1 z2, ∃ m1 m2 m3 : Nat, v = .agg #[.slice x1 m1 x2, .slice y1 m2 y2, .slice z1 m3 z2] ∧ GV W (.agg #[.slice x1 m1 x2, .slice y1 m2 y2, .slice z1 m3 z2]) G
      | 5 => v = .agg #[.slice r1 k1 r2, .slice r3 k2 r4, .slice r5 k3 r6]
      | 6 => ∃ gb x1 x2 y1 y2 z1 z2, ∃ m1 m2 m3 : Nat, v = .slice (some ⟨gb, 0, none⟩) 2 2 ∧ W.heap[gb]? = some (.cells #[.slice x1 m1 x2, .slice y1 m2 y2, .slice z1 m3 z2, .slice r1 k1 r2, .slice r3 k2 r4, .slice r5 k3 r6] 28 (0, 0)) ∧ GV W (.agg #[.slice x1 m1 x2, .slice y1 m2 y2, .slice z1 m3 z2]) G
      | _ => True)
    (fun _ _ => True) 999 (by kernel_rfl) (by kernel_rfl) rfl (fun i v W W' h Bl => by
      split at h
      · obtain ⟨x1, x2, y1, y2, z1, z2, m1, m2, m3, h1, h2⟩ := h; exact ⟨x1, x2, y1, y2, z1, z2, m1, m2, m3, h1, h2.below Bl⟩
      · exact h
      · obtain ⟨gb, x1, x2, y1, y2, z1, z2, m1, m2, m3, h1, h2, h3⟩ := h; exact ⟨gb, x1, x2, y1, y2, z1, z2, m1, m2, m3, h1, (Bl.block gb (Array.getElem?_eq_some_iff.1 h2).1).trans h2, h3.below Bl⟩
      · exact trivial) (fun _ _ _ _ h => h) ((Below.refl _ w1).drew) (fun vals hO => ?_)
  refine Rel.b_pure (.int .i64 n) rfl (by decide) (hO 0 _ rfl) (by rfl) (fun w hC hd => ?_) ?_
  · clear hd hO; go_simp
  try simp only [Act.put, zT, z0, zS]
  refine Rel.b_pure (vl) rfl (by decide) (hO 1 _ rfl) (by rfl) (fun w hC hd => ?_) ?_
  · clear hd hO; go_simp
  try simp only [Act.put, zT, z0, zS]
  refine Rel.b_pure (.bool wide) rfl (by decide) (hO 2 _ rfl) (by rfl) (fun w hC hd => ?_) ?_
  · clear hd hO; go_simp
  try simp only [Act.put, zT, z0, zS]
  refine Rel.b_rel rfl (by decide) (by rfl) (fun w hC hd => ?_) ?_
  · refine post_call Try.f8 rfl Try.func8 (by kernel_rfl) (by kernel_rfl) #[.int .i64 n, vl, .bool wide] (by simp [Act.eval]) ((cMd.out w (B1.out.trans (hC.mono B1.out.size))).mono ?_)
    rintro e w2 ⟨x1, x2, y1, y2, z1, z2, m1, m2, m3, rfl, h1, bx⟩
    exact ⟨_, rfl, bx, x1, x2, y1, y2, z1, z2, m1, m2, m3, rfl, h1⟩
  try simp only [Act.put, zT, z0, zS]
  refine Rel.b_pure (.agg #[.slice r1 R1 r2, .slice r3 R2 r4, .slice r5 R3 r6]) rfl (by decide) (hO 4 _ rfl) (by rfl) (fun w hC hd => ?_) ?_
  · obtain ⟨y0, y1, y2⟩ := h13.out w (B1.out.trans (hC.mono B1.out.size)); clear hd hO; go_simp
  try simp only [Act.put, zT, z0, zS]
  refine Rel.b_rel rfl (by decide) (by rfl) (fun w hC hd => ?_) ?_
  · refine post_call Try.f21 rfl Try.func21 (by kernel_rfl) (by kernel_rfl) #[.agg #[.slice r1 R1 r2, .slice r3 R2 r4, .slice r5 R3 r6]] (by simp [Act.eval]) ((cFw.out w).mono ?_)
    rintro e w2 ⟨rfl, bx⟩
    exact ⟨_, rfl, bx, rfl⟩
  try simp only [Act.put, zT, z0, zS]
  refine Rel.b_rel rfl (by decide) (by rfl) (fun w hC hd => ?_) ?_
  · obtain ⟨x1, x2, y1, y2, z1, z2, m1, m2, m3, h1, h2⟩ : ∃ x1 x2 y1 y2 z1 z2, ∃ m1 m2 m3 : Nat, vals 3 = .agg #[.slice x1 m1 x2, .slice y1 m2 y2, .slice z1 m3 z2] ∧ GV w (.agg #[.slice x1 m1 x2, .slice y1 m2 y2, .slice z1 m3 z2]) G := hd 3 (by decide)
    have h5 : vals 5 = .agg #[.slice r1 k1 r2, .slice r3 k2 r4, .slice r5 k3 r6] := hd 5 (by decide)
    have ba : Below w.heap.size w (w.alloc (.cells #[.slice x1 m1 x2, .slice y1 m2 y2, .slice z1 m3 z2, .slice r1 k1 r2, .slice r3 k2 r4, .slice r5 k3 r6] 28)) := (Below.refl _ w).alloc (Nat.le_refl _) _
    refine post_value (.slice (some ⟨w.heap.size, 0, none⟩) 2 2) (w.alloc (.cells #[.slice x1 m1 x2, .slice y1 m2 y2, .slice z1 m3 z2, .slice r1 k1 r2, .slice r3 k2 r4, .slice r5 k3 r6] 28)) ?_ ⟨ba, w.heap.size, x1, x2, y1, y2, z1, z2, m1, m2, m3, rfl, heap_alloc_new w _, h2.below ba⟩
    rw [h1, h5]
    clear hd hO hC ba h1 h2 h5; go_simp
  try simp only [Act.put, zT, z0, zS]
  refine Rel.b_pure (.int .i64 2) rfl (by decide) (hO 7 _ rfl) (by rfl) (fun w hC hd => ?_) ?_
  · obtain ⟨gb, _, _, _, _, _, _, _, _, _, h6, _⟩ : ∃ gb x1 x2 y1 y2 z1 z2, ∃ m1 m2 m3 : Nat, vals 6 = .slice (some ⟨gb, 0, none⟩) 2 2 ∧ _ := hd 6 (by decide)
    rw [h6]
    clear hd hO h6; go_simp
  try simp only [Act.put, zT, z0, zS]
  refine Rel.b_pure (.int .i64 0) rfl (by decide) (hO 8 _ rfl) (by rfl) (fun w hC hd => ?_) ?_
  · clear hd hO; go_simp
  try simp only [Act.put, zT, z0, zS]
  refine Rel.b_end ?_
  intro w2 hF
  rw [if_neg (by simp)] at hF
  obtain ⟨hB, hF⟩ := hF
  obtain ⟨gb, x1, x2, y1, y2, z1, z2, m1, m2, m3, h6, hrow, hgG⟩ : ∃ gb x1 x2 y1 y2 z1 z2, ∃ m1 m2 m3 : Nat, vals (0 + 1 + 1 + 1 + 1 + 1 + 1) = .slice (some ⟨gb, 0, none⟩) 2 2 ∧ w2.heap[gb]? = some (.cells #[.slice x1 m1 x2, .slice y1 m2 y2, .slice z1 m3 z2, .slice r1 k1 r2, .slice r3 k2 r4, .slice r5 k3 r6] 28 (0, 0)) ∧ GV w2 (.agg #[.slice x1 m1 x2, .slice y1 m2 y2, .slice z1 m3 z2]) G := hF 6 (by decide)
  rw [h6]
  have B2 := Lib.hid (B1.out.trans (hB.mono B1.out.size))
  have hsel : Hid (∀ k, k < 2 → ∃ (C : Gr) (a1 a3 a5 : Option Addr) (e1 a2 e2 a4 e3 a6 : Nat), (∀ W, Below w2.heap.size w2 W → (W.cell? ⟨gb, k * 3, none⟩ = some (.slice a1 e1 a2) ∧ W.cell? ⟨gb, k * 3 + 1, none⟩ = some (.slice a3 e2 a4) ∧ W.cell? ⟨gb, k * 3 + 2, none⟩ = some (.slice a5 e3 a6)) ∧ GV W (.agg #[.slice a1 e1 a2, .slice a3 e2 a4, .slice a5 e3 a6]) C) ∧ FewF C) := fun k hk => by
    have hrw := fun W (BB : Below w2.heap.size w2 W) => (BB.block gb (Array.getElem?_eq_some_iff.1 hrow).1).trans hrow
    rcases (by omega : k = 0 ∨ k = 1) with rfl | rfl
    · exact ⟨G, _, _, _, _, _, _, _, _, _, fun W BB => ⟨⟨by rw [cell_of_row W gb _ _ _ _ (hrw W BB)]; rfl, by rw [cell_of_row W gb _ _ _ _ (hrw W BB)]; rfl, by rw [cell_of_row W gb _ _ _ _ (hrw W BB)]; rfl⟩, hgG.below BB⟩, hFGH.out⟩
    · exact ⟨CF, _, _, _, _, _, _, _, _, _, fun W BB => ⟨⟨by rw [cell_of_row W gb _ _ _ _ (hrw W BB)]; rfl, by rw [cell_of_row W gb _ _ _ _ (hrw W BB)]; rfl, by rw [cell_of_row W gb _ _ _ _ (hrw W BB)]; rfl⟩, hgf0.out W (B2.out.trans (BB.mono B2.out.size))⟩, hFfH.out⟩
  clear hB hF hO h6 hrow hgG cMd cFw h13
  go_wp2_with fail
  go_loopg [57] 2 (fun n iv wr => ∃ k : Nat, k + n = 2 ∧ iv = .int .i64 k ∧ Below w2.heap.size w2 wr)
  case atStart => exact ⟨0, rfl, rfl, Below.refl _ _⟩
  case round =>
    obtain ⟨k, hk, rfl, hb⟩ := hrel
    obtain ⟨wo, rfl⟩ : ∃ x, x = wr := ⟨_, rfl⟩
    cases gk with
    | zero =>
      have i1 : ¬ (k : Int) < 2 := by omega
      have hend := Lib.hid (up0.out wo (B2.out.trans (hb.mono B2.out.size)))
      clear hk hb hsel
      go_wp2_with fail
      go_ret
      exact ⟨rfl, hend.out⟩
    | succ ga =>
      have i0 : (0 : Int) ≤ (k : Int) := by omega
      have i1 : (k : Int) < 2 := by omega
      have hle : Hid (k + 1 + ga = 2) := by show _ = _; omega
      obtain ⟨C, a1, a3, a5, e1, a2, e2, a4, e3, a6, hat, hF⟩ := hsel.out k (by omega)
      have hCC := hat wo hb
      obtain ⟨u0, u1, u2⟩ := hCC.1
      obtain ⟨w3, hw3⟩ : ∃ W, W = wo.alloc (.cells #[.slice a1 e1 a2, .slice a3 e2 a4, .slice a5 e3 a6] 28) := ⟨_, rfl⟩
      obtain ⟨p22, hp22⟩ : ∃ p, Hid (p = wo.heap.size) := ⟨_, rfl⟩
      have hA3 : Below wo.heap.size wo w3 := by rw [hw3]; exact (Below.refl _ wo).alloc (Nat.le_refl _) _
      have hx3 : w3.heap[p22]? = some (.cells #[.slice a1 e1 a2, .slice a3 e2 a4, .slice a5 e3 a6] 28 (0, 0)) := by rw [hw3, hp22.out]; exact heap_alloc_new wo _
      have hg3 := hCC.2.below hA3
      have hB3 := Lib.hid (hb.trans (hA3.mono hb.size))
      have hg := Lib.hid (fun W (BB : Below w3.heap.size w3 W) => (show (W.cell? ⟨p22, 0, none⟩ = some (.slice a1 e1 a2) ∧ W.cell? ⟨p22, 1, none⟩ = some (.slice a3 e2 a4) ∧ W.cell? ⟨p22, 2, none⟩ = some (.slice a5 e3 a6)) ∧ GV W (.agg #[.slice a1 e1 a2, .slice a3 e2 a4, .slice a5 e3 a6]) C from ⟨box3g ((BB.block p22 (Array.getElem?_eq_some_iff.1 hx3).1).trans hx3), hg3.below BB⟩))
      have cLa := Lib.hid (fun W (BB : Below w3.heap.size w3 W) => Labels_any _ C W (hg.out W BB).2 hF.small)
      have cLr := Lib.hid (fun W (BB : Below w3.heap.size w3 W) => LabelsR_any _ C W (hg.out W BB).2 hF.small)
      have hLb := Lib.hid (lab_bd C)
      obtain ⟨LC, hLC⟩ : ∃ x, x = labelsC C := ⟨_, rfl⟩
      rw [← hLC] at cLa cLr hLb
      obtain ⟨LL, ee⟩ := LC
      have n1 : (ee != ee) = false := by simp
      replace hw3 := Lib.hid hw3
      replace hF := Lib.hid hF
      clear hat hCC hA3 hx3 hg3 hLC hk hb hsel
      go_upto_region 6 with (fail)
      rw [← hw3.out, ← hp22.out]
      clear u0 u1 u2 hw3 hp22
      obtain ⟨y0, y1, y2⟩ := (hg.out w3 (Below.refl _ _)).1
      go_wp2_with fail
      refine (cLa.out w3 (Below.refl _ _)).mono ?_
      rintro e w4 ⟨r1', rfl, o1, b4⟩
      have K4 := Lib.hid b4
      clear b4 y0 y1 y2
      obtain ⟨y0, y1, y2⟩ := (hg.out w4 K4.out).1
      go_wp2_with fail
      refine (cLr.out w4 K4.out).mono ?_
      rintro e w5 ⟨r2', rfl, o2, b5⟩
      have K5 := Lib.hid (K4.out.trans (b5.mono K4.out.size))
      have N1 := (o1.below b5).NL
      have N2 := o2.NL
      have cSm := Lib.hid (SameLabels_any r1' r2' LL LL w5 N1 N2 (by have := hLb.out.2; omega) (fun x h => by have := (hLb.out.1 x h).1; omega) (fun x h => by have := (hLb.out.1 x h).1; omega))
      rw [decide_eq_true rfl] at cSm
      obtain ⟨f1, c1', rfl⟩ := N1.shape
      obtain ⟨la, lc, rfl⟩ := N2.shape
      have hN2 := Lib.hid N2
      clear b5 y0 y1 y2 o1 o2 N1 N2 cLa cLr
      go_upto_region 8 with (fail)
      rename_i Ka hKa Kb hKb
      replace hKa := Lib.hid hKa
      go_wp2_with fail
      refine cSm.out.mono ?_
      rintro e w6 ⟨rfl, b6⟩
      have K6 := Lib.hid (K5.out.trans (b6.mono K5.out.size))
      have hN6 := Lib.hid (hN2.out.below b6)
      have L6 := Lib.hid (B2.out.trans ((hB3.out.trans (K6.out.mono hB3.out.size)).mono B2.out.size))
      clear b6 hN2 cSm
      go_wp2_with fail
      refine hKa.out _ _ ?_
      refine wp_eq (D := gB 4) (by kernel_rfl) (wp_Qn ?_)
      refine fm_pairs _ _ _ _ _ _ _ _ _ _ _ _ _ _ _ _ _ _ _ _ _ _ _ _ _ _ _ _ _ _ _ _ _ _ _ _ _ _ _ _ _ _ _ _ _ _ _ _ _ _ _ _ _ _ _ _ _ _ _ _ _ _ _ _ _ _ _ _ _ _ _ _ _ _ _ _ _ _ _ _ _ _ _ _ _ _ _ _ _ _ _ _ _ _ _ _ _ _ _ _ _ _ _ _ _ _ _ _ _ _ _ _ _ _ _ _ _ _ _ _ _ _ _ _ _ _ _ _ _ _ _ _ _ _ _ _ _ _ _ _ _ _ _ _ _ _ _ _ _ _ _ _ _ _ _ _ _ _ _ _ _ _ _ _ _ _ _ _ _ _ _ _ _ _ _ _ _ _ _ _ _ _ _ _ _ _ _ _ _ _ _ _ _ _ _ _ _ _ _ _ _ _ _ _ _ _ _ _ _ _ _ _ _ _ _ _ _ _ _ _ _ _ _ _ _ _ _ _ _ _ _ _ _ _ _ _ _ _ _ _ _ _ _ _ _ _ _ _ _ _ _ _ _ _ _ _ _ _ w6 a b p22 (w.heap.size + 1) C a1 a3 a5 e1 a2 e2 a4 e3 a6 la LL.length lc LL xv xs n0 sd0 d1 v1 l1 d2 d3 EV v2 LV l2 es0 L0 hF (Lib.hid fun W BB => hg.out W (K6.out.trans (BB.mono K6.out.size))) (Lib.hid fun W BB => hN6.out.below BB) hLb (Lib.hid fun W BB => hxA.out W (L6.out.trans (BB.mono L6.out.size))) hxB haB (Lib.hid fun W BB => hvA.out W (L6.out.trans (BB.mono L6.out.size))) hvB s1 t1 SN s2 PN t2 side path hbB (Lib.hid fun W BB => hsA.out W (L6.out.trans (BB.mono L6.out.size))) (Lib.hid fun W BB => htA.out W (L6.out.trans (BB.mono L6.out.size))) (fun _ _ _ _ _ _ _ _ _ _ _ _ _ _ _ _ _ _ _ _ _ _ _ _ _ _ _ _ _ _ _ _ _ _ _ _ _ _ _ _ _ _ _ _ _ _ _ _ _ _ _ _ _ _ _ _ _ _ _ _ _ _ _ _ _ _ _ _ _ _ _ _ _ _ _ _ _ _ _ _ _ _ _ _ _ _ _ _ _ _ _ _ _ _ _ _ _ _ _ _ _ _ _ _ _ _ _ _ _ _ _ _ _ _ _ _ _ _ _ _ _ _ _ _ _ _ _ _ _ _ _ _ _ _ _ _ _ _ _ _ _ _ _ _ _ _ _ _ _ _ _ _ _ _ _ _ _ _ _ _ _ _ _ _ _ _ _ _ _ _ _ _ _ _ _ _ _ _ _ _ _ _ _ _ _ _ _ _ _ _ _ _ _ _ _ _ _ _ _ _ _ W BB => ?_)
      have hend := Lib.hid (hB3.out.trans ((K6.out.trans (BB.mono K6.out.size)).mono hB3.out.size))
      show Exit.inBlock _ _ _ _ _
      dsimp only [Exit.inBlock, Exit.then]
      clear hg hLb hKa BB
      go_wp2_with fail
      go_roundg ga
      case measure => omega
      case rel => exact ⟨k + 1, hle.out, by go_num, hend.out⟩

end Go.Proofs.Ytlnbobclbaieoaa
