/- Contracts and facts. -/
import Derived.Deep.LoopGhost
import Derived.Handy
import Derived.WalkMore
import Derived.BigRegion
import Derived.Laws.EntriesVeiled
import Derived.Test.YthmkmjkbfjhffaaVMD
import Derived.Test.YthmkmjkbfjhffaaVLP
import Derived.Test.YthmkmjkbfjhffaaVGC
import Derived.Test.YthmkmjkbfjhffaaVGE
import Derived.Test.YthmkmjkbfjhffaaVHE
import Derived.Test.YthmkmjkbfjhffaaVHA
set_option linter.unusedSimpArgs false
set_option maxRecDepth 100000
set_option maxHeartbeats 4000000
namespace Go.Proofs.Ythmkmjkbfjhffaa
open Go.RowKit


namespace Rel
theorem c_regionH {P : Program} (H : Nat → Value → Prop) (d : Nat → Value) (hdH : ∀ i, H i (d i)) (late : Nat → Bool) (w0 : World) (pv : List (Option Value)) (G : Nat → Value → World → Prop) (Fin : Nat → (Nat → Value) → World → Prop) (z : Nat) {id : Nat} {Q : Exit → Act → World → Prop} {a : Act} {w : World} {l : List Oper} (hm : P.follows .mixedOrders = true) (hok : okC late .any l.toArray z = true) (hlp : ∀ i, late i = true → (pv.getD i none).isSome = true) (hpz : ∀ j, z ≤ j → pv.getD j none = none) (hzl : z < l.length)
    (hG : ∀ i v w w', G i v w → Below w.heap.size w w' → G i v w') (hGH : ∀ i v w, G i v w → H i v) (hC : Below w0.heap.size w0 w.drew)
    (h : ∀ vals, (∀ i V, pv.getD i none = some V → vals i = V) → (∀ i, i < z → pv.getD i none = none → H i (vals i)) → WalkC late P l.toArray w0 pv G Fin z vals (fun a' => ∀ w', Fin (l.length - 1) vals w' → Q .normal a' w') 0 l a) :
    (Code.region id l.toArray true).wp P Q a w := by
  have hK : ∀ i v w w', Known pv G i v w → Below w.heap.size w w' → Known pv G i v w' := fun i v w w' hk hb => by
    unfold Known at hk ⊢
    split
    · rename_i e; rw [e] at hk; exact hk
    · rename_i e; rw [e] at hk; exact hG _ _ _ _ hk hb
  refine wp_region_any hm ?_
  refine inv_wpT (md := .any) (C := fun w => Below w0.heap.size w0 w) (Le := fun w w' => Below w.heap.size w w') (G := Known pv G) (Fin := Fin) (z := z) (P := P) (ops := l.toArray) hok hK a (Q := Q) (fun vals => (∀ i V, pv.getD i none = some V → vals i = V) ∧ ∀ i, i < z → pv.getD i none = none → H i (vals i)) (fun vals j v w hO hk => ⟨fun i V hi => ?_, fun i hz hi => ?_⟩) (fun vals i w hO hl => ?_) (fun vals j o hO hj => ?_) (fun vals w' hO hw' => ?_) _ [] (fun i => (pv.getD i none).getD (d i)) _ _ _ (by simp) ⟨fun i V hi => by rw [hi]; rfl, fun i _ hi => by rw [hi]; exact hdH i⟩ ⟨List.nodup_nil, fun i hi => (nomatch hi), fun i hi => ?_, (by simp), rfl, fun j hj => (nomatch hj), fun j hj => (nomatch hj), .inl ⟨fun i hi => (nomatch hi), hC, fun i hi => (nomatch hi)⟩⟩
  · by_cases e : i = j
    · subst e
      have hz : i < z := by
        apply Classical.byContradiction; intro hn
        rw [hpz i (by omega)] at hi; cases hi
      have h1 := hk hz; unfold Known at h1; rw [hi] at h1; simpa [upd] using h1
    · simp only [upd, e, if_false]; exact hO.1 i V hi
  · by_cases e : i = j
    · subst e
      have h1 := hk hz; unfold Known at h1; rw [hi] at h1
      have := hGH _ _ _ h1
      simpa [upd] using this
    · simp only [upd, e, if_false]; exact hO.2 i hz hi
  · have h1 := hlp i hl
    obtain ⟨V, hV⟩ := Option.isSome_iff_exists.1 h1
    unfold Known; rw [hV]; exact hO.1 i V hV
  · exact (walkT_step a l 0 a (fun j => by simp) rfl (h vals hO.1 hO.2).out).1 j o (Nat.zero_le _) hj
  · have h1 := (walkT_step a l 0 a (fun j => by simp) rfl (h vals hO.1 hO.2).out).2
    simp only [Nat.zero_add] at h1
    have h2 := h1 w' (by simpa [hzl] using hw'); simpa using h2
  · have : i < l.length := by simpa using hi
    simp [Array.getD, this]
end Rel
def goodV (g : Gr) (L : List Nm) (n : Int) : Bool := vwOk g L n && goodF n (atF g.es n) (readF L)
def VA (B : Nat) (ok : Bool) (n : Int) (es : List Ed) (L : List Nm) (W : World) (v : Value) : Prop :=
  ∃ (c0 c1 : Int) (d1 : Option Addr) (d2 d3 : Nat) (e1 : Option Addr) (e2 e3 : Nat) (l1 : Option Addr) (l2 l3 : Nat), v = .agg #[.int .i64 c0, .int .i64 c1, .slice d1 d2 d3, .slice e1 e2 e3, .slice l1 l2 l3] ∧ (ok = true → c0 = n ∧ OwnEd W B (.slice e1 e2 e3) es ∧ OwnN W B (.slice l1 l2 l3) L)
theorem VA.below {B : Nat} {ok : Bool} {n : Int} {es : List Ed} {L : List Nm} {W W' : World} {v : Value} (h : VA B ok n es L W v) (Bl : Below W.heap.size W W') : VA B ok n es L W' v := by
  obtain ⟨c0, c1, d1, d2, d3, e1, e2, e3, l1, l2, l3, h1, h2⟩ := h
  exact ⟨c0, c1, d1, d2, d3, e1, e2, e3, l1, l2, l3, h1, fun h => ⟨(h2 h).1, own_below (h2 h).2.1 Bl, (h2 h).2.2.below Bl⟩⟩
def VG (B : Nat) (ok : Bool) (n : Int) (es : List Ed) (L : List Nm) (W : World) (v : Value) : Prop := ∃ a, v = .tuple #[a, .int .i64 (if ok = true then 0 else 60)] ∧ VA B ok n es L W a
theorem vtx_id {g : Gr} {n : Int} (h : n ∈ keysV g.vs) : (vtxF g.vs n).id = n := by
  obtain ⟨u, hu, he⟩ := mem_keysV.1 h
  unfold vtxF
  cases hf : g.vs.find? (fun v => v.id == n) with
  | none =>
    have := List.find?_eq_none.1 hf u hu
    simp [he] at this
  | some x =>
    have := List.find?_some hf
    simpa using this
theorem OwnN.low {W : World} {b b' : Nat} {v : Value} {L : List Nm} (h : OwnN W b v L) (hb : b' ≤ b) : OwnN W b' v L := by
  obtain ⟨vs, h⟩ := h
  exact ⟨vs, h.len, own_low h.row hb, fun j x u p q => own_low (h.lab j x u p q) hb, h.ap⟩
theorem VwR.g {B : Nat} {w w' : World} {g : Gr} {L : List Nm} {n : Int} {e : Ending} (h : VwR w g L n e w') (hB : B ≤ w.heap.size) : ∃ v, e = .returned v ∧ VG B (vwOk g L n) n (atF g.es n) (L.filter (keepV n (atF g.es n))) w' v ∧ Below w.heap.size w w' := by
  unfold VwR at h
  by_cases ok : vwOk g L n = true
  · rw [if_pos ok] at h
    obtain ⟨dv, ev, lb, rfl, h1, h2, h3, h4⟩ := h
    obtain ⟨d1, d2, rfl⟩ := h1.DL.shape
    have hE := h2.EL
    have hL := h3.NL
    obtain ⟨e1, e2, rfl⟩ := hE.shape
    obtain ⟨l1, l2, rfl⟩ := hL.shape
    have hm : n ∈ keysV g.vs := by
      unfold vwOk at ok
      rw [Bool.and_eq_true, decide_eq_true_iff] at ok
      exact ok.1
    exact ⟨_, rfl, ⟨_, by rw [if_pos ok], _, _, _, _, _, _, _, _, _, _, _, rfl, fun _ => ⟨vtx_id hm, own_mono h2 hB, h3.low hB⟩⟩, h4⟩
  · rw [if_neg ok] at h
    obtain ⟨rfl, h4⟩ := h
    exact ⟨_, rfl, ⟨_, by rw [if_neg ok], _, _, _, _, _, _, _, _, _, _, _, rfl, fun h => absurd h ok⟩, h4⟩
theorem readF_depth {b : Int} {L : List Nm} (h : Bd b L) (hb : 0 ≤ b) (k : Int) : (gp (readF L) k).depth ≤ b := by
  unfold gp
  rw [readF_find]
  split
  · rename_i x hf
    split
    · rename_i h3
      have := h x (List.mem_of_find?_eq_some hf)
      simp only [Option.getD_some]
      have h1 : 1 < x.2.length := by omega
      have := this.2 x.2[1] (List.getElem_mem h1)
      simp [List.getElem?_eq_getElem h1]
      omega
    · exact hb
  · exact hb
set_option maxRecDepth 1000000 in
set_option maxHeartbeats 8000000 in
theorem good_any (v lv : Value) (g : Gr) (L : List Nm) (w : World) (hv : GV w v g) (hL : NL w lv L) (hV : g.vs.length ≤ 1000000) (hE : g.es.length ≤ 1000000) (hD : g.ds.length ≤ 1000000) (hLn : L.length ≤ 1000000) (hbd : Bd 2000000 L) (hvi : ∀ n ∈ keysV g.vs, i64B n) (hei : ∀ e ∈ g.es, i64B e.src ∧ i64B e.dst) :
    Calls Try.prog 21 #[v, lv] w fun e w' => e = .returned (.bool ((keysV g.vs).all (goodV g L))) ∧ Below w.heap.size w w' := by
  obtain ⟨R, hR⟩ : ∃ R, Hid ((keysV g.vs).all (goodV g L) = R) := ⟨_, rfl⟩
  rw [hR.out]
  obtain ⟨a1, a2, b1, b2, c1v, c2, rfl, hv1, hv2, hv3⟩ := gv_shape hv
  obtain ⟨la, lc, rfl⟩ := hL.shape
  obtain ⟨w1, hw1⟩ : ∃ w1, w1 = w.alloc (.cells #[.slice a1 g.vs.length a2, .slice b1 g.es.length b2, .slice c1v g.ds.length c2] 28) := ⟨_, rfl⟩
  have B0 : Below w.heap.size w w1 := by rw [hw1]; exact (Below.refl _ w).alloc (Nat.le_refl _) _
  have gb : w1.heap[w.heap.size]? = some (.cells #[.slice a1 g.vs.length a2, .slice b1 g.es.length b2, .slice c1v g.ds.length c2] 28 (0, 0)) := by rw [hw1]; exact heap_alloc_new w _
  have hG := Lib.hid (fun W (q : Below w1.heap.size w1 W) => box3g ((q.block _ (Array.getElem?_eq_some_iff.1 gb).1).trans gb))
  have hB0 := Lib.hid (fun W (q : Below w1.heap.size w1 W) => B0.trans (q.mono B0.size))
  have hVw := Lib.hid (fun W (q : Below w1.heap.size w1 W) n (hn : n ∈ keysV g.vs) => PageView_any _ _ g L n W ((hv.below B0).below q) ((hL.below B0).below q) hV hE hD hLn (fun x hx => Nat.le_trans (hbd x hx).1 (by omega)) (hvi n hn) hei)
  have cellV := Lib.hid (hv1.below B0).cells
  have hGd := Lib.hid (fun n sd dv ev lw W (q1 : EL W ev (atF g.es n)) (q2 : NL W lw (L.filter (keepV n (atF g.es n)))) => (show Calls Try.prog 26 #[.agg #[.int .i64 n, .int .i64 sd, dv, ev, lw]] W fun e w' => e = .returned (.bool (goodF n (atF g.es n) (readF L))) ∧ Below W.heap.size W w' from by
    have := Good_any read_any n sd dv ev lw (atF g.es n) _ W q1 q2 (Nat.le_trans (List.length_filter_le _ _) (Nat.le_trans hE (by omega))) (Nat.le_trans (List.length_filter_le _ _) hLn) (Int.le_trans (readF_depth (b := 2000000) (fun x hx => hbd x (List.mem_filter.1 hx).1) (by omega) n) (by omega))
    rw [good_view] at this
    exact this))
  obtain ⟨N, hN⟩ : ∃ N, Hid (N = g.vs.length) := ⟨_, rfl⟩
  have hKl : Hid (N = (keysV g.vs).length) := by show _ = _; unfold keysV; rw [List.length_map]; exact hN.out
  rw [← hN.out] at hG hw1 hV hVw
  rw [← hN.out]
  replace hw1 := Lib.hid hw1
  clear gb B0 hv hL hv1 hv2 hv3 hbd hvi hei hE hD
  obtain ⟨g0, g1, g2⟩ := hG.out w1 (Below.refl _ _)
  go_enter Try.func21, Try.ntmps21
  go_upto_region 1 with (fail)
  rw [← hw1.out]
  go_wp2_with fail
  go_loopg [5] N (fun q iv wr => ∃ k : Nat, k + q = N ∧ iv = .int .i64 k ∧ Hid (((keysV g.vs).drop k).all (goodV g L) = R) ∧ Below w1.heap.size w1 wr)
  case atStart => exact ⟨0, by omega, rfl, hR, Below.refl _ _⟩
  case round =>
  obtain ⟨k, hk, rfl, hr, B⟩ := hrel
  obtain ⟨wo, rfl⟩ : ∃ x, x = wr := ⟨_, rfl⟩
  clear g0 g1 g2
  have hB := Lib.hid B
  obtain ⟨g0, g1, g2⟩ := hG.out wo B
  cases gk with
  | zero =>
    have hk2 : k = N := by omega
    have i1 : ¬ (k : Int) < (N : Int) := by omega
    have hfin : Hid (R = true) := by
      show _ = _
      rw [← hr.out, List.drop_of_length_le (by rw [hk2, hKl.out]; exact Nat.le_refl _)]; rfl
    clear hk2 hr hk B
    go_wp2_with fail
    go_ret
    exact ⟨ret_bool hfin.out.symm, hB0.out wo hB.out⟩
  | succ ga =>
    have hkl : k < (keysV g.vs).length := by have := hKl.out; omega
    have hkv : k < g.vs.length := by have := hN.out; omega
    obtain ⟨bv, ov, rfl, cv⟩ := cellV.out k hkv
    obtain ⟨y0, y1⟩ := cv wo B
    have i0 : (0 : Int) ≤ (k : Int) := by omega
    have i1 : (k : Int) < (N : Int) := by have := hN.out; omega
    have hle : Hid (k + 1 + ga = N) := by show _ = _; omega
    have hr2 := hr.out
    rw [List.drop_eq_getElem_cons hkl, List.all_cons] at hr2
    have hnk : g.vs[k].id = (keysV g.vs)[k] := by simp [keysV]
    have hmem : Hid ((keysV g.vs)[k] ∈ keysV g.vs) := List.getElem_mem hkl
    rw [← hnk] at hr2 hmem
    have hcW := Lib.hid (fun W (q : Below wo.heap.size wo W) => (cv W (hB.out.trans (q.mono hB.out.size))).1)
    generalize g.vs[k].id = n at *
    generalize hdr : (keysV g.vs).drop (k + 1) = LD at *
    obtain ⟨ok, hok⟩ : ∃ x, Hid (x = vwOk g L n) := ⟨_, rfl⟩
    have hst : Hid (((ok && goodF n (atF g.es n) (readF L)) && LD.all (goodV g L)) = R) := by show _ = _; rw [hok.out]; exact hr2
    have hVv := Lib.hid (fun W (q : Below wo.heap.size wo W) => (hVw.out W (hB.out.trans (q.mono hB.out.size)) n hmem.out).mono (fun e w' h => VwR.g (B := wo.heap.size) h q.size))
    rw [← hok.out] at hVv
    have hGdn := Lib.hid (fun W c1 dv ev lw q1 q2 => hGd.out n c1 dv ev lw W q1 q2)
    have hG2 := Lib.hid (fun W (q : Below wo.heap.size wo W) => hG.out W (hB.out.trans (q.mono hB.out.size)))
    replace hdr := Lib.hid hdr
    clear hr hkl hkv cv hr2 hnk y0 y1 hok hmem hk hVw hGd cellV hG B
    generalize L.filter (keepV n (atF g.es n)) = Lf at *
    generalize atF g.es n = es at *
    generalize goodF n es (readF L) = gd at *
    go_upto_region 4 with (fail)
    clear g0 g1 g2
    refine Rel.c_regionH (fun i v => i = 9 → ∃ a, v = .tuple #[a, .int .i64 (if ok = true then 0 else 60)]) (fun _ => .tuple #[.int .i64 0, .int .i64 (if ok = true then 0 else 60)]) (fun _ _ => ⟨_, rfl⟩) (fun i => i == 11) wo [some (.agg #[.slice (some ⟨bv, ov, none⟩) N a2, .slice b1 g.es.length b2, .slice c1v g.ds.length c2]), some (.slice la L.length lc), some (.pointer (some ⟨w.heap.size, 0, none⟩)), some (.slice (some ⟨bv, ov, none⟩) N a2), some (.int .i64 k), some (.pointer (some ⟨bv, ov + k * 2, none⟩)), some (.pointer (some ⟨bv, ov + k * 2, none⟩)), some (.int .i64 n), none, none, none, some (.int .i64 (if ok = true then 0 else 60)), none, none, none]
      (fun i v W => match i with
        | 8 => VG wo.heap.size ok n es Lf W v
        | 9 => VG wo.heap.size ok n es Lf W v
        | 10 => VA wo.heap.size ok n es Lf W v
        | 12 => ∃ p x0 x1 x2 x3 x4, v = .pointer (some ⟨p, 0, none⟩) ∧ W.heap[p]? = some (.cells #[x0, x1, x2, x3, x4] 51 (0, 0)) ∧ wo.heap.size ≤ p
        | _ => True)
      (fun i vals W => (i = 14 → vals 14 = .int .i64 (if ok = true then 0 else 60)) ∧ Below wo.heap.size wo W ∧ ∃ p c0 c1 d1 d2 d3 e1 e2 e3 l1 l2 l3, vals 12 = .pointer (some ⟨p, 0, none⟩) ∧ W.heap[p]? = some (.cells #[.int .i64 c0, .int .i64 c1, .slice d1 d2 d3, .slice e1 e2 e3, .slice l1 l2 l3] 51 (0, 0)) ∧ (ok = true → c0 = n ∧ OwnEd W wo.heap.size (.slice e1 e2 e3) es ∧ OwnN W wo.heap.size (.slice l1 l2 l3) Lf)) 13 (by kernel_rfl) (by kernel_rfl) (fun i hi => by simp at hi; subst hi; rfl)
      (fun j hj => by simp only [List.getD_eq_getElem?_getD]; rcases Nat.lt_or_ge j 15 with h | h; (obtain rfl | rfl : j = 13 ∨ j = 14 := by omega); rfl; rfl; rw [List.getElem?_eq_none (by simp; omega)]; rfl) (by decide) (fun i v W W' h Bl => by
        split at h
        · obtain ⟨a, h1, h2⟩ := h; exact ⟨a, h1, h2.below Bl⟩
        · obtain ⟨a, h1, h2⟩ := h; exact ⟨a, h1, h2.below Bl⟩
        · exact VA.below h Bl
        · obtain ⟨p, x0, x1, x2, x3, x4, h1, h2, h3⟩ := h; exact ⟨p, x0, x1, x2, x3, x4, h1, (Bl.block _ (Array.getElem?_eq_some_iff.1 h2).1).trans h2, h3⟩
        · exact trivial) (fun i v W h hi => by subst hi; obtain ⟨a, h1, _⟩ := (show VG wo.heap.size ok n es Lf W v from h); exact ⟨a, h1⟩) ((Below.refl _ wo).drew) (fun vals hO hH => ?_)
    refine Rel.c_pure rfl (.agg #[.slice (some ⟨bv, ov, none⟩) N a2, .slice b1 g.es.length b2, .slice c1v g.ds.length c2]) rfl (by decide) (hO 0 _ rfl) (by rfl) (fun w hC hd => ?_) ?_
    · obtain ⟨y0, y1, y2⟩ := hG2.out w hC; clear hd hO; go_simp
    try simp only [Act.put, zT, z0, zS]
    refine Rel.c_pure rfl (.slice la L.length lc) rfl (by decide) (hO 1 _ rfl) (by rfl) (fun w hC hd => ?_) ?_
    · clear hd hO; go_simp
    try simp only [Act.put, zT, z0, zS]
    refine Rel.c_pure rfl (.pointer (some ⟨w.heap.size, 0, none⟩)) rfl (by decide) (hO 2 _ rfl) (by rfl) (fun w hC hd => ?_) ?_
    · clear hd hO; go_simp
    try simp only [Act.put, zT, z0, zS]
    refine Rel.c_pure rfl (.slice (some ⟨bv, ov, none⟩) N a2) rfl (by decide) (hO 3 _ rfl) (by rfl) (fun w hC hd => ?_) ?_
    · obtain ⟨y0, y1, y2⟩ := hG2.out w hC; clear hd hO; go_simp
    try simp only [Act.put, zT, z0, zS]
    refine Rel.c_pure rfl (.int .i64 k) rfl (by decide) (hO 4 _ rfl) (by rfl) (fun w hC hd => ?_) ?_
    · clear hd hO; go_simp
    try simp only [Act.put, zT, z0, zS]
    refine Rel.c_pure rfl (.pointer (some ⟨bv, ov + k * 2, none⟩)) rfl (by decide) (hO 5 _ rfl) (by rfl) (fun w hC hd => ?_) ?_
    · clear hd hO; go_simp
    try simp only [Act.put, zT, z0, zS]
    refine Rel.c_pure rfl (.pointer (some ⟨bv, ov + k * 2, none⟩)) rfl (by decide) (hO 6 _ rfl) (by rfl) (fun w hC hd => ?_) ?_
    · clear hd hO; go_simp
    try simp only [Act.put, zT, z0, zS]
    refine Rel.c_pure rfl (.int .i64 n) rfl (by decide) (hO 7 _ rfl) (by rfl) (fun w hC hd => ?_) ?_
    · have y0 := hcW.out w hC; clear hd hO; go_simp
    try simp only [Act.put, zT, z0, zS]
    refine Rel.c_rel rfl rfl (by decide) (by rfl) (fun wz hC hd => ?_) ?_
    · refine post_call Try.f43 rfl Try.func43 (by kernel_rfl) (by kernel_rfl) #[.agg #[.slice (some ⟨bv, ov, none⟩) N a2, .slice b1 g.es.length b2, .slice c1v g.ds.length c2], .slice la L.length lc, .int .i64 n] (by simp [Act.eval]) ((hVv.out wz hC).mono ?_)
      rintro e w3 ⟨x, rfl, hx, bx⟩
      exact ⟨x, rfl, bx, hx⟩
    try simp only [Act.put, zT, z0, zS]
    refine Rel.c_rel rfl rfl (by decide) (by rfl) (fun wz hC hd => ?_) ?_
    · have h8 : VG wo.heap.size ok n es Lf wz (vals 8) := hd 8 (by decide)
      refine post_value (vals 8) wz ?_ ⟨Below.refl _ _, h8⟩
      clear hd hO; go_simp
    try simp only [Act.put, zT, z0, zS]
    refine Rel.c_rel rfl rfl (by decide) (by rfl) (fun wz hC hd => ?_) ?_
    · obtain ⟨a, h1, h2⟩ : VG wo.heap.size ok n es Lf wz (vals 9) := hd 9 (by decide)
      refine post_value a wz ?_ ⟨Below.refl _ _, h2⟩
      rw [h1]
      clear hd hO; go_simp
    try simp only [Act.put, zT, z0, zS]
    obtain ⟨a9, h9⟩ := hH 9 (by decide) rfl rfl
    refine Rel.c_late (.int .i64 (if ok = true then 0 else 60)) rfl (by decide) (hO 11 _ rfl) (by rfl) (fun w => ?_) ?_
    · rw [h9]
      clear hO hH; go_simp
    try simp only [Act.put, zT, z0, zS]
    refine Rel.c_rel rfl rfl (by decide) (by rfl) (fun w hC hd => ?_) ?_
    · refine post_value (.pointer (some ⟨w.heap.size, 0, none⟩)) (w.alloc (.cells #[.int .i64 0, .int .i64 0, .slice none 0 0, .slice none 0 0, .slice none 0 0] 51)) ?_ ⟨(Below.refl _ w).alloc (Nat.le_refl _) _, _, _, _, _, _, _, rfl, heap_alloc_new w _, hC.size⟩
      clear hd hO hH; go_simp
    try simp only [Act.put, zT, z0, zS]
    refine Rel.c_tail0 rfl rfl (by rfl) (fun w hC hd => ?_) ?_
    · obtain ⟨p, x0, x1, x2, x3, x4, h1, h2, h3⟩ : ∃ p x0 x1 x2 x3 x4, vals 12 = .pointer (some ⟨p, 0, none⟩) ∧ w.heap[p]? = some (.cells #[x0, x1, x2, x3, x4] 51 (0, 0)) ∧ wo.heap.size ≤ p := hd 12 (by decide)
      obtain ⟨c0, c1, d1, d2, d3, e1, e2, e3, l1, l2, l3, h7, h8⟩ : VA wo.heap.size ok n es Lf w (vals 10) := hd 10 (by decide)
      refine post_store_row 51 _ _ rfl p #[.int .i64 c0, .int .i64 c1, .slice d1 d2 d3, .slice e1 e2 e3, .slice l1 l2 l3] (by simpa [Act.eval] using h1) (by simpa [Act.eval] using h7) 51 _ h2 (info51 _ _ _ _ _) rfl (by simp [Value.oneCell']) ?_
      refine ⟨fun h => absurd h (by decide), below_row hC h3 _, p, c0, c1, d1, d2, d3, e1, e2, e3, l1, l2, l3, by simpa [Rel.upd] using h1, setRow_heap _ _ _ _ _ _ h2, fun h => ?_⟩
      obtain ⟨k0, k1, k2⟩ := h8 h
      have gr := grown_setRow (cs := #[.int .i64 c0, .int .i64 c1, .slice d1 d2 d3, .slice e1 e2 e3, .slice l1 l2 l3]) h2
      refine ⟨k0, own_apartG k1 gr (fun b hb e => ?_), ?_⟩
      · obtain ⟨_, cur, y1⟩ := own_row k1 b hb
        cases e
        exact absurd (two_types y1 h2) (by decide)
      · obtain ⟨vs, k2⟩ := k2
        refine ⟨vs, k2.apart gr (fun x hx cs => ?_)⟩
        cases hx
        exact ⟨fun e => absurd (two_types e h2) (by decide), fun e => absurd (two_types e h2) (by decide)⟩
    try simp only [Act.put, zT, z0, zS]
    refine Rel.c_tail rfl 13 rfl (by decide) (by rfl) (fun w hF => ?_) ?_
    · obtain ⟨_, hF2, hF3⟩ := hF
      refine post_value (.int .i64 (if ok = true then 0 else 60)) w ?_ ⟨fun _ => by simp [Rel.upd], hF2, by simpa [Rel.upd] using hF3⟩
      clear hO hH; go_simp
    try simp only [Act.put, zT, z0, zS]
    refine Rel.c_end ?_
    intro w3 hF
    obtain ⟨h14, hb3, p, c0, c1, d1, d2, d3, e1, e2, e3, l1, l2, l3, h12, hbx, hok3⟩ := hF
    have h14 := h14 rfl
    rw [h12, h14]
    have x0 : w3.cell? ⟨p, 0, none⟩ = some (.int .i64 c0) := by rw [cell_of_row _ _ _ _ _ _ hbx]; rfl
    have x1 : w3.cell? ⟨p, 1, none⟩ = some (.int .i64 c1) := by rw [cell_of_row _ _ _ _ _ _ hbx]; rfl
    have x2 : w3.cell? ⟨p, 2, none⟩ = some (.slice d1 d2 d3) := by rw [cell_of_row _ _ _ _ _ _ hbx]; rfl
    have x3 : w3.cell? ⟨p, 3, none⟩ = some (.slice e1 e2 e3) := by rw [cell_of_row _ _ _ _ _ _ hbx]; rfl
    have x4 : w3.cell? ⟨p, 4, none⟩ = some (.slice l1 l2 l3) := by rw [cell_of_row _ _ _ _ _ _ hbx]; rfl
    have hB3 := Lib.hid (hB.out.trans (hb3.mono hB.out.size))
    have hgo : ok = true → c0 = n ∧ EL w3 (.slice e1 e2 e3) es ∧ NL w3 (.slice l1 l2 l3) Lf := fun h => ⟨(hok3 h).1, (hok3 h).2.1.EL, (hok3 h).2.2.NL⟩
    clear h12 h14 hb3 hbx hok3 hO hH h9 hVv hG2 hcW
    cases ok with
    | false =>
      rw [if_neg (by decide)]
      have hfin : Hid (R = false) := by show _ = _; rw [← hst.out]; rfl
      clear hgo hst hGdn
      go_wp2_with fail
      go_ret
      exact ⟨ret_bool hfin.out.symm, hB0.out _ hB3.out⟩
    | true =>
      rw [if_pos rfl]
      obtain ⟨rfl, q1, q2⟩ := hgo rfl
      have hG0 := hGdn.out w3 c1 (.slice d1 d2 d3) _ _ q1 q2
      clear hgo hGdn q1 q2
      cases gd with
      | false =>
        have hfin : Hid (R = false) := by show _ = _; rw [← hst.out]; rfl
        clear hst
        go_wp2_with (go_at_call 26; refine hG0.mono ?_; clear hG0; rintro e w4 ⟨rfl, q4⟩; have hB4 := Lib.hid (hB3.out.trans (q4.mono hB3.out.size)); clear q4)
        go_ret
        exact ⟨ret_bool hfin.out.symm, hB0.out _ hB4.out⟩
      | true =>
        have hnx : Hid (LD.all (goodV g L) = R) := by show _ = _; rw [← hst.out]; rfl
        clear hst
        go_wp2_with (go_at_call 26; refine hG0.mono ?_; clear hG0; rintro e w4 ⟨rfl, q4⟩; have hB4 := Lib.hid (hB3.out.trans (q4.mono hB3.out.size)); clear q4)
        go_roundg ga
        case measure => omega
        case rel => exact ⟨k + 1, hle.out, by go_num, by rw [hdr.out]; exact hnx, hB4.out⟩

end Go.Proofs.Ythmkmjkbfjhffaa
/- Contracts and facts. -/
set_option linter.unusedSimpArgs false
set_option maxRecDepth 100000
set_option maxHeartbeats 4000000
namespace Go.Proofs.Ythmkmjkbfjhffaa
open Go.RowKit
theorem lab_bd (g : Gr) : Bd 1000000 (labelsC g).1 ∧ (labelsC g).1.length ≤ 24 := by
  unfold labelsC
  split
  · next ho =>
    obtain ⟨G, M, hV, _⟩ := good_of ho
    have hk := ((ok_iff g).1 ho)
    have hv : ∀ x ∈ keysV g.vs, 0 ≤ x ∧ x < 24 := fun x hx => by
      obtain ⟨u, hu, rfl⟩ := mem_keysV.1 hx
      have := Vx.ok_iff u |>.1 (hk.vok u hu); omega
    refine ⟨fun x hx => ?_, by show (labF (mF g) (keysV g.vs)).length ≤ 24; unfold labF; rw [List.length_map]; exact hV⟩
    have hx2 : x ∈ labF (mF g) (keysV g.vs) := hx
    unfold labF at hx2
    obtain ⟨k, hk1, rfl⟩ := List.mem_map.1 hx2
    refine ⟨by simp, fun v hv2 => ?_⟩
    have h1 := M.lo k
    have h2 := M.hi k hk1
    obtain ⟨a1, a2, a3, _⟩ := anc_ok G M hk1 (j := (gp (mF g) k).depth.toNat) (Nat.le_refl _)
    have a4 := (M.rt _ a1 (by omega)).1
    rw [a2] at a4
    have a5 := hv _ a1
    rw [← a4] at a5
    have h3 : -1 ≤ (gp (mF g) k).edge ∧ (gp (mF g) k).edge < 40 := by
      by_cases h0 : (gp (mF g) k).depth = 0
      · have := (M.rt k hk1 h0).2; omega
      · obtain ⟨e, e1, e2, _⟩ := M.up k hk1 (by omega)
        have e3 := hk.eok e (mem_atF.1 e1).1
        have e4 := (Ed.okIn_iff e _).1 e3
        omega
    simp only [List.mem_cons, List.not_mem_nil, or_false] at hv2
    rcases hv2 with rfl | rfl | rfl <;> omega
  · exact ⟨fun x hx => (by cases hx), by simp⟩
theorem bent_all_bd : ∀ (l : List T3) (L : List Nm) (b : Int), Bd b L → 20 ≤ b → Bd (b + 10 * (l.length : Int)) (l.foldl bstep L) := by
  intro l
  induction l with
  | nil => intro L b h _; simpa using h
  | cons t l ih =>
    intro L b h hb
    rw [List.foldl_cons]
    refine Bd.mono (ih _ _ (bstep_bd h hb t) (by omega)) ?_
    rw [List.length_cons]; omega
theorem bentF_bd {b : Int} {L : List Nm} (h : Bd b L) (hb : 20 ≤ b) (x : List T3) : Bd (b + 40) (bentF L x) := by
  unfold bentF
  refine Bd.mono (bent_all_bd _ _ _ h hb) ?_
  have : (x.take 4).length ≤ 4 := by rw [List.length_take]; omega
  omega
theorem bentF_len (L : List Nm) (x : List T3) : (bentF L x).length = L.length := by
  unfold bentF
  generalize x.take 4 = l
  induction l generalizing L with
  | nil => rfl
  | cons t l ih => rw [List.foldl_cons, ih, bstep_len]

/-- labels of no more than three values -/
def Sh (L : List Nm) : Prop := ∀ x ∈ L, x.2.length ≤ 3
theorem Sh.set {L : List Nm} {x : Nm} (h : Sh L) (hx : x.2.length ≤ 3) (k : Nat) : Sh (L.set k x) := fun y hy => by
  rcases List.mem_or_eq_of_mem_set hy with h1 | rfl
  · exact h y h1
  · exact hx
theorem Sh.getD {L : List Nm} (h : Sh L) (k : Nat) : ((L[k]?).getD (0, [])).2.length ≤ 3 := by
  cases hk : L[k]? with
  | none => simp
  | some x => exact h x (List.mem_of_getElem? hk)
theorem bstep_sh {L : List Nm} (h : Sh L) (t : T3) : Sh (bstep L t) := by
  have hq := h.getD (pk t.1 L.length).toNat
  have hm := h.getD (pk t.2.2 L.length).toNat
  unfold bstep
  dsimp only
  generalize (L[(pk t.1 L.length).toNat]?).getD (0, []) = q at *
  generalize (L[(pk t.2.2 L.length).toNat]?).getD (0, []) = p at *
  split
  · split
    · exact h.set (by simp; omega) _
    · exact (h.set (x := (q.1, p.2)) hm _).set (x := (p.1, q.2)) hq _
  · split
    · exact h.set (by rw [List.length_set]; exact hq) _
    · exact h.set (by rw [List.length_set]; exact hq) _
theorem bent_sh {L : List Nm} (h : Sh L) (x : List T3) : Sh (bentF L x) := by
  unfold bentF
  generalize x.take 4 = l
  induction l generalizing L with
  | nil => exact h
  | cons t l ih => rw [List.foldl_cons]; exact ih (bstep_sh h t)
theorem vlab_ok : ∀ (L : List Nm) (last : Int), Sh L → (L.map (·.1)).Pairwise (· < ·) → (∀ x ∈ L, last < x.1 ∧ x.1 < 24) → vlabF last L = true := by
  intro L
  induction L with
  | nil => intro _ _ _ _; rfl
  | cons x t ih =>
    intro last hs hp hb
    have h1 := hb x (by simp)
    have h2 := hs x (by simp)
    rw [List.map_cons, List.pairwise_cons] at hp
    have h3 := ih x.1 (fun y hy => hs y (by simp [hy])) hp.2 (fun y hy => ⟨hp.1 y.1 (List.mem_map.2 ⟨y, hy, rfl⟩), (hb y (by simp [hy])).2⟩)
    show (!(decide (x.1 ≤ last) || decide (24 ≤ x.1) || decide (64 < (x.2.length : Int))) && vlabF x.1 t) = true
    rw [h3, decide_eq_false (by omega), decide_eq_false (by omega), decide_eq_false (by omega)]; rfl
/-- labels with a graph's identifiers -/
structure LOk (G : Gr) (L : List Nm) : Prop where
  ids : L.map (·.1) = keysV G.vs
  sh : Sh L
  bd : Bd 2000000 L
theorem LOk.len {G : Gr} {L : List Nm} (h : LOk G L) (ho : G.ok = true) : L.length ≤ 24 := by
  have := (good_of ho).2.2.1
  rw [← h.ids, List.length_map] at this
  exact this
theorem key_bd {G : Gr} (ho : G.ok = true) {x : Int} (hx : x ∈ keysV G.vs) : 0 ≤ x ∧ x < 24 := by
  obtain ⟨u, hu, rfl⟩ := mem_keysV.1 hx
  have := Vx.ok_iff u |>.1 (((ok_iff G).1 ho).vok u hu); omega
theorem LOk.valid {G : Gr} {L : List Nm} (h : LOk G L) (ho : G.ok = true) : vlabF (-1) L = true :=
  vlab_ok L (-1) h.sh (by rw [h.ids]; exact (good_of ho).2.2.2.2) (fun x hx => by
    have := key_bd ho (x := x.1) (by rw [← h.ids]; exact List.mem_map.2 ⟨x, hx, rfl⟩)
    omega)
theorem LOk.good {G : Gr} {L : List Nm} (h : LOk G L) (ho : G.ok = true) : (keysV G.vs).all (goodV G L) = decide (L = labF (mF G) (keysV G.vs)) := by
  have e : (∀ v ∈ keysV G.vs, goodV G L v = true) ↔ ∀ v ∈ keysV G.vs, goodF v (atF G.es v) (readF L) = true := by
    have hv : ∀ v ∈ keysV G.vs, vwOk G L v = true := fun v hv => by
      unfold vwOk; rw [decide_eq_true hv, ho, h.valid ho]; rfl
    constructor
    · intro q v hm
      have := q v hm
      unfold goodV at this
      rw [hv v hm, Bool.true_and] at this
      exact this
    · intro q v hm
      unfold goodV
      rw [hv v hm, Bool.true_and]; exact q v hm
  rw [Bool.eq_iff_iff, List.all_eq_true, decide_eq_true_iff, e, all_good_iff ho h.ids]
theorem lab_ok {G H : Gr} (ho : H.ok = true) (he : keysV H.vs = keysV G.vs) : LOk G (labF (mF H) (keysV H.vs)) ∧ Bd 1000000 (labF (mF H) (keysV H.vs)) := by
  have hb := (lab_bd H).1
  have e : (labelsC H).1 = labF (mF H) (keysV H.vs) := by unfold labelsC; rw [if_pos ho]
  rw [e] at hb
  refine ⟨⟨by rw [labF_ids]; exact he, fun x hx => ?_, hb.mono (by omega)⟩, hb⟩
  unfold labF at hx
  obtain ⟨k, _, rfl⟩ := List.mem_map.1 hx
  simp
theorem LOk.bent {G : Gr} {L : List Nm} (h : LOk G L) (hb : Bd 1000000 L) (x : List T3) : LOk G (bentF L x) :=
  ⟨by rw [bent_ids]; exact h.ids, bent_sh h.sh x, (bentF_bd hb (by omega) x).mono (by omega)⟩

end Go.Proofs.Ythmkmjkbfjhffaa
/- Contracts and facts. -/
set_option linter.unusedSimpArgs false
set_option maxRecDepth 100000
set_option maxHeartbeats 4000000
namespace Go.Proofs.Ythmkmjkbfjhffaa
open Go.RowKit

set_option maxRecDepth 1000000 in
set_option maxHeartbeats 16000000 in
theorem Local_any (n : Int) (vl : Value) (l : List F5) (wide : Bool) (vm : Value) (m : List F5) (xv : Value) (xs : List T3) (w : World) (hl : L5 w vl l) (hm : L5 w vm m) (hx : L3 w xv xs) (hn : i64B n) (hlen : l.length ≤ 9223372036854775807) (hmen : m.length ≤ 9223372036854775807) (hXl : xs.length ≤ 9223372036854775807)
    (hr : ∀ r ∈ l, i64B r.a ∧ i64B r.b ∧ i64B r.c ∧ i64B r.d ∧ i64B r.e) (hmr : ∀ r ∈ m, i64B r.a ∧ i64B r.b ∧ i64B r.c ∧ i64B r.d ∧ i64B r.e) (hxi : ∀ t ∈ xs, i64T t) :
    Calls Try.prog 6 #[.int .i64 n, vl, .bool wide, vm, xv] w fun e w' => e = .returned (.bool true) ∧ Below w.heap.size w w' := by
  have hG0 := made_ok n l wide
  have hne0 := made_ne n l wide
  have hH0 := made_ok n m wide
  have cM := Lib.hid (fun W (B : Below w.heap.size w W) => Made_any n vl l wide W (hl.below B) hn hlen hr)
  have cM2 := Lib.hid (fun W (B : Below w.heap.size w W) => Made_any n vm m wide W (hm.below B) hn hmen hmr)
  have hk0 : keysV (madeG n m wide).vs = keysV (madeG n l wide).vs := rfl
  obtain ⟨G, hG⟩ : ∃ G, Hid (G = madeG n l wide) := ⟨_, rfl⟩
  obtain ⟨H, hH⟩ : ∃ H, Hid (H = madeG n m wide) := ⟨_, rfl⟩
  rw [← hG.out] at hG0 hne0 cM hk0
  rw [← hH.out] at hH0 cM2 hk0
  have ho := Lib.hid ((ok_iff G).2 hG0)
  have ho2 := Lib.hid ((ok_iff H).2 hH0)
  have smk : ∀ K : Gr, Ok K → K.ok = true → K.vs.length ≤ 24 ∧ K.es.length ≤ 1000 ∧ K.ds.length ≤ 3 := fun K h1 h2 => ⟨(ok_facts h2).1.1, (ok_facts h2).1.2, h1.dlen⟩
  have hsm := Lib.hid (smk G hG0 ho.out)
  have hsm2 := Lib.hid (smk H hH0 ho2.out)
  have hvi := Lib.hid (show ∀ x ∈ keysV G.vs, i64B x from fun x hx => by have := key_bd ho.out hx; exact ⟨by omega, by omega⟩)
  have hei := Lib.hid (show ∀ e ∈ G.es, i64B e.src ∧ i64B e.dst from fun e he => by
    have h1 := (ok_facts ho.out).2.ends e he
    have h2 := key_bd ho.out h1.1
    have h3 := key_bd ho.out h1.2
    exact ⟨⟨by omega, by omega⟩, ⟨by omega, by omega⟩⟩)
  obtain ⟨own, hown⟩ : ∃ own, Hid (own = labF (mF G) (keysV G.vs)) := ⟨_, rfl⟩
  obtain ⟨oth, hoth⟩ : ∃ oth, Hid (oth = labF (mF H) (keysV H.vs)) := ⟨_, rfl⟩
  have hL1 := lab_ok (G := G) ho.out rfl
  have hL2 := lab_ok (G := G) ho2.out hk0
  rw [← hown.out] at hL1
  rw [← hoth.out] at hL2
  have cGood := Lib.hid (fun W v lv L (h1 : GV W v G) (h2 : NL W lv L) (h3 : LOk G L) => (show Calls Try.prog 21 #[v, lv] W fun e w' => e = .returned (.bool (decide (L = own))) ∧ Below W.heap.size W w' from by
    have := good_any v lv G L W h1 h2 (Nat.le_trans hsm.out.1 (by omega)) (Nat.le_trans hsm.out.2.1 (by omega)) (Nat.le_trans hsm.out.2.2 (by omega)) (Nat.le_trans (h3.len ho.out) (by omega)) h3.bd hvi.out hei.out
    rw [h3.good ho.out, ← hown.out] at this
    exact this))
  have cSame := Lib.hid (fun W lv ov L (h1 : NL W lv L) (h2 : NL W ov own) (h3 : LOk G L) => SameLabels_any lv ov L own W h1 h2 (Nat.le_trans (h3.len ho.out) (by omega)) (fun x hx => Nat.le_trans (h3.sh x hx) (by omega)) (fun x hx => Nat.le_trans (hL1.1.sh x hx) (by omega)))
  have cBent := Lib.hid (fun W lv L (B : Below w.heap.size w W) (h1 : NL W lv L) (h2 : LOk G L) (h3 : Bd 1000000 L) => Bent_any lv xv L xs W h1 (hx.below B) (Nat.le_trans (h2.len ho.out) (by omega)) hXl hxi h3)
  have cLab := Lib.hid (fun K (hK : K.ok = true) (hs : K.vs.length ≤ 24 ∧ K.es.length ≤ 1000 ∧ K.ds.length ≤ 3) v W (h1 : GV W v K) => (show Calls Try.prog 17 #[v] W fun e w' => ∃ r, e = .returned (.tuple #[r, .int .i64 0]) ∧ OwnN w' W.heap.size r (labF (mF K) (keysV K.vs)) ∧ Below W.heap.size W w' from by
    have := Labels_any v K W h1 (by unfold Gr.small; omega)
    have e : labelsC K = (labF (mF K) (keysV K.vs), 0) := by unfold labelsC; rw [if_pos hK]
    rw [e] at this
    exact this))
  replace hL1 := Lib.hid hL1
  replace hL2 := Lib.hid hL2
  have cLG := Lib.hid (fun v W h1 => cLab.out G ho.out hsm.out v W h1)
  have cLH := Lib.hid (fun v W h1 => cLab.out H ho2.out hsm2.out v W h1)
  rw [← hown.out] at cLG
  rw [← hoth.out] at cLH
  clear hsm hsm2 cLab
  clear hG0 hH0 hne0 hk0 hl hm hx hn hlen hmen hXl hr hmr hxi smk hvi hei
  go_enter Try.func6, Try.ntmps6
  go_wp2_with fail
  refine (sane_any w).mono ?_
  rintro e w1 ⟨rfl, b1⟩
  have B1 := Lib.hid b1
  clear b1
  go_wp2_with fail
  refine (cM.out w1 B1.out).mono ?_
  rintro e w2 ⟨x, y, z, rfl, hv, he, hd, b2⟩
  have hgv : GV w2 (.agg #[x, y, z]) G := ⟨_, _, _, rfl, hv.VL, he.EL, hd.DL⟩
  obtain ⟨a1, a2, rfl⟩ := hv.VL.shape
  obtain ⟨b1, b2', rfl⟩ := he.EL.shape
  obtain ⟨c1, c2, rfl⟩ := hd.DL.shape
  generalize G.vs.length = N1 at *
  generalize G.es.length = N2 at *
  generalize G.ds.length = N3 at *
  obtain ⟨w3, hw3⟩ : ∃ x, x = w2.alloc (.cells #[.slice a1 N1 a2, .slice b1 N2 b2', .slice c1 N3 c2] 28) := ⟨_, rfl⟩
  have b3 : Below w2.heap.size w2 w3 := by rw [hw3]; exact (Below.refl _ w2).alloc (Nat.le_refl _) _
  have gb : w3.heap[w2.heap.size]? = some (.cells #[.slice a1 N1 a2, .slice b1 N2 b2', .slice c1 N3 c2] 28 (0, 0)) := by rw [hw3]; exact heap_alloc_new w2 _
  have hs3 : w3.heap.size = w2.heap.size + 1 := by rw [hw3]; simp
  have hBB : Hid (Below w.heap.size w w3) := (B1.out.trans (b2.mono B1.out.size)).trans (b3.mono (by have := b2.size; have := B1.out.size; omega))
  have fG := Lib.hid (fun W (q : Below w3.heap.size w3 W) => (hgv.below b3).below q)
  have fb := Lib.hid (fun W (q : Below w3.heap.size w3 W) => box3g ((q.block _ (show w2.heap.size < w3.heap.size by omega)).trans gb))
  replace hw3 := Lib.hid hw3
  clear hgv hv he hd b2 b3 gb hs3 cM B1
  obtain ⟨g0, g1, g2⟩ := fb.out w3 (Below.refl _ _)
  go_upto_region 4 with (fail)
  rw [← hw3.out]
  clear hw3
  generalize w2.heap.size = bg at *
  have c4 := cLG.out _ w3 (fG.out w3 (Below.refl _ _))
  clear cLG
  go_wp2_with fail
  refine c4.mono ?_
  clear c4
  rintro e w4 ⟨lv, rfl, hlv, q4⟩
  have K4 := Lib.hid q4
  have hB4 := Lib.hid (hBB.out.trans (q4.mono hBB.out.size))
  have hlv4 := Lib.hid hlv.NL
  clear q4 hlv
  go_wp2_with fail
  refine (cM2.out w4 hB4.out).mono ?_
  clear cM2
  rintro e w5 ⟨x, y, z, rfl, hv, he, hd, b5⟩
  have hgv : GV w5 (.agg #[x, y, z]) H := ⟨_, _, _, rfl, hv.VL, he.EL, hd.DL⟩
  have K5 := Lib.hid (K4.out.trans (b5.mono K4.out.size))
  have hlv5 := Lib.hid (hlv4.out.below b5)
  clear hv he hd hB4 hlv4 b5
  go_wp2_with fail
  refine (cLH.out _ w5 hgv).mono ?_
  clear cLH hgv
  rintro e w6 ⟨tv, rfl, htv, q6⟩
  have K6 := Lib.hid (K5.out.trans (q6.mono K5.out.size))
  have hlv6 := Lib.hid (hlv5.out.below q6)
  have htv6 := Lib.hid htv.NL
  clear htv q6 K5 hlv5
  obtain ⟨g0, g1, g2⟩ := fb.out w6 K6.out
  have cg0 := cGood.out w6 _ lv own (fG.out w6 K6.out) hlv6.out hL1.out.1
  rw [decide_eq_true rfl] at cg0
  go_wp2_with fail
  refine cg0.mono ?_
  clear cg0 g0 g1 g2
  rintro e w7 ⟨rfl, q7⟩
  have K7 := Lib.hid (K6.out.trans (q7.mono K6.out.size))
  have hlv7 := Lib.hid (hlv6.out.below q7)
  have htv7 := Lib.hid (htv6.out.below q7)
  clear q7 hlv6 htv6 K6
  go_wp2_with fail
  refine (cBent.out w7 lv own (hBB.out.trans (K7.out.mono hBB.out.size)) hlv7.out hL1.out.1 hL1.out.2).mono ?_
  rintro e w8 ⟨bv, rfl, hbv, q8⟩
  have K8 := Lib.hid (K7.out.trans (q8.mono K7.out.size))
  have hlv8 := Lib.hid (hlv7.out.below q8)
  have htv8 := Lib.hid (htv7.out.below q8)
  have hbv8 := Lib.hid hbv.NL
  clear q8 hlv7 htv7 K7 hbv
  go_wp2_with fail
  refine (cBent.out w8 tv oth (hBB.out.trans (K8.out.mono hBB.out.size)) htv8.out hL2.out.1 hL2.out.2).mono ?_
  clear cBent
  rintro e w9 ⟨cv, rfl, hcv, q9⟩
  have K9 := Lib.hid (K8.out.trans (q9.mono K8.out.size))
  have hlv9 := Lib.hid (hlv8.out.below q9)
  have htv9 := Lib.hid (htv8.out.below q9)
  have hbv9 := Lib.hid (hbv8.out.below q9)
  have hcv9 := Lib.hid hcv.NL
  clear q9 hlv8 htv8 hbv8 K8 hcv
  have hP1 := Lib.hid (hL1.out.1.bent hL1.out.2 xs)
  have hP2 := Lib.hid (hL2.out.1)
  have hP3 := Lib.hid (hL2.out.1.bent hL2.out.2 xs)
  generalize bentF own xs = B1 at *
  generalize bentF oth xs = B3 at *
  obtain ⟨p1, p3, rfl⟩ := hbv9.out.shape
  obtain ⟨r1, r3, rfl⟩ := htv9.out.shape
  obtain ⟨s1, s3, rfl⟩ := hcv9.out.shape
  generalize B1.length = p2 at *
  generalize oth.length = r2 at *
  generalize B3.length = s2 at *
  obtain ⟨wa, hwa⟩ : ∃ x, x = w9.alloc (.cells #[.slice p1 p2 p3, .slice r1 r2 r3, .slice s1 s2 s3] 46) := ⟨_, rfl⟩
  have ba : Below w9.heap.size w9 wa := by rw [hwa]; exact (Below.refl _ w9).alloc (Nat.le_refl _) _
  have ga : wa.heap[w9.heap.size]? = some (.cells #[.slice p1 p2 p3, .slice r1 r2 r3, .slice s1 s2 s3] 46 (0, 0)) := by rw [hwa]; exact heap_alloc_new w9 _
  have Ka := Lib.hid (K9.out.trans (ba.mono K9.out.size))
  have hlva := Lib.hid (fun W (q : Below wa.heap.size wa W) => (hlv9.out.below ba).below q)
  have fq := Lib.hid (fun W (q : Below wa.heap.size wa W) => (q.block _ (Array.getElem?_eq_some_iff.1 ga).1).trans ga)
  have hrow := Lib.hid (show ∀ k : Nat, k < 3 → ∃ (t1 : Option Addr) (t2 t3 : Nat) (L : List Nm), LOk G L ∧ ∀ W, Below wa.heap.size wa W → W.cell? ⟨w9.heap.size, k, none⟩ = some (.slice t1 t2 t3) ∧ NL W (.slice t1 t2 t3) L from fun k hk => by
    rcases k with _ | _ | _ | k
    · exact ⟨p1, p2, p3, B1, hP1.out, fun W q => ⟨by rw [cell_of_row _ _ _ _ _ _ (fq.out W q)]; rfl, (hbv9.out.below ba).below q⟩⟩
    · exact ⟨r1, r2, r3, oth, hP2.out, fun W q => ⟨by rw [cell_of_row _ _ _ _ _ _ (fq.out W q)]; rfl, (htv9.out.below ba).below q⟩⟩
    · exact ⟨s1, s2, s3, B3, hP3.out, fun W q => ⟨by rw [cell_of_row _ _ _ _ _ _ (fq.out W q)]; rfl, (hcv9.out.below ba).below q⟩⟩
    · omega)
  replace hwa := Lib.hid hwa
  clear ba ga hP1 hP2 hP3 hbv9 htv9 hcv9 hlv9 K9 fq hL1 hL2
  go_upto_region 9 with (fail)
  rw [← hwa.out]
  clear hwa
  generalize w9.heap.size = xq at *
  go_wp2_with fail
  go_loopg [58] 3 (fun q iv wr => ∃ k : Nat, k + q = 3 ∧ iv = .int .i64 k ∧ Below wa.heap.size wa wr)
  case atStart => exact ⟨0, by omega, rfl, Below.refl _ _⟩
  case round =>
  obtain ⟨k, hk, rfl, B⟩ := hrel
  obtain ⟨wo, rfl⟩ : ∃ x, x = wr := ⟨_, rfl⟩
  cases gk with
  | zero =>
    have i1 : ¬ (k : Int) < 3 := by omega
    have hfin := Lib.hid (hBB.out.trans ((Ka.out.trans (B.mono Ka.out.size)).mono hBB.out.size))
    clear hk B
    go_wp2_with fail
    go_ret
    exact ⟨rfl, hfin.out⟩
  | succ gb =>
    have i0 : (0 : Int) ≤ (k : Int) := by omega
    have i1 : (k : Int) < 3 := by omega
    have hle : Hid (k + 1 + gb = 3) := by show _ = _; omega
    obtain ⟨t1, t2, t3, L, hLk, hW⟩ := hrow.out k (by omega)
    obtain ⟨y0, y1⟩ := hW wo B
    have Ko := Lib.hid (Ka.out.trans (B.mono Ka.out.size))
    obtain ⟨g0, g1, g2⟩ := fb.out wo Ko.out
    have cg := cGood.out wo _ (.slice t1 t2 t3) L (fG.out wo Ko.out) y1 hLk
    have cs := Lib.hid (fun W (q : Below wo.heap.size wo W) => cSame.out W (.slice t1 t2 t3) lv L (y1.below q) (hlva.out W (B.trans (q.mono B.size))) hLk)
    obtain ⟨bb, hbb⟩ : ∃ bb : Bool, bb = decide (L = own) := ⟨_, rfl⟩
    rw [← hbb] at cg cs
    have hB := Lib.hid B
    clear hk hW B hbb y1 hLk cSame cGood
    cases bb
    all_goals
      go_wp2_with (first
        | (go_at_call 21; refine cg.mono ?_; clear cg; rintro e w11 ⟨rfl, q11⟩; have c11 := cs.out w11 q11; have hq11 := Lib.hid q11; clear q11)
        | (go_at_call 23; refine c11.mono ?_; clear c11; rintro e w12 ⟨rfl, q12⟩; have hq12 := Lib.hid (hq11.out.trans (q12.mono hq11.out.size)); clear q12))
      go_roundg gb
      case measure => omega
      case rel => exact ⟨k + 1, hle.out, by go_num, hB.out.trans (hq12.out.mono hB.out.size)⟩

end Go.Proofs.Ythmkmjkbfjhffaa
