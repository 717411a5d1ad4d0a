/- Contracts and facts. -/
import Derived.Deep.LoopGhost
import Derived.Handy
import Derived.WalkMore
import Derived.BigRegion
import Derived.Laws.EntriesVeiled
import Derived.Test.YthmkmjkbfjhffaaVHQ
set_option linter.unusedSimpArgs false
set_option maxRecDepth 100000
set_option maxHeartbeats 4000000
namespace Go.Proofs.Ythmkmjkbfjhffaa
open Go.RowKit
theorem readF_find (L : List Nm) (k : Int) : readF L k = match L.find? (fun x => x.1 == k) with
  | some x => if x.2.length = 3 then some ⟨x.2[0]?.getD 0, x.2[1]?.getD 0, x.2[2]?.getD 0⟩ else none
  | none => none := by
  induction L with
  | nil => rfl
  | cons x t ih =>
    rw [readF_cons]
    unfold stepR
    by_cases h : x.1 = k
    · rw [List.find?_cons_of_pos (by simpa using h)]
      by_cases h3 : x.2.length = 3
      · rw [if_pos h3]; simp [putP, h3, h]
      · rw [if_neg h3]; simp [h3, h]
    · rw [List.find?_cons_of_neg (by simpa using h), ← ih]
      by_cases h3 : x.2.length = 3
      · rw [if_pos h3]; unfold putP; rw [if_neg (fun e => h e.symm)]
      · rw [if_neg h3]; show (if k = x.1 then none else readF t k) = _; rw [if_neg (fun e => h e.symm)]
theorem vaF_out (n : Int) (h : isV n = false) : ∀ (l : List Ed) (k : Int), vaF n k l = false := by
  intro l
  induction l with
  | nil => intro k; exact h
  | cons e l ih => intro k; show (okE k n e && vaF n e.id l) = false; rw [ih, Bool.and_false]
def okN (last n : Int) (e : Ed) : Prop := 0 ≤ e.id ∧ e.id < 40 ∧ last < e.id ∧ 0 ≤ e.src ∧ e.src < 24 ∧ 0 ≤ e.dst ∧ e.dst < 24 ∧ -1000 ≤ e.wt ∧ e.wt ≤ 1000 ∧ (e.src = n ∨ e.dst = n)
theorem va_bad (last n : Int) (e : Ed) (l : List Ed) (h0 : -1 ≤ last) (h : ¬ okN last n e) : vaF n last (e :: l) = false := by
  cases hV : isV n with
  | false => exact vaF_out n hV _ _
  | true =>
    show (okE last n e && vaF n e.id l) = false
    have : okE last n e = false := by
      refine Bool.eq_false_iff.2 fun hk => h ?_
      unfold okE isV at hk
      unfold isV at hV
      simp only [Bool.not_eq_true', Bool.or_eq_false_iff, decide_eq_false_iff_not, Bool.not_eq_false', Bool.and_eq_true, decide_eq_true_eq] at hk hV
      unfold otherI at hk
      unfold okN
      by_cases h1 : e.src = n
      · rw [if_pos h1] at hk; exact ⟨by omega, by omega, by omega, by omega, by omega, by omega, by omega, by omega, by omega, .inl h1⟩
      · rw [if_neg h1] at hk
        by_cases h2 : e.dst = n
        · rw [if_pos h2] at hk; exact ⟨by omega, by omega, by omega, by omega, by omega, by omega, by omega, by omega, by omega, .inr h2⟩
        · rw [if_neg h2] at hk; omega
    rw [this]; rfl
theorem va_ok (last n : Int) (e : Ed) (l : List Ed) (h : okN last n e) : vaF n last (e :: l) = vaF n e.id l := by
  cases hV : isV n with
  | false => rw [vaF_out n hV, vaF_out n hV]
  | true =>
    show (okE last n e && vaF n e.id l) = _
    have : okE last n e = true := by
      obtain ⟨h1, h2, h3, h4, h5, h6, h7, h8, h9, h10⟩ := h
      unfold okE isV
      simp only [Bool.not_eq_true', Bool.or_eq_false_iff, decide_eq_false_iff_not, Bool.not_eq_false', Bool.and_eq_true, decide_eq_true_eq]
      unfold otherI
      refine ⟨⟨⟨⟨by omega, by omega⟩, ?_⟩, by omega⟩, by omega⟩
      split
      · omega
      · split <;> omega
    rw [this]; rfl
theorem good_no1 {n : Int} {es : List Ed} {m : PM} (h : m n = none ∨ vaF n (-1) es = false ∨ (gp m n).root < 0 ∨ n < (gp m n).root ∨ (gp m n).depth < 0) : goodF n es m = false := by
  unfold goodF
  rw [if_neg]
  rintro ⟨h1, h2, h3, h4, h5⟩
  rcases h with h | h | h | h | h
  · rw [h] at h1; cases h1
  · rw [h] at h2; cases h2
  · exact h3 h
  · exact h4 h
  · exact h5 h
theorem good_no2 {n : Int} {es : List Ed} {m : PM} (h : ((gp m n).depth = 0 ∧ (gp m n).root ≠ n) ∨ ((gp m n).depth ≠ 0 ∧ (gp m n).root = n) ∨ ((gp m n).depth = 0 ∧ (gp m n).edge ≠ -1)) : goodF n es m = false := by
  unfold goodF
  split
  · rw [if_pos (by rcases h with h | h | h; exact .inr h.1; exact .inl h.2; exact .inr h.1)]
    rw [show decide ((gp m n).root = n ∧ (gp m n).depth = 0 ∧ (gp m n).edge = -1) = false from decide_eq_false (by omega), Bool.and_false]
  · rfl
theorem good_yes {n : Int} {es : List Ed} {m : PM} (h1 : (m n).isSome = true) (h2 : vaF n (-1) es = true) (h3 : ¬ (gp m n).root < 0) (h4 : ¬ n < (gp m n).root) (h5 : ¬ (gp m n).depth < 0)
    (h6 : (gp m n).depth = 0 ↔ (gp m n).root = n) (h7 : (gp m n).depth = 0 → (gp m n).edge = -1) :
    goodF n es m = (es.all (nbF m n) && (decide ((gp m n).depth = 0) || (decide (0 ≤ upF m n es) && decide ((gp m n).edge = upF m n es)))) := by
  unfold goodF
  rw [if_pos ⟨h1, h2, h3, h4, h5⟩]
  congr 1
  by_cases h : (gp m n).depth = 0
  · rw [if_pos (.inr h), decide_eq_true h, Bool.true_or]; exact decide_eq_true ⟨h6.1 h, h, h7 h⟩
  · rw [if_neg (by omega), decide_eq_false h, Bool.false_or, Bool.eq_iff_iff]
    simp only [Bool.and_eq_true, decide_eq_true_eq, beq_iff_eq]
    constructor
    · rintro ⟨a, b⟩; exact ⟨by omega, b⟩
    · rintro ⟨a, b⟩; exact ⟨by omega, b⟩
theorem upF_cons (m : PM) (n : Int) (e : Ed) (l : List Ed) : upF m n (e :: l) = if (gp m (otherI e n)).depth = (gp m n).depth - 1 then e.id else upF m n l := by
  unfold upF
  by_cases h : (gp m (otherI e n)).depth = (gp m n).depth - 1
  · rw [List.find?_cons_of_pos (by simpa using h), if_pos h]
  · rw [List.find?_cons_of_neg (by simpa using h), if_neg h]

end Go.Proofs.Ythmkmjkbfjhffaa
/- Contracts and facts. -/
set_option linter.unusedSimpArgs false
set_option maxRecDepth 100000
set_option maxHeartbeats 4000000
namespace Go.Proofs.Ythmkmjkbfjhffaa
open Go.RowKit
/-! ### Local checks of labels: what good views say, and that they say it once -/
theorem gp_of {m m' : PM} {x : Int} (h : m x = m' x) : gp m x = gp m' x := by unfold gp; rw [h]
theorem nbF_congr {m m' : PM} {n : Int} {e : Ed} (h : m n = m' n) (h2 : m (otherI e n) = m' (otherI e n)) : nbF m n e = nbF m' n e := by
  unfold nbF; rw [gp_of h, gp_of h2, h2]
theorem upF_congr {m m' : PM} {n : Int} (h : (gp m n).depth = (gp m' n).depth) : ∀ (l : List Ed), (∀ e ∈ l, (gp m (otherI e n)).depth = (gp m' (otherI e n)).depth) → upF m n l = upF m' n l := by
  intro l
  induction l with
  | nil => intro _; rfl
  | cons e l ih =>
    intro h2
    rw [upF_cons, upF_cons, h, h2 e (by simp), ih (fun x hx => h2 x (by simp [hx]))]
theorem goodF_congr {m m' : PM} {n : Int} {es : List Ed} (h : m n = m' n) (h2 : ∀ e ∈ es, m (otherI e n) = m' (otherI e n)) : goodF n es m = goodF n es m' := by
  have e2 : es.all (nbF m n) = es.all (nbF m' n) := by
    rw [Bool.eq_iff_iff, List.all_eq_true, List.all_eq_true]
    constructor
    · intro q e he; rw [← nbF_congr h (h2 e he)]; exact q e he
    · intro q e he; rw [nbF_congr h (h2 e he)]; exact q e he
  have e1 := gp_of h
  have e3 : upF m n es = upF m' n es := upF_congr (by rw [e1]) es (fun e he => by rw [gp_of (h2 e he)])
  unfold goodF
  simp only [e1, h, e2, e3]
structure GdV (n : Int) (es : List Ed) (m : PM) : Prop where
  is : (m n).isSome = true
  lo : 0 ≤ (gp m n).depth
  r0 : 0 ≤ (gp m n).root
  rn : (gp m n).root ≤ n
  nb : ∀ e ∈ es, (gp m (otherI e n)).root = (gp m n).root ∧ (gp m n).depth ≤ (gp m (otherI e n)).depth + 1
  zr : (gp m n).depth = 0 ↔ (gp m n).root = n
  ze : (gp m n).depth = 0 → (gp m n).edge = -1
  up : (gp m n).depth ≠ 0 → 0 ≤ (gp m n).edge ∧ (gp m n).edge = upF m n es
theorem good_facts {n : Int} {es : List Ed} {m : PM} (h : goodF n es m = true) : GdV n es m := by
  have h0 := h
  unfold goodF at h
  split at h
  · next hc =>
    obtain ⟨c1, _, c3, c4, c5⟩ := hc
    rw [Bool.and_eq_true, List.all_eq_true] at h
    obtain ⟨a1, a2⟩ := h
    have nb : ∀ e ∈ es, (gp m (otherI e n)).root = (gp m n).root ∧ (gp m n).depth ≤ (gp m (otherI e n)).depth + 1 := fun e he => by
      have := a1 e he
      unfold nbF at this
      simp only [Bool.and_eq_true, beq_iff_eq, Bool.not_eq_true', decide_eq_false_iff_not] at this
      exact ⟨this.1.2, by omega⟩
    by_cases hz : (gp m n).root = n ∨ (gp m n).depth = 0
    · rw [if_pos hz, decide_eq_true_iff] at a2
      exact ⟨c1, by omega, by omega, by omega, nb, ⟨fun _ => a2.1, fun _ => a2.2.1⟩, fun _ => a2.2.2, fun h => absurd a2.2.1 h⟩
    · rw [if_neg hz, Bool.and_eq_true, decide_eq_true_iff, beq_iff_eq] at a2
      exact ⟨c1, by omega, by omega, by omega, nb, ⟨fun h => absurd (.inr h) hz, fun h => absurd (.inl h) hz⟩, fun h => absurd (.inr h) hz, fun _ => a2⟩
  · cases h
theorem upF_mem {m : PM} {n : Int} : ∀ (l : List Ed), 0 ≤ upF m n l → ∃ e ∈ l, (gp m (otherI e n)).depth = (gp m n).depth - 1 := by
  intro l
  induction l with
  | nil => intro h; have : upF m n [] = -1 := rfl; omega
  | cons e l ih =>
    intro h
    rw [upF_cons] at h
    by_cases hd : (gp m (otherI e n)).depth = (gp m n).depth - 1
    · exact ⟨e, by simp, hd⟩
    · rw [if_neg hd] at h
      obtain ⟨x, hx, h2⟩ := ih h
      exact ⟨x, by simp [hx], h2⟩
section
variable {es : List Ed} {V : List Int} (G : GrOk es V) {m m2 : PM} (h1 : ∀ v ∈ V, GdV v (atF es v) m) (h2 : ∀ v ∈ V, GdV v (atF es v) m2)
include G h1
theorem root_keep (f : Int → Int) (hf : ∀ v ∈ V, ∀ e ∈ atF es v, f (otherI e v) = f v) : ∀ (n : Nat) {v : Int}, v ∈ V → (gp m v).depth = (n : Int) → (gp m v).root ∈ V ∧ f (gp m v).root = f v := by
  intro n
  induction n with
  | zero => intro v hv h; have := (h1 v hv).zr.1 (by simpa using h); rw [this]; exact ⟨hv, rfl⟩
  | succ n ih =>
    intro v hv h
    obtain ⟨u1, u2⟩ := (h1 v hv).up (by omega)
    obtain ⟨e, he, hd⟩ := upF_mem (m := m) (n := v) (atF es v) (by omega)
    obtain ⟨k1, k2⟩ := ih (other_mem G he) (by omega)
    have hr := ((h1 v hv).nb e he).1
    rw [hr] at k1 k2
    exact ⟨k1, k2.trans (hf v hv e he)⟩
include h2
theorem root_le {v : Int} (hv : v ∈ V) : (gp m2 v).root ≤ (gp m v).root := by
  obtain ⟨k1, k2⟩ := root_keep G h1 (fun x => (gp m2 x).root) (fun v hv e he => ((h2 v hv).nb e he).1) (gp m v).depth.toNat hv (by have := (h1 v hv).lo; omega)
  have := (h2 _ k1).rn
  have k3 : (gp m2 (gp m v).root).root = (gp m2 v).root := k2
  omega
end
theorem root_same {es : List Ed} {V : List Int} (G : GrOk es V) {m m2 : PM} (h1 : ∀ v ∈ V, GdV v (atF es v) m) (h2 : ∀ v ∈ V, GdV v (atF es v) m2) {v : Int} (hv : v ∈ V) : (gp m v).root = (gp m2 v).root := by
  have a := root_le G h1 h2 hv
  have b := root_le G h2 h1 hv
  omega
theorem depth_le {es : List Ed} {V : List Int} (G : GrOk es V) {m m2 : PM} (h1 : ∀ v ∈ V, GdV v (atF es v) m) (h2 : ∀ v ∈ V, GdV v (atF es v) m2) : ∀ (n : Nat) {v : Int}, v ∈ V → (gp m2 v).depth = (n : Int) → (gp m v).depth ≤ (n : Int) := by
  intro n
  induction n with
  | zero =>
    intro v hv h
    have a := (h2 v hv).zr.1 (by simpa using h)
    have b := (h1 v hv).zr.2 (by rw [root_same G h1 h2 hv]; exact a)
    omega
  | succ n ih =>
    intro v hv h
    obtain ⟨u1, u2⟩ := (h2 v hv).up (by omega)
    obtain ⟨e, he, hd⟩ := upF_mem (m := m2) (n := v) (atF es v) (by omega)
    have := ih (other_mem G he) (by omega)
    have := ((h1 v hv).nb e he).2
    omega
theorem depth_same {es : List Ed} {V : List Int} (G : GrOk es V) {m m2 : PM} (h1 : ∀ v ∈ V, GdV v (atF es v) m) (h2 : ∀ v ∈ V, GdV v (atF es v) m2) {v : Int} (hv : v ∈ V) : (gp m v).depth = (gp m2 v).depth := by
  have a := depth_le G h1 h2 (gp m2 v).depth.toNat hv (by have := (h2 v hv).lo; omega)
  have b := depth_le G h2 h1 (gp m v).depth.toNat hv (by have := (h1 v hv).lo; omega)
  have := (h1 v hv).lo
  have := (h2 v hv).lo
  omega
theorem good_unique {es : List Ed} {V : List Int} (G : GrOk es V) {m m2 : PM} (h1 : ∀ v ∈ V, goodF v (atF es v) m = true) (h2 : ∀ v ∈ V, goodF v (atF es v) m2 = true) {v : Int} (hv : v ∈ V) : m v = m2 v := by
  have g1 := fun v hv => good_facts (h1 v hv)
  have g2 := fun v hv => good_facts (h2 v hv)
  have a := root_same G g1 g2 hv
  have b := depth_same G g1 g2 hv
  have c : (gp m v).edge = (gp m2 v).edge := by
    by_cases hz : (gp m v).depth = 0
    · rw [(g1 v hv).ze hz, (g2 v hv).ze (by rw [← b]; exact hz)]
    · rw [((g1 v hv).up hz).2, ((g2 v hv).up (by rw [← b]; exact hz)).2]
      exact upF_congr b _ (fun e he => depth_same G g1 g2 (other_mem G he))
  have i1 := (g1 v hv).is
  have i2 := (g2 v hv).is
  unfold gp at a b c
  cases hm : m v with
  | none => rw [hm] at i1; cases i1
  | some p =>
    cases hm2 : m2 v with
    | none => rw [hm2] at i2; cases i2
    | some p2 =>
      rw [hm, hm2] at a b c
      obtain ⟨x1, x2, x3⟩ := p
      obtain ⟨y1, y2, y3⟩ := p2
      simp only [Option.getD_some] at a b c
      rw [a, b, c]
theorem vaF_all {n : Int} (hn : 0 ≤ n ∧ n < 24) : ∀ (l : List Ed) (last : Int), (∀ e ∈ l, last < e.id ∧ e.id < 40 ∧ (0 ≤ otherI e n ∧ otherI e n < 24) ∧ -1000 ≤ e.wt ∧ e.wt ≤ 1000) → l.Pairwise (fun a b => a.id < b.id) → vaF n last l = true := by
  intro l
  induction l with
  | nil => intro last _ _; show isV n = true; unfold isV; simp; exact hn
  | cons e l ih =>
    intro last h hp
    obtain ⟨p1, p2⟩ := List.pairwise_cons.1 hp
    obtain ⟨e1, e2, e3, e4, e5⟩ := h e (by simp)
    show (okE last n e && vaF n e.id l) = true
    rw [ih e.id (fun x hx => ⟨p1 x hx, (h x (by simp [hx])).2⟩) p2, Bool.and_true]
    unfold okE isV
    simp only [Bool.not_eq_true', Bool.or_eq_false_iff, decide_eq_false_iff_not, Bool.not_eq_false', Bool.and_eq_true, decide_eq_true_eq]
    exact ⟨⟨⟨⟨by omega, by omega⟩, e3⟩, by omega⟩, by omega⟩
theorem va_at {g : Gr} (ho : g.ok = true) {v : Int} (hv : v ∈ keysV g.vs) : vaF v (-1) (atF g.es v) = true := by
  have o := (ok_iff g).1 ho
  have G := (good_of ho).1
  have hk : ∀ x ∈ keysV g.vs, 0 ≤ x ∧ x < 24 := fun x hx => by
    obtain ⟨u, hu, rfl⟩ := mem_keysV.1 hx
    have := Vx.ok_iff u |>.1 (o.vok u hu); omega
  refine vaF_all (hk v hv) _ _ (fun e he => ?_) ?_
  · have h1 := (Ed.okIn_iff e _).1 (o.eok e (mem_atF.1 he).1)
    exact ⟨by omega, by omega, hk _ (other_mem G he), by omega, by omega⟩
  · have h2 : g.es.Pairwise (fun a b => a.id < b.id) := by
      have := o.easc
      unfold Asc keysE at this
      rw [List.pairwise_map] at this
      exact this
    exact h2.sublist List.filter_sublist
theorem edge_at {g : Gr} (ho : g.ok = true) {k : Int} (hk : k ∈ keysV g.vs) : upF (mF g) k (atF g.es k) = (gp (mF g) k).edge := by
  obtain ⟨G, _, hV, _, _⟩ := good_of ho
  obtain ⟨S1, S2⟩ := spread_inv G hV
  obtain ⟨e1, e2⟩ := grow_fold g.es (spreadF g.es (keysV g.vs)).m (keysV g.vs) (spreadF g.es (keysV g.vs)).m G.nodup (fun k => ⟨rfl, rfl⟩) (fun k _ => rfl)
  have h1 : mF g k = some { gp (spreadF g.es (keysV g.vs)).m k with edge := upF (spreadF g.es (keysV g.vs)).m k (atF g.es k) } := by
    have := e2 k
    rw [if_pos hk] at this; exact this
  have h2 : (gp (mF g) k).edge = upF (spreadF g.es (keysV g.vs)).m k (atF g.es k) := by rw [gp_some h1]
  have h3 : upF (mF g) k (atF g.es k) = upF (spreadF g.es (keysV g.vs)).m k (atF g.es k) := upF_depth (fun x => (e1 x).2) k _
  rw [h3, ← h2]
theorem own_good {g : Gr} (ho : g.ok = true) {v : Int} (hv : v ∈ keysV g.vs) : goodF v (atF g.es v) (mF g) = true := by
  obtain ⟨G, M, _, F, _⟩ := good_of ho
  obtain ⟨b1, b2⟩ := bfs_of ho hv
  obtain ⟨r1, _⟩ := root_ok ho hv
  have hr0 := G.vnn _ r1
  obtain ⟨p, hp⟩ := M.all v hv
  have hzr : (gp (mF g) v).depth = 0 ↔ (gp (mF g) v).root = v := (root_iff G M hv).symm
  rw [good_yes (by rw [hp]; rfl) (va_at ho hv) (by omega) (by omega) (by have := M.lo v; omega) hzr (fun h => (M.rt v hv h).2)]
  have hall : (atF g.es v).all (nbF (mF g) v) = true := by
    rw [List.all_eq_true]
    intro e he
    have ho2 := other_mem G he
    obtain ⟨q, hq⟩ := M.all _ ho2
    have hb := (bfs_of ho ho2).1 e (atF_back he)
    rw [(other_back (mem_atF.1 he).2).1] at hb
    unfold nbF
    rw [hq, F v hv e he]
    simp only [Option.isSome_some, Bool.true_and, Bool.and_eq_true, beq_self_eq_true, Bool.not_eq_true', decide_eq_false_iff_not, true_and]
    omega
  rw [hall, Bool.true_and]
  by_cases hz : (gp (mF g) v).depth = 0
  · rw [decide_eq_true hz]; rfl
  · rw [decide_eq_false hz, Bool.false_or]
    obtain ⟨e, e1, e2, _⟩ := M.up v hv (by have := M.lo v; omega)
    have := G.nonneg e (mem_atF.1 e1).1
    rw [edge_at ho hv, decide_eq_true rfl, Bool.and_true, decide_eq_true_iff]
    omega
theorem readF_filter (L : List Nm) (f : Nm → Bool) (k : Int) (h : ∀ x : Nm, x.1 = k → f x = true) : readF (L.filter f) k = readF L k := by
  rw [readF_find, readF_find]
  have : (L.filter f).find? (fun x => x.1 == k) = L.find? (fun x => x.1 == k) := by
    induction L with
    | nil => rfl
    | cons x t ih =>
      by_cases hx : x.1 = k
      · rw [List.filter_cons_of_pos (h x hx), List.find?_cons_of_pos (by simpa using hx), List.find?_cons_of_pos (by simpa using hx)]
      · by_cases hf : f x = true
        · rw [List.filter_cons_of_pos hf, List.find?_cons_of_neg (by simpa using hx), List.find?_cons_of_neg (by simpa using hx), ih]
        · rw [List.filter_cons_of_neg hf, List.find?_cons_of_neg (by simpa using hx), ih]
  rw [this]
theorem good_view (v : Int) (es : List Ed) (L : List Nm) : goodF v es (readF (L.filter (keepV v es))) = goodF v es (readF L) :=
  goodF_congr (readF_filter _ _ _ (fun x hx => by unfold keepV; simp [hx])) (fun e he => readF_filter _ _ _ (fun x hx => by
    unfold keepV
    rw [Bool.or_eq_true]
    exact .inr (List.any_eq_true.2 ⟨e, he, by simp [hx]⟩)))
theorem readF_at {L : List Nm} (hd : (L.map (·.1)).Nodup) {j : Nat} (hj : j < L.length) : readF L L[j].1 = if L[j].2.length = 3 then some ⟨L[j].2[0]?.getD 0, L[j].2[1]?.getD 0, L[j].2[2]?.getD 0⟩ else none := by
  have : L.find? (fun x => x.1 == L[j].1) = some L[j] := List.find?_eq_some_iff_getElem.2 ⟨by simp, j, hj, rfl, fun i hi => by
    have h := List.pairwise_iff_getElem.1 hd i j (by rw [List.length_map]; omega) (by rw [List.length_map]; omega) hi
    simpa using h⟩
  rw [readF_find, this]
theorem labF_ids (m : PM) (V : List Int) : (labF m V).map (·.1) = V := by
  unfold labF; rw [List.map_map]; exact List.map_id' V
theorem readF_own {g : Gr} (ho : g.ok = true) {v : Int} (hv : v ∈ keysV g.vs) : readF (labF (mF g) (keysV g.vs)) v = mF g v := by
  have h := readF_lab (mF g) (fun _ => true) v (keysV g.vs) hv (fun _ _ => rfl)
  rw [List.filter_eq_self.2 (fun _ _ => rfl)] at h
  obtain ⟨p, hp⟩ := (good_of ho).2.1.all v hv
  rw [h, hp, gp_some hp]
theorem all_good_iff {g : Gr} (ho : g.ok = true) {L : List Nm} (hids : L.map (·.1) = keysV g.vs) : (∀ v ∈ keysV g.vs, goodF v (atF g.es v) (readF L) = true) ↔ L = labF (mF g) (keysV g.vs) := by
  obtain ⟨G, M, _⟩ := good_of ho
  have hnd : (L.map (·.1)).Nodup := by rw [hids]; exact G.nodup
  constructor
  · intro h
    have hu := fun v hv => good_unique G h (fun v hv => own_good ho hv) (v := v) hv
    have hll : L.length = (keysV g.vs).length := by rw [← hids, List.length_map]
    refine List.ext_getElem (by unfold labF; rw [List.length_map]; exact hll) (fun j h1 h2 => ?_)
    have hj : j < (keysV g.vs).length := by omega
    have hid : L[j].1 = (keysV g.vs)[j] := by
      have : (L.map (·.1))[j]'(by rw [List.length_map]; exact h1) = (keysV g.vs)[j] := by simp only [hids]
      simpa using this
    have hr := readF_at hnd h1
    have hu2 := hu L[j].1 (by rw [hid]; exact List.getElem_mem hj)
    obtain ⟨p, hp⟩ := M.all L[j].1 (by rw [hid]; exact List.getElem_mem hj)
    rw [hu2, hp] at hr
    have hlab : (labF (mF g) (keysV g.vs))[j] = ((keysV g.vs)[j], [(gp (mF g) (keysV g.vs)[j]).root, (gp (mF g) (keysV g.vs)[j]).depth, (gp (mF g) (keysV g.vs)[j]).edge]) := by simp [labF]
    rw [hlab, ← hid, gp_some hp]
    generalize L[j] = x at *
    obtain ⟨a, l⟩ := x
    simp only at hr ⊢
    by_cases h3 : l.length = 3
    · rw [if_pos h3] at hr
      match l, h3 with
      | [x, y, z], _ =>
        injection hr with hr
        rw [hr]; rfl
    · rw [if_neg h3] at hr; cases hr
  · rintro rfl v hv
    rw [goodF_congr (m' := mF g) (readF_own ho hv) (fun e he => readF_own ho (other_mem G he))]
    exact own_good ho hv
theorem getD_ids (L : List Nm) (k : Nat) : ((L[k]?).getD (0, [])).1 = ((L.map (·.1))[k]?).getD 0 := by
  rw [List.getElem?_map]; cases L[k]? <;> rfl
theorem set_getD (l : List Int) (k : Nat) : l.set k ((l[k]?).getD 0) = l := by
  apply List.ext_getElem?
  intro j
  rw [List.getElem?_set]
  by_cases e : k = j
  · subst e
    rw [if_pos rfl]
    by_cases h : k < l.length
    · rw [if_pos h, List.getElem?_eq_getElem h]; rfl
    · rw [if_neg h, List.getElem?_eq_none (by omega)]
  · rw [if_neg e]
theorem bstep_ids (L : List Nm) (t : T3) : (bstep L t).map (·.1) = L.map (·.1) := by
  have h1 : ∀ (L : List Nm) k (y : Nm), y.1 = ((L[k]?).getD (0, [])).1 → (L.set k y).map (·.1) = L.map (·.1) := fun L k y hy => by
    rw [List.map_set, hy, getD_ids, set_getD]
  unfold bstep
  simp only
  have a := h1 L (pk t.1 L.length).toNat (((L[(pk t.1 L.length).toNat]?).getD (0, [])).1, ((L[(pk t.2.2 L.length).toNat]?).getD (0, [])).2) rfl
  split
  · split
    · exact h1 L _ (((L[(pk t.1 L.length).toNat]?).getD (0, [])).1, _) rfl
    · refine Eq.trans (h1 (L.set _ _) (pk t.2.2 L.length).toNat (((L[(pk t.2.2 L.length).toNat]?).getD (0, [])).1, _) ?_) a
      rw [getD_ids (L.set _ _), a, ← getD_ids]
  · split
    · exact h1 L _ (((L[(pk t.1 L.length).toNat]?).getD (0, [])).1, _) rfl
    · exact h1 L _ (((L[(pk t.1 L.length).toNat]?).getD (0, [])).1, _) rfl
theorem bent_ids (L : List Nm) (x : List T3) : (bentF L x).map (·.1) = L.map (·.1) := by
  unfold bentF
  generalize x.take 4 = l
  induction l generalizing L with
  | nil => rfl
  | cons t l ih => rw [List.foldl_cons, ih, bstep_ids]

end Go.Proofs.Ythmkmjkbfjhffaa
