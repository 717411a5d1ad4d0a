/- Plain facts for SparseComplete and SparseUpdates: what Read returns of a proved opening; a map with several keys put. -/
import Derived.Test.YtegahpfmkepfmaaDoorOl
import Derived.Test.YtegahpfmkepfmaaDoorCm
namespace Go.Proofs.YtegahpfmkepfmaaDoor
open Go.RowKit
theorem filt_at {α : Type} (p : α → Bool) (l : List α) (n : Nat) (h : n < l.length) (hp : p l[n] = true) : (l.filter p)[((l.take n).filter p).length]? = some l[n] := by
  have e : l.filter p = (l.take n).filter p ++ l[n] :: (l.drop (n + 1)).filter p := by
    conv => lhs; rw [← List.take_append_drop n l, List.drop_eq_getElem_cons h]
    rw [List.filter_append, List.filter_cons_of_pos hp]
  rw [e, List.getElem?_append_right (Nat.le_refl _), Nat.sub_self]; rfl
theorem filt_up {α : Type} (p : α → Bool) (l : List α) (n : Nat) (h : n < l.length) : ((l.take (n + 1)).filter p).length = ((l.take n).filter p).length + (if p l[n] = true then 1 else 0) := by
  rw [List.take_succ_eq_append_getElem h, List.filter_append, List.length_append]
  congr 1
  rw [List.filter_cons]
  split <;> rfl
def hasB (L : List Ent) (k : Int) : Bool := !(lookE L k).isEmpty
def noB (L : List Ent) (k : Int) : Bool := (lookE L k).isEmpty
def foundE (L : List Ent) (ks : List Int) : List Ent := (ks.filter (hasB L)).map fun k => (k, lookE L k)
def foundA (L : List Ent) (ks : List Int) : List Int := ks.filter (noB L)
theorem found_len (L : List Ent) (ks : List Int) : (foundE L ks).length + (foundA L ks).length = ks.length := by
  unfold foundE foundA
  rw [List.length_map]
  induction ks with
  | nil => rfl
  | cons k t ih =>
    rw [List.filter_cons, List.filter_cons]
    cases h : (lookE L k).isEmpty with
    | true =>
      rw [if_neg (by rw [hasB, h]; exact Bool.false_ne_true), if_pos (by rw [noB, h]), List.length_cons, List.length_cons]; omega
    | false =>
      rw [if_pos (by rw [hasB, h]; rfl), if_neg (by rw [noB, h]; exact Bool.false_ne_true), List.length_cons, List.length_cons]; omega
theorem shown_look (L : List Ent) (ks : List Int) (hl : Mp L) (hk : ascB (-1) ks = true) (k : Int) (h : k ∈ ks) : vF (shownV ks (valsL L ks)) k.toNat = lookE L k := by
  have hb := ascB_bd ks (-1) (by omega) hk k h
  unfold valsL
  rw [shownV_at ks _ k.toNat hk, if_pos (show k.toNat ∈ tN ks from List.mem_map.2 ⟨k, h, rfl⟩), vF_map L _ hl]
  congr 1; omega
theorem rdE_found (L : List Ent) (ks : List Int) (hl : Mp L) (hk : ascB (-1) ks = true) : rdE (shownV ks (valsL L ks)) ks = foundE L ks := by
  have e := shown_look L ks hl hk
  generalize shownV ks (valsL L ks) = V at e
  unfold rdE foundE
  have h1 : ks.filter (fun k => !(vF V k.toNat).isEmpty) = ks.filter (hasB L) := List.filter_congr fun k h => by rw [e k h]; rfl
  rw [h1]
  refine List.map_congr_left fun k h => ?_
  rw [e k (List.mem_filter.1 h).1]
theorem rdA_found (L : List Ent) (ks : List Int) (hl : Mp L) (hk : ascB (-1) ks = true) : rdA (shownV ks (valsL L ks)) ks = foundA L ks := by
  have e := shown_look L ks hl hk
  generalize shownV ks (valsL L ks) = V at e
  unfold rdA foundA
  exact List.filter_congr fun k h => by rw [e k h]; rfl
/-- how far the two cursors are -/
def curE (L : List Ent) (ks : List Int) (n : Nat) : Nat := ((ks.take n).filter (hasB L)).length
def curA (L : List Ent) (ks : List Int) (n : Nat) : Nat := ((ks.take n).filter (noB L)).length
theorem cur_no (L : List Ent) (ks : List Int) (n : Nat) (h : n < ks.length) (he : lookE L ks[n] = []) :
    curE L ks (n + 1) = curE L ks n ∧ curA L ks (n + 1) = curA L ks n + 1 ∧ (foundA L ks)[curA L ks n]? = some ks[n] := by
  refine ⟨?_, ?_, filt_at _ _ _ h (by simp [noB, he])⟩
  · unfold curE; rw [filt_up _ _ _ h, if_neg (by simp [hasB, he])]; rfl
  · unfold curA; rw [filt_up _ _ _ h, if_pos (by simp [noB, he])]
theorem cur_yes (L : List Ent) (ks : List Int) (n : Nat) (h : n < ks.length) (he : lookE L ks[n] ≠ []) :
    curE L ks (n + 1) = curE L ks n + 1 ∧ curA L ks (n + 1) = curA L ks n ∧ (foundE L ks)[curE L ks n]? = some (ks[n], lookE L ks[n]) := by
  refine ⟨?_, ?_, ?_⟩
  · unfold curE; rw [filt_up _ _ _ h, if_pos (by simp [hasB, he])]
  · unfold curA; rw [filt_up _ _ _ h, if_neg (by simp [noB, he])]; rfl
  · unfold foundE curE
    rw [List.getElem?_map, filt_at (hasB L) ks n h (by simp [hasB, he])]; rfl
/-- Read of a proved opening -/
theorem ReadC (l : List Ent) (ks : List Int) (vo : Value) (W : World) (hl : Mp l) (hk : ascB (-1) ks = true) (ho : OpV W vo ks (valsL l ks) (pathL l ks)) (hT : Tab W) :
    Calls Tryd.prog 23 #[.string ⟨(rootL l).toArray⟩, vo] W (RdYes (foundE l ks) (foundA l ks) W) := by
  have hkl := ascB_len ks (-1) (by omega) (by omega) hk
  have hpl : (pathL l ks).length ≤ 64 := by unfold pathL; rw [List.length_map]; exact clF_size _ 6 1
  have hvl : (valsL l ks).length = ks.length := by simp [valsL, tN]
  refine (Read_any (rootL l) vo ks (valsL l ks) (pathL l ks) W rfl ho (by omega) (by omega) (by omega) hT).mono ?_
  rintro e w' (⟨h, _⟩ | ⟨_, t, a, rfl, h1, h2, h3⟩)
  · rw [proved_shown l ks hl hk] at h; cases h
  · rw [rdE_found l ks hl hk] at h1
    rw [rdA_found l ks hl hk] at h2
    exact ⟨t, a, rfl, h1, h2, h3⟩
/-- several keys put -/
def putL (L : List Ent) (c : List Ent) : List Ent := c.foldl (fun m e => putE m e.1 e.2) L
theorem putL_facts (c : List Ent) : ∀ (L : List Ent), Mp L → (c.map Prod.fst).Pairwise (· < ·) → (∀ e ∈ c, 0 ≤ e.1 ∧ e.1 < 64 ∧ e.2.length ≤ 65536) →
    Mp (putL L c) ∧ ∀ j : Int, lookE (putL L c) j = if (∃ e ∈ c, e.1 = j) then lookE c j else lookE L j := by
  induction c with
  | nil => intro L h _ _; exact ⟨h, fun j => by simp [putL]⟩
  | cons e t ih =>
    intro L h hp hb
    rw [List.map_cons, List.pairwise_cons] at hp
    have he := hb e List.mem_cons_self
    obtain ⟨h1, h2⟩ := ih (putE L e.1 e.2) (putE_mp L e.1 e.2 h he.1 he.2.1 he.2.2) hp.2 (fun x hx => hb x (List.mem_cons_of_mem _ hx))
    refine ⟨h1, fun j => ?_⟩
    have h3 : lookE (putL L (e :: t)) j = _ := h2 j
    rw [h3, lookE_putE L e.1 j e.2 h, lookE]
    by_cases hj : e.1 = j
    · have hno : ¬ ∃ x ∈ t, x.1 = j := fun ⟨x, hx, hxj⟩ => by
        have := hp.1 x.1 (List.mem_map.2 ⟨x, hx, rfl⟩); omega
      rw [if_neg hno, if_pos hj.symm, if_pos ⟨e, List.mem_cons_self, hj⟩, if_pos hj]
    · rw [if_neg (show ¬ j = e.1 from fun h => hj h.symm), if_neg hj]
      by_cases ht : ∃ x ∈ t, x.1 = j
      · rw [if_pos ht, if_pos (by obtain ⟨x, hx, hxk⟩ := ht; exact ⟨x, List.mem_cons_of_mem _ hx, hxk⟩)]
      · rw [if_neg ht, if_neg]
        rintro ⟨x, hx, hxk⟩
        rcases List.mem_cons.1 hx with rfl | hx
        · exact hj hxk
        · exact ht ⟨x, hx, hxk⟩
theorem putL_snoc (L : List Ent) (c : List Ent) (n : Nat) (h : n < c.length) : putL L (c.take (n + 1)) = putE (putL L (c.take n)) c[n].1 c[n].2 := by
  unfold putL
  rw [List.take_succ_eq_append_getElem h, List.foldl_append]; rfl
theorem putL_len (c : List Ent) : ∀ L : List Ent, Mp L → (∀ e ∈ c, 0 ≤ e.1 ∧ e.1 < 64 ∧ e.2.length ≤ 65536) → Mp (putL L c) := by
  induction c with
  | nil => intro L h _; exact h
  | cons e t ih =>
    intro L h hb
    have he := hb e List.mem_cons_self
    exact ih (putE L e.1 e.2) (putE_mp L e.1 e.2 h he.1 he.2.1 he.2.2) (fun x hx => hb x (List.mem_cons_of_mem _ hx))
/-- changes at the first keys, and the values that are there -/
def chgL (ks : List Int) (us : List Str) : List Ent := ks.zip us
def backL (L : List Ent) (c : List Ent) : List Ent := c.map fun e => (e.1, lookE L e.1)
theorem zip_asc (us : List Str) : ∀ (ks : List Int) (last : Int), ascB last ks = true → ascB last ((ks.zip us).map Prod.fst) = true := by
  induction us with
  | nil => intro ks last _; simp [ascB]
  | cons u t ih =>
    intro ks last h
    cases ks with
    | nil => rfl
    | cons k ks =>
      simp only [ascB, Bool.and_eq_true] at h
      simp only [List.zip_cons_cons, List.map_cons, ascB, Bool.and_eq_true]
      exact ⟨h.1, ih ks k h.2⟩
theorem zip_in (ks : List Int) (us : List Str) (e : Ent) (h : e ∈ ks.zip us) : e.1 ∈ ks ∧ e.2 ∈ us := by
  obtain ⟨a, b⟩ := e
  exact List.of_mem_zip h
theorem chgL_ok (ks : List Int) (us : List Str) (hk : ascB (-1) ks = true) (hu : ∀ s ∈ us, List.length s ≤ 65536) : chgB (chgL ks us) = true := by
  unfold chgB chgL
  rw [zip_asc us ks (-1) hk]
  simp only [Bool.true_and, Bool.not_eq_true', List.any_eq_false]
  intro e he
  have := hu _ (zip_in ks us e he).2
  simp [tlE, tl]; omega
theorem backL_ok (L : List Ent) (ks : List Int) (us : List Str) (hl : Mp L) (hk : ascB (-1) ks = true) : chgB (backL L (chgL ks us)) = true := by
  unfold chgB backL chgL
  rw [List.map_map, show (Prod.fst ∘ fun e : Ent => (e.1, lookE L e.1)) = Prod.fst from rfl, zip_asc us ks (-1) hk]
  simp only [Bool.true_and, Bool.not_eq_true', List.any_eq_false]
  intro e he
  obtain ⟨x, hx, rfl⟩ := List.mem_map.1 he
  have hin := (zip_in ks us x hx).1
  have hb := ascB_bd ks (-1) (by omega) hk x.1 hin
  have := mapV_small L hl x.1.toNat
  rw [vF_map L _ hl] at this
  rw [show ((x.1.toNat : Nat) : Int) = x.1 by omega] at this
  simp [tlE, tl]; omega
theorem look_back (L : List Ent) (c : List Ent) (j : Int) (h : ∃ e ∈ c, e.1 = j) : lookE (backL L c) j = lookE L j := by
  induction c with
  | nil => obtain ⟨e, he, _⟩ := h; cases he
  | cons e t ih =>
    have : backL L (e :: t) = (e.1, lookE L e.1) :: backL L t := rfl
    rw [this, lookE]
    by_cases hj : e.1 = j
    · subst hj; rw [if_pos rfl]
    · rw [if_neg hj]
      refine ih ?_
      obtain ⟨x, hx, hxj⟩ := h
      rcases List.mem_cons.1 hx with rfl | hx
      · exact absurd hxj hj
      · exact ⟨x, hx, hxj⟩
theorem back_keys (L : List Ent) (c : List Ent) (j : Int) : (∃ e ∈ backL L c, e.1 = j) ↔ ∃ e ∈ c, e.1 = j := by
  unfold backL
  constructor
  · rintro ⟨e, he, hj⟩
    obtain ⟨x, hx, rfl⟩ := List.mem_map.1 he
    exact ⟨x, hx, hj⟩
  · rintro ⟨e, he, hj⟩
    exact ⟨_, List.mem_map.2 ⟨e, he, rfl⟩, hj⟩
/-- the three updates of SparseUpdates -/
theorem upd_facts (L : List Ent) (ks : List Int) (us : List Str) (hl : Mp L) (hk : ascB (-1) ks = true) (hu : ∀ s ∈ us, List.length s ≤ 65536) :
    Mp (putL L (chgL ks us)) ∧ (∀ e ∈ chgL ks us, e.1 ∈ ks) ∧ (∀ e ∈ backL L (chgL ks us), e.1 ∈ ks) ∧
    (∀ j : Int, lookE (putL L (chgL ks us)) j = if (∃ e ∈ chgL ks us, e.1 = j) then lookE (chgL ks us) j else lookE L j) ∧
    (∀ j : Int, lookE L j = if (∃ e ∈ backL L (chgL ks us), e.1 = j) then lookE (backL L (chgL ks us)) j else lookE L j) ∧
    (∀ j : Int, lookE L j = if (∃ e ∈ backL L (chgL ks us), e.1 = j) then lookE (backL L (chgL ks us)) j else lookE (putL L (chgL ks us)) j) := by
  have hasc := zip_asc us ks (-1) hk
  have hin : ∀ e ∈ chgL ks us, e.1 ∈ ks := fun e he => (zip_in ks us e he).1
  obtain ⟨h1, h2⟩ := putL_facts (chgL ks us) L hl ((ascB_iff _ _).1 hasc).2 (fun e he => by
    have hb := ascB_bd ks (-1) (by omega) hk e.1 (hin e he)
    exact ⟨by omega, hb.2, hu _ (zip_in ks us e he).2⟩)
  refine ⟨h1, hin, fun e he => ?_, h2, fun j => ?_, fun j => ?_⟩
  · obtain ⟨x, hx, rfl⟩ := List.mem_map.1 he
    exact hin x hx
  · by_cases h : ∃ e ∈ backL L (chgL ks us), e.1 = j
    · rw [if_pos h, look_back L _ j ((back_keys L _ j).1 h)]
    · rw [if_neg h]
  · by_cases h : ∃ e ∈ backL L (chgL ks us), e.1 = j
    · rw [if_pos h, look_back L _ j ((back_keys L _ j).1 h)]
    · rw [if_neg h, h2 j, if_neg (fun g => h ((back_keys L _ j).2 g))]
end Go.Proofs.YtegahpfmkepfmaaDoor
