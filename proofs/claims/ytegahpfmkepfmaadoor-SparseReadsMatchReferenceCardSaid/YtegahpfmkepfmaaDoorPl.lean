/- Plain facts: maps as lists of entries, what is at a key, a value put at a key; what a proved opening stands for. -/
import Derived.Test.YtegahpfmkepfmaaDoorRd
namespace Go.Proofs.YtegahpfmkepfmaaDoor
open Go.RowKit
theorem ascB_iff (l : List Int) : ∀ last : Int, ascB last l = true ↔ (∀ x ∈ l, last < x ∧ x < 64) ∧ l.Pairwise (· < ·) := by
  induction l with
  | nil => intro last; simp [ascB]
  | cons a t ih =>
    intro last
    simp only [ascB, Bool.and_eq_true, decide_eq_true_eq, ih a, List.mem_cons, List.pairwise_cons]
    constructor
    · rintro ⟨⟨h1, h2⟩, h3, h4⟩
      refine ⟨fun x hx => ?_, fun x hx => (h3 x hx).1, h4⟩
      rcases hx with rfl | hx
      · exact ⟨h1, h2⟩
      · have := h3 x hx; omega
    · rintro ⟨h1, h2, h3⟩
      exact ⟨h1 a (.inl rfl), fun x hx => ⟨h2 x hx, (h1 x (.inr hx)).2⟩, h3⟩
/-- a map, as a proposition -/
def Mp (l : List Ent) : Prop := (∀ e ∈ l, 0 ≤ e.1 ∧ e.1 < 64 ∧ e.2 ≠ [] ∧ e.2.length ≤ 65536) ∧ (l.map Prod.fst).Pairwise (· < ·)
theorem mapB_iff (l : List Ent) : mapB l = true ↔ Mp l := by
  unfold mapB chgB Mp
  simp only [Bool.and_eq_true, Bool.not_eq_true', List.any_eq_false, ascB_iff]
  constructor
  · rintro ⟨⟨⟨h1, h2⟩, h3⟩, h4⟩
    refine ⟨fun e he => ?_, h2⟩
    have a := h1 e.1 (List.mem_map.2 ⟨e, he, rfl⟩)
    have b := h3 e he
    have c := h4 e he
    simp [tlE, tl] at b
    refine ⟨by omega, a.2, fun hn => ?_, by omega⟩
    simp [noV, hn] at c
  · rintro ⟨h1, h2⟩
    refine ⟨⟨⟨fun x hx => ?_, h2⟩, fun e he => ?_⟩, fun e he => ?_⟩
    · obtain ⟨e, he, rfl⟩ := List.mem_map.1 hx
      have := h1 e he; omega
    · have := h1 e he; simp [tlE, tl]; omega
    · have := h1 e he; simp [noV]; exact this.2.2.1
/-- what is at a key -/
def lookE : List Ent → Int → Str
  | [], _ => []
  | e :: t, k => if e.1 = k then e.2 else lookE t k
theorem lookE_none (l : List Ent) (k : Int) (h : ∀ e ∈ l, e.1 ≠ k) : lookE l k = [] := by
  induction l with
  | nil => rfl
  | cons e t ih => rw [lookE, if_neg (h e List.mem_cons_self), ih (fun x hx => h x (List.mem_cons_of_mem _ hx))]
theorem lookE_append (l m : List Ent) (k : Int) (h : ∀ e ∈ l, e.1 ≠ k) : lookE (l ++ m) k = lookE m k := by
  induction l with
  | nil => rfl
  | cons e t ih => rw [List.cons_append, lookE, if_neg (h e List.mem_cons_self), ih (fun x hx => h x (List.mem_cons_of_mem _ hx))]
theorem vF_set (V : List Str) (i j : Nat) (s : Str) (h : i < V.length) : vF (V.set i s) j = if i = j then s else vF V j := getD_set V i j s h
theorem vF_putV (l : List Ent) : ∀ (V : List Str) (k : Nat), V.length = 64 → (∀ e ∈ l, 0 ≤ e.1 ∧ e.1 < 64) → (l.map Prod.fst).Pairwise (· < ·) →
    vF (putV V l) k = if (∃ e ∈ l, e.1 = (k : Int)) then lookE l k else vF V k := by
  induction l with
  | nil => intro V k _ _ _; simp [putV]
  | cons e t ih =>
    intro V k hV hb hp
    rw [List.map_cons, List.pairwise_cons] at hp
    have he := hb e List.mem_cons_self
    have hs : putV V (e :: t) = putV (V.set e.1.toNat e.2) t := rfl
    rw [hs, ih _ k (by rw [List.length_set]; exact hV) (fun x hx => hb x (List.mem_cons_of_mem _ hx)) hp.2, vF_set _ _ _ _ (by omega), lookE]
    by_cases hk : e.1 = (k : Int)
    · have hno : ¬ ∃ x ∈ t, x.1 = (k : Int) := fun ⟨x, hx, hxk⟩ => by
        have := hp.1 x.1 (List.mem_map.2 ⟨x, hx, rfl⟩); omega
      rw [if_neg hno, if_pos (show e.1.toNat = k by omega), if_pos ⟨e, List.mem_cons_self, hk⟩, if_pos hk]
    · rw [if_neg (show ¬ e.1.toNat = k by omega), if_neg hk]
      by_cases ht : ∃ x ∈ t, x.1 = (k : Int)
      · rw [if_pos ht, if_pos (by obtain ⟨x, hx, hxk⟩ := ht; exact ⟨x, List.mem_cons_of_mem _ hx, hxk⟩)]
      · rw [if_neg ht, if_neg]
        rintro ⟨x, hx, hxk⟩
        rcases List.mem_cons.1 hx with rfl | hx
        · exact hk hxk
        · exact ht ⟨x, hx, hxk⟩
theorem vF_emp (k : Nat) : vF emp k = [] := by
  unfold vF emp
  rw [List.getD_eq_getElem?_getD, List.getElem?_replicate]
  split <;> rfl
theorem vF_map (l : List Ent) (k : Nat) (h : Mp l) : vF (mapV l) k = lookE l k := by
  unfold mapV
  rw [vF_putV l emp k rfl (fun e he => ⟨(h.1 e he).1, (h.1 e he).2.1⟩) h.2]
  by_cases hk : ∃ e ∈ l, e.1 = (k : Int)
  · rw [if_pos hk]
  · rw [if_neg hk, vF_emp, lookE_none l k (fun e he e2 => hk ⟨e, he, e2⟩)]

/-- a value put at a key, as the reference goes -/
def putStep (k : Int) (v : Str) (r : List Ent × Bool) (e : Ent) : List Ent × Bool :=
  let a := if k < e.1 ∧ r.2 = false then (r.1 ++ [(k, v)], true) else r
  if e.1 ≠ k then (a.1 ++ [e], a.2) else a
def putE (l : List Ent) (k : Int) (v : Str) : List Ent := if (l.foldl (putStep k v) ([], v.isEmpty)).2 = true then (l.foldl (putStep k v) ([], v.isEmpty)).1 else (l.foldl (putStep k v) ([], v.isEmpty)).1 ++ [(k, v)]
theorem put_done (k : Int) (v : Str) (l : List Ent) : ∀ acc, l.foldl (putStep k v) (acc, true) = (acc ++ l.filter (fun e => e.1 ≠ k), true) := by
  induction l with
  | nil => intro acc; simp
  | cons e t ih =>
    intro acc
    rw [List.foldl_cons]
    have : putStep k v (acc, true) e = (acc ++ (if e.1 ≠ k then [e] else []), true) := by
      unfold putStep; simp; split <;> simp
    rw [this, ih, List.filter_cons]
    by_cases h : e.1 = k <;> simp [h]
theorem put_low (k : Int) (v : Str) (l : List Ent) (h : ∀ e ∈ l, e.1 ≤ k) : ∀ acc, l.foldl (putStep k v) (acc, false) = (acc ++ l.filter (fun e => e.1 ≠ k), false) := by
  induction l with
  | nil => intro acc; simp
  | cons e t ih =>
    intro acc
    have he := h e List.mem_cons_self
    rw [List.foldl_cons]
    have : putStep k v (acc, false) e = (acc ++ (if e.1 ≠ k then [e] else []), false) := by
      unfold putStep
      dsimp only
      rw [if_neg (show ¬ (k < e.1 ∧ false = false) from fun h => by omega)]
      split <;> simp
    rw [this, ih (fun x hx => h x (List.mem_cons_of_mem _ hx)), List.filter_cons]
    by_cases h : e.1 = k <;> simp [h]
theorem put_high (k : Int) (v : Str) (l : List Ent) (h : ∀ e ∈ l, k < e.1) (hne : l ≠ []) (acc : List Ent) : l.foldl (putStep k v) (acc, false) = (acc ++ [(k, v)] ++ l, true) := by
  cases l with
  | nil => exact absurd rfl hne
  | cons e t =>
    have he := h e List.mem_cons_self
    rw [List.foldl_cons]
    have : putStep k v (acc, false) e = (acc ++ [(k, v)] ++ [e], true) := by
      unfold putStep
      dsimp only
      rw [if_pos (show k < e.1 ∧ false = false from ⟨he, rfl⟩), if_pos (show e.1 ≠ k by omega)]
    rw [this, put_done]
    have : t.filter (fun e => e.1 ≠ k) = t := List.filter_eq_self.2 (fun x hx => by have := h x (List.mem_cons_of_mem _ hx); simp; omega)
    rw [this]; simp
/-- of ascending entries: those before the key, the value if there is one, those behind the key -/
theorem putE_eq (l : List Ent) (k : Int) (v : Str) (h : (l.map Prod.fst).Pairwise (· < ·)) :
    putE l k v = l.filter (fun e => e.1 < k) ++ ((if v = [] then [] else [(k, v)]) ++ l.filter (fun e => k < e.1)) := by
  have hsplit : l = l.filter (fun e => e.1 ≤ k) ++ l.filter (fun e => k < e.1) := by
    induction l with
    | nil => rfl
    | cons e t ih =>
      rw [List.map_cons, List.pairwise_cons] at h
      have ht := ih h.2
      by_cases he : e.1 ≤ k
      · rw [List.filter_cons_of_pos (by simpa using he), List.filter_cons_of_neg (by simp; omega), List.cons_append, ← ht]
      · have hall : t.filter (fun e => e.1 ≤ k) = [] := List.filter_eq_nil_iff.2 (fun x hx => by have := h.1 x.1 (List.mem_map.2 ⟨x, hx, rfl⟩); simp; omega)
        rw [List.filter_cons_of_neg (by simpa using he), List.filter_cons_of_pos (by simp; omega), hall, List.nil_append]
        rw [hall, List.nil_append] at ht
        rw [← ht]
  have hlow : (l.filter (fun e => e.1 ≤ k)).filter (fun e => e.1 ≠ k) = l.filter (fun e => e.1 < k) := by
    rw [List.filter_filter]
    apply List.filter_congr
    intro e _
    rw [Bool.eq_iff_iff]; simp; omega
  have hhigh : (l.filter (fun e => k < e.1)).filter (fun e => e.1 ≠ k) = l.filter (fun e => k < e.1) := by
    rw [List.filter_filter]
    apply List.filter_congr
    intro e _
    rw [Bool.eq_iff_iff]; simp; omega
  have hle : ∀ e ∈ l.filter (fun e => e.1 ≤ k), e.1 ≤ k := fun e he => by simpa using (List.mem_filter.1 he).2
  have hgt : ∀ e ∈ l.filter (fun e => k < e.1), k < e.1 := fun e he => by simpa using (List.mem_filter.1 he).2
  have hf : l.foldl (putStep k v) ([], v.isEmpty) = (l.filter (fun e => k < e.1)).foldl (putStep k v) ((l.filter (fun e => e.1 ≤ k)).foldl (putStep k v) ([], v.isEmpty)) := by
    rw [← List.foldl_append, ← hsplit]
  unfold putE
  rw [hf]
  by_cases hv : v = []
  · subst hv
    rw [show List.isEmpty ([] : Str) = true from rfl, put_done, put_done, hlow, hhigh]
    simp
  · rw [show List.isEmpty v = false from not_empty hv, put_low k v _ hle, hlow, List.nil_append, if_neg hv]
    by_cases hn : l.filter (fun e => k < e.1) = []
    · rw [hn]; simp
    · rw [put_high k v _ hgt hn]; simp
theorem putE_mp (l : List Ent) (k : Int) (v : Str) (h : Mp l) (h0 : 0 ≤ k) (h1 : k < 64) (hv : v.length ≤ 65536) : Mp (putE l k v) := by
  rw [putE_eq l k v h.2]
  have hp := List.pairwise_map.1 h.2
  constructor
  · intro e he
    simp only [List.mem_append] at he
    rcases he with he | he | he
    · exact h.1 e (List.mem_filter.1 he).1
    · split at he
      · cases he
      · rename_i hn; simp at he; subst he; exact ⟨h0, h1, hn, hv⟩
    · exact h.1 e (List.mem_filter.1 he).1
  · rw [List.pairwise_map, List.pairwise_append, List.pairwise_append]
    refine ⟨hp.filter _, ⟨by split <;> simp, hp.filter _, fun a ha b hb => ?_⟩, fun a ha b hb => ?_⟩
    · have hb2 := (List.mem_filter.1 hb).2
      split at ha
      · cases ha
      · simp at ha hb2; subst ha; exact hb2
    · have ha2 := (List.mem_filter.1 ha).2
      rcases List.mem_append.1 hb with hb | hb
      · split at hb
        · cases hb
        · simp at hb ha2; subst hb; exact ha2
      · have hb2 := (List.mem_filter.1 hb).2
        simp at ha2 hb2; omega
theorem lookE_filter (l : List Ent) (p : Ent → Bool) (j : Int) (h : ∀ e ∈ l, e.1 = j → p e = true) : lookE (l.filter p) j = lookE l j := by
  induction l with
  | nil => rfl
  | cons e t ih =>
    have iht := ih (fun x hx => h x (List.mem_cons_of_mem _ hx))
    by_cases he : e.1 = j
    · rw [List.filter_cons_of_pos (h e List.mem_cons_self he), lookE, lookE, if_pos he, if_pos he]
    · rw [List.filter_cons]
      split
      · rw [lookE, lookE, if_neg he, if_neg he, iht]
      · rw [lookE, if_neg he, iht]
theorem lookE_putE (l : List Ent) (k j : Int) (v : Str) (h : Mp l) : lookE (putE l k v) j = if j = k then v else lookE l j := by
  rw [putE_eq l k v h.2]
  by_cases hj : j = k
  · subst hj
    rw [if_pos rfl, lookE_append _ _ _ (fun e he => by have := (List.mem_filter.1 he).2; simp at this; omega)]
    by_cases hv : v = []
    · rw [if_pos hv, List.nil_append, lookE_none _ _ (fun e he => by have := (List.mem_filter.1 he).2; simp at this; omega), hv]
    · rw [if_neg hv, List.cons_append, lookE, if_pos rfl]
  · rw [if_neg hj]
    have hmid : ∀ e ∈ (if v = [] then [] else [((k : Int), v)] : List Ent), e.1 ≠ j := fun e he => by
      split at he
      · cases he
      · simp at he; subst he; exact fun e => hj e.symm
    by_cases hlt : j < k
    · have h2 : lookE (l.filter (fun e => e.1 < k)) j = lookE l j := lookE_filter l _ j (fun e _ he => by simp; omega)
      rw [← h2]
      have h3 : lookE ((if v = [] then [] else [(k, v)]) ++ l.filter (fun e => k < e.1)) j = [] := by
        rw [lookE_append _ _ _ hmid]; exact lookE_none _ _ (fun e he => by have := (List.mem_filter.1 he).2; simp at this; omega)
      generalize l.filter (fun e => e.1 < k) = A
      generalize ((if v = [] then [] else [(k, v)]) ++ l.filter (fun e => k < e.1)) = B at h3
      induction A with
      | nil => rw [List.nil_append, h3]; rfl
      | cons e t ih => rw [List.cons_append, lookE, lookE, ih]
    · rw [lookE_append _ _ _ (fun e he => by have := (List.mem_filter.1 he).2; simp at this; omega), lookE_append _ _ _ hmid]
      exact lookE_filter l _ j (fun e _ he => by simp; omega)
theorem putE_len (l : List Ent) (k : Int) (v : Str) : (putE l k v).length ≤ 2 * l.length + 1 := by
  have key : ∀ (l : List Ent) (r : List Ent × Bool), (l.foldl (putStep k v) r).1.length ≤ r.1.length + 2 * l.length := by
    intro l
    induction l with
    | nil => intro r; simp
    | cons e t ih =>
      intro r
      rw [List.foldl_cons]
      have h1 := ih (putStep k v r e)
      have h2 : (putStep k v r e).1.length ≤ r.1.length + 2 := by
        unfold putStep; dsimp only
        split <;> split <;> simp
      simp only [List.length_cons]; omega
  have := key l ([], v.isEmpty)
  unfold putE
  split <;> simp at * <;> omega
end Go.Proofs.YtegahpfmkepfmaaDoor
