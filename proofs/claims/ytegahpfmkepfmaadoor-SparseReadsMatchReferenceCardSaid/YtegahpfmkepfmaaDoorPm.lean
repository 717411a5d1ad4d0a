/- What a proved opening stands for, before and after changes. -/
import Derived.Test.YtegahpfmkepfmaaDoorPl
namespace Go.Proofs.YtegahpfmkepfmaaDoor
open Go.RowKit
theorem zipset (f : Nat → Str) (n : Nat) (l : List Nat) : ∀ (base : List Str) (p : Nat), base.length = n → (∀ x ∈ l, x < n) → ((l.zip (l.map f)).foldl (fun l p => l.set p.1 p.2) base).getD p [] = if p ∈ l then f p else base.getD p [] := by
  induction l with
  | nil => intro base p _ _; simp
  | cons x t ih =>
    intro base p hb hx
    rw [List.map_cons, List.zip_cons_cons, List.foldl_cons, ih _ p (by rw [List.length_set]; exact hb) (fun y hy => hx y (List.mem_cons_of_mem _ hy)), getD_set _ _ _ _ (by rw [hb]; exact hx x List.mem_cons_self)]
    by_cases hp : p ∈ t
    · rw [if_pos hp, if_pos (List.mem_cons_of_mem _ hp)]
    · rw [if_neg hp]
      by_cases hxp : x = p
      · subst hxp; rw [if_pos rfl, if_pos List.mem_cons_self]
      · rw [if_neg hxp, if_neg (fun h => (List.mem_cons.1 h).elim (fun e => hxp e.symm) hp)]
theorem emp2_at (p : Nat) : emp2.getD p [] = [] := by
  rw [List.getD_eq_getElem?_getD, emp2, List.getElem?_replicate]
  split <;> rfl
theorem cF_map (CL : List Nat) (f : Nat → Str) (p : Nat) (h : ∀ x ∈ CL, x < 128) : cF CL (CL.map f) p = if p ∈ CL then f p else [] := by
  unfold cF putT
  rw [zipset f 128 CL emp2 p (by simp [emp2]) h, emp2_at]
theorem tN_lt (ks : List Int) (h : ascB (-1) ks = true) : ∀ k ∈ tN ks, k < 64 := fun k hk => by
  simp only [tN, List.mem_map] at hk
  obtain ⟨x, hx, rfl⟩ := hk
  have := ascB_bd ks (-1) (by omega) h x hx; omega
theorem open_stands (l : List Ent) (ks : List Int) (V : List Str) (m : Nat → Str) (hk : ascB (-1) ks = true) (hin : ∀ k ∈ tN ks, vF V k = m k) (hout : ∀ k, k ∉ tN ks → vF (mapV l) k = m k) :
    standS ks (pathL l ks) V = E sha (fun _ => []) m 1 := by
  unfold standS
  have hlt : ∀ p ∈ closedL (tN ks), p < 128 := fun p hp => (closedL_bd _ p hp).2
  refine E_open sha (cF (closedL (tN ks)) (pathL l ks)) (vF (mapV l)) m (vF V) (tN ks) sha_len (tN_lt ks hk) (fun p hp => ?_) hin hout 6 1 (by omega) (by omega) (by omega) (by omega) (fun p hp => ?_)
  · unfold pathL
    rw [cF_map _ _ _ hlt, if_neg]
    intro h
    have := clF_op (tN ks) 6 1 p h
    rw [hp] at this; cases this
  · unfold pathL
    rw [cF_map _ _ _ hlt, if_pos (show p ∈ closedL (tN ks) from hp)]; rfl
theorem shownV_at (ks : List Int) (f : Nat → Str) (k : Nat) (h : ascB (-1) ks = true) : vF (shownV ks ((tN ks).map f)) k = if k ∈ tN ks then f k else [] := by
  unfold vF shownV putS
  rw [List.take_of_length_le (by rw [List.length_zip]; simp [tN]), zipset f 64 (tN ks) emp k rfl (tN_lt ks h)]
  have : emp.getD k [] = [] := vF_emp k
  rw [this]
theorem mapV_small (l : List Ent) (h : Mp l) (k : Nat) : (vF (mapV l) k).length ≤ 65536 := by
  unfold vF
  rw [List.getD_eq_getElem?_getD]
  cases e : (mapV l)[k]? with
  | none => simp
  | some s => exact putV_small l 65536 emp (emp_small _) (fun e he => (h.1 e he).2.2.2) s (List.mem_of_getElem? e)
/-- the opening of a map is formed -/
theorem proved_formed (l : List Ent) (ks : List Int) (h : Mp l) (hk : ascB (-1) ks = true) : formB ks (valsL l ks) (pathL l ks) = true := by
  unfold formB
  have h2 : (valsL l ks).length = ks.length := by simp [valsL, tN]
  have h4 : (pathL l ks).length = (closedL (tN ks)).length := by simp [pathL]
  have h3 : (valsL l ks).any tl = false := by
    rw [List.any_eq_false]
    intro s hs
    simp only [valsL, List.mem_map] at hs
    obtain ⟨k, _, rfl⟩ := hs
    have := mapV_small l h k
    simp [tl]; omega
  have h5 : (pathL l ks).any noD = false := by
    rw [List.any_eq_false]
    intro s hs
    simp only [pathL, List.mem_map] at hs
    obtain ⟨p, hp, rfl⟩ := hs
    have := E_len sha sha_len (vF (mapV l)) p (closedL_bd _ p hp).1
    simp [noD, partV, this]
  rw [hk, h2, h3, h4, h5]; simp
/-- and stands for its root -/
theorem proved_stands (l : List Ent) (ks : List Int) (hk : ascB (-1) ks = true) : standS ks (pathL l ks) (shownV ks (valsL l ks)) = rootL l := by
  unfold valsL
  rw [open_stands l ks _ (vF (mapV l)) hk (fun k h => by rw [shownV_at ks _ k hk, if_pos h]) (fun k _ => rfl)]; rfl
theorem proved_shown (l : List Ent) (ks : List Int) (h : Mp l) (hk : ascB (-1) ks = true) : shownB (rootL l) ks (valsL l ks) (pathL l ks) = true := by
  unfold shownB
  rw [proved_formed l ks h hk, proved_stands l ks hk]; simp
/-- with other values at the keys it stands for the root of the map that has them -/
theorem changed_stands (l m : List Ent) (ks : List Int) (ch : List Ent) (hm : Mp m) (hl : Mp l) (hk : ascB (-1) ks = true) (hc : chgB ch = true)
    (hin : ∀ k : Nat, k ∈ tN ks → (if (∃ e ∈ ch, e.1 = (k : Int)) then lookE ch k else lookE l k) = lookE m k) (hout : ∀ k : Nat, k ∉ tN ks → lookE l k = lookE m k) :
    standS ks (pathL l ks) (putV (shownV ks (valsL l ks)) ch) = rootL m := by
  have hcf := chgB_facts ch hc
  have hcp : (ch.map Prod.fst).Pairwise (· < ·) := by
    unfold chgB at hc
    simp only [Bool.and_eq_true] at hc
    exact ((ascB_iff _ _).1 hc.1).2
  rw [open_stands l ks _ (vF (mapV m)) hk (fun k h => ?_) (fun k h => by rw [vF_map l k hl, vF_map m k hm]; exact hout k h)]
  · rfl
  · rw [vF_putV ch (shownV ks (valsL l ks)) k (show (shownV ks (valsL l ks)).length = 64 from putS_len _ _ _) hcf.2.1 hcp, vF_map m k hm, ← hin k h]
    unfold valsL
    rw [shownV_at ks _ k hk, if_pos h, vF_map l k hl]
end Go.Proofs.YtegahpfmkepfmaaDoor
