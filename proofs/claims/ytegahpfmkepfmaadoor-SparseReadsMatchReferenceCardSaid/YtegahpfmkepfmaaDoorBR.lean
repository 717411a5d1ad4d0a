/- What is hashed for the root of a map; the way out. -/
import Derived.Test.YtegahpfmkepfmaaDoorRB
import Derived.Test.YtegahpfmkepfmaaDoorPm
import Derived.Test.YtegahpfmkepfmaaDoorMad
namespace Go.Proofs.YtegahpfmkepfmaaDoor
open Go.RowKit
theorem lookE_in (l : List Ent) (k : Int) (h : lookE l k ≠ []) : ∃ e ∈ l, e.1 = k := by
  by_cases g : ∃ e ∈ l, e.1 = k
  · exact g
  · exact absurd (lookE_none l k fun e he hk => g ⟨e, he, hk⟩) h
theorem Mp.tail {e : Ent} {t : List Ent} (h : Mp (e :: t)) : Mp t ∧ ∀ x ∈ t, e.1 < x.1 := by
  obtain ⟨h1, h2⟩ := h
  rw [List.map_cons, List.pairwise_cons] at h2
  exact ⟨⟨fun x hx => h1 x (List.mem_cons_of_mem _ hx), h2.2⟩, fun x hx => h2.1 x.1 (List.mem_map.2 ⟨x, hx, rfl⟩)⟩
theorem mp_ext (l : List Ent) : ∀ m : List Ent, Mp l → Mp m → (∀ k : Int, lookE l k = lookE m k) → l = m := by
  induction l with
  | nil =>
    intro m _ hm h
    cases m with
    | nil => rfl
    | cons f u =>
      have := h f.1
      rw [show lookE [] f.1 = [] from rfl, lookE, if_pos rfl] at this
      exact absurd this.symm (hm.1 f List.mem_cons_self).2.2.1
  | cons e t ih =>
    intro m hl hm h
    cases m with
    | nil =>
      have := h e.1
      rw [show lookE [] e.1 = [] from rfl, lookE, if_pos rfl] at this
      exact absurd this (hl.1 e List.mem_cons_self).2.2.1
    | cons f u =>
      have he := (hl.1 e List.mem_cons_self).2.2.1
      have hf := (hm.1 f List.mem_cons_self).2.2.1
      obtain ⟨ht, hle⟩ := hl.tail
      obtain ⟨hu, hlf⟩ := hm.tail
      have e1 : lookE (e :: t) e.1 = e.2 := by rw [lookE, if_pos rfl]
      have f1 : lookE (f :: u) f.1 = f.2 := by rw [lookE, if_pos rfl]
      have k1 : e.1 = f.1 := by
        obtain ⟨x, hx, hxk⟩ := lookE_in (f :: u) e.1 (by rw [← h, e1]; exact he)
        obtain ⟨y, hy, hyk⟩ := lookE_in (e :: t) f.1 (by rw [h, f1]; exact hf)
        rcases List.mem_cons.1 hx with rfl | hx
        · exact hxk.symm
        · rcases List.mem_cons.1 hy with rfl | hy
          · exact hyk
          · have a := hle y hy
            have b := hlf x hx
            omega
      have k2 : e.2 = f.2 := by rw [← e1, h, k1, f1]
      have hef : e = f := Prod.ext k1 k2
      rw [hef, ih u ht hu (fun k => ?_)]
      by_cases hk : k = e.1
      · rw [lookE_none t k (fun x hx g => by have := hle x hx; omega), lookE_none u k (fun x hx g => by have := hlf x hx; omega)]
      · have := h k
        rwa [lookE, lookE, if_neg (fun g => hk g.symm), if_neg (fun g => hk (by rw [k1]; exact g.symm))] at this
theorem colB_iff (A B : List Str) : colB A B = true ↔ CollE sha A B := by
  unfold colB CollE colQ
  simp [List.any_eq_true]
theorem nz_iff (A : List Str) : A.any nz = true ↔ ZeroE sha A := by
  unfold ZeroE nz
  simp [List.any_eq_true]
theorem outQ_false (A B : List Str) (h : outQ A B = false) : ¬ CollE sha A B ∧ ¬ ZeroE sha A ∧ ¬ ZeroE sha B := by
  unfold outQ at h
  simp only [Bool.or_eq_false_iff] at h
  obtain ⟨⟨h1, h2⟩, h3⟩ := h
  exact ⟨fun g => (by rw [← colB_iff, h1] at g; cases g), fun g => (by rw [← nz_iff, h2] at g; cases g), fun g => (by rw [← nz_iff, h3] at g; cases g)⟩
def hsL (l : List Ent) : List Str := hsd sha (fun _ => []) (mE l) 6 1
theorem root_same (l m : List Ent) (hl : Mp l) (hm : Mp m) (hr : rootL l = rootL m) (ho : outQ (hsL l) (hsL m) = false) : l = m := by
  obtain ⟨h1, h2, h3⟩ := outQ_false _ _ ho
  have hE : E sha (fun _ => []) (mE l) 1 = E sha (fun _ => []) (mE m) 1 := by
    unfold rootL partV at hr
    rw [mE_map l hl, mE_map m hm] at hr
    exact hr
  refine mp_ext l m hl hm (fun k => ?_)
  by_cases hk : 0 ≤ k ∧ k < 64
  · have := bind sha sha_len (fun _ => []) (fun _ => []) (mE l) (mE m) (fun _ => .inl rfl) (fun _ => .inl rfl) 6 1 (by omega) (by omega) (by omega) (by omega) hE h1 h2 h3 k.toNat (by omega) (by omega) (fun _ _ => rfl) (fun _ _ => rfl)
    unfold mE at this
    rwa [show ((k.toNat : Nat) : Int) = k by omega] at this
  · rw [lookE_none l k (fun e he g => by have := hl.1 e he; omega), lookE_none m k (fun e he g => by have := hm.1 e he; omega)]
theorem mp_small (l : List Ent) (h : Mp l) (k : Int) : (lookE l k).length ≤ 65536 := by
  by_cases g : lookE l k = []
  · rw [g]; simp
  · obtain ⟨e, he, hk⟩ := lookE_in l k g
    have hb := h.1 e he
    have := mapV_small l h k.toNat
    rw [vF_map l _ h, show ((k.toNat : Nat) : Int) = k by omega] at this
    exact this
theorem hsd_small (c v : Nat → Str) (hc : ∀ i, c i = [] ∨ (c i).length = 32) (hv : ∀ k, (v k).length ≤ 65536) : ∀ h i, 1 ≤ i → ∀ s ∈ hsd sha c v h i, List.length s ≤ 1000000 := by
  intro h
  induction h with
  | zero =>
    intro i _ s hs
    unfold hsd at hs
    split at hs
    · split at hs
      · cases hs
      · simp at hs; subst hs; have := hv (i - 64); simp [leafT]; omega
    · cases hs
  | succ h ih =>
    intro i hi s hs
    unfold hsd at hs
    split at hs
    · rcases List.mem_append.1 hs with hs | hs
      · rcases List.mem_append.1 hs with hs | hs
        · exact ih _ (by omega) s hs
        · exact ih _ (by omega) s hs
      · split at hs
        · cases hs
        · simp at hs; subst hs
          have a := Ec_len sha sha_len c v (2 * i) (by omega) hc
          have b := Ec_len sha sha_len c v (2 * i + 1) (by omega) hc
          simp; omega
    · cases hs
theorem hsL_small (l : List Ent) (h : Mp l) : (∀ s ∈ hsL l, List.length s ≤ 1000000) ∧ (hsL l).length ≤ 1000 := by
  refine ⟨hsd_small _ _ (fun _ => .inl rfl) (fun k => mp_small l h k) 6 1 (by omega), ?_⟩
  have := hs_len sha (fun _ => []) (mE l) 6 1
  unfold hsL; omega
def sz3 (i : Nat) : Str := match i with | 0 => [] | 1 => [97] | _ => [122, 122]
theorem sz3_len (i : Nat) : (sz3 i).length ≤ 2 := by unfold sz3; split <;> simp
theorem sz3_at (k : Nat) (h : k < 3) : ([.string ⟨#[]⟩, .string ⟨#[97]⟩, .string ⟨#[122, 122]⟩] : List Value)[k]? = some (.string ⟨(sz3 k).toArray⟩) := by
  match k, h with
  | 0, _ => rfl
  | 1, _ => rfl
  | 2, _ => rfl
def HPost (S : List Str) (w : World) (e : Ending) (w' : World) : Prop := ∃ v, e = .returned v ∧ SS w' v S ∧ Below w.heap.size w w'
theorem HashedC (vl : Value) (l : List Ent) (w : World) (hl : SE w vl l) (h : Mp l) : Calls Tryd.prog 31 #[vl] w (HPost (hsL l) w) :=
  (Hashed_any vl l w hl (by have := Mp_len l h; omega) (fun k => mp_small l h k)).mono fun _ _ ⟨v, e, ho, B⟩ => ⟨v, e, OwnG.SL eS_len ho, B⟩
end Go.Proofs.YtegahpfmkepfmaaDoor
