/- Contracts and facts. -/
import Derived.Deep.LoopGhost
import Derived.Handy
import Derived.WalkMore
import Derived.BigRegion
import Derived.Laws.EntriesVeiled
import Derived.Test.YthmkmjkbfjhffaaVHG
set_option linter.unusedSimpArgs false
set_option maxRecDepth 100000
set_option maxHeartbeats 4000000
namespace Go.Proofs.Ythmkmjkbfjhffaa
open Go.RowKit
theorem readF_cons (x : Nm) (L : List Nm) : readF (x :: L) = stepR (readF L) x := by
  unfold readF; rw [List.reverse_cons, List.foldl_append]; rfl
theorem readF_lab (m : PM) (f : Nm → Bool) (k : Int) : ∀ (V : List Int), k ∈ V → (∀ v, v = k → f (v, [(gp m v).root, (gp m v).depth, (gp m v).edge]) = true) → readF ((labF m V).filter f) k = some ⟨(gp m k).root, (gp m k).depth, (gp m k).edge⟩ := by
  intro V
  induction V with
  | nil => intro h; simp at h
  | cons v V ih =>
    intro h hf
    have e : labF m (v :: V) = (v, [(gp m v).root, (gp m v).depth, (gp m v).edge]) :: labF m V := rfl
    rw [e, List.filter_cons]
    by_cases hv : v = k
    · subst hv
      rw [if_pos (hf v rfl), readF_cons]
      unfold stepR putP
      simp
    · have hk : k ∈ V := by
        rcases List.mem_cons.1 h with h | h
        · exact absurd h.symm hv
        · exact h
      have h2 := ih hk hf
      by_cases hfv : f (v, [(gp m v).root, (gp m v).depth, (gp m v).edge]) = true
      · rw [if_pos hfv, readF_cons]
        unfold stepR putP
        simp only [List.length_cons, List.length_nil, if_true]
        rw [if_neg (fun h => hv (Eq.symm h))]; exact h2
      · rw [if_neg hfv]; exact h2
theorem count_lab (g : Gr) (m : PM) (k : Int) (h : k ∈ keysV g.vs) : countF k (readF ((labF m (keysV g.vs)).filter (keepV k (atF g.es k)))) = if (gp m k).depth = 0 then 1 else 0 := by
  have h1 := readF_lab m (keepV k (atF g.es k)) k (keysV g.vs) h (fun v hv => by subst hv; unfold keepV; simp)
  have h2 : gp (readF ((labF m (keysV g.vs)).filter (keepV k (atF g.es k)))) k = ⟨(gp m k).root, (gp m k).depth, (gp m k).edge⟩ := gp_some h1
  unfold countF
  rw [h1, h2]
  simp
/-- how many of the first i vertices are roots -/
def rootsN (m : PM) (V : List Int) : Nat := (V.filter fun v => decide ((gp m v).depth = 0)).length
theorem rootsN_snoc (m : PM) (V : List Int) (v : Int) : rootsN m (V ++ [v]) = rootsN m V + if (gp m v).depth = 0 then 1 else 0 := by
  unfold rootsN
  rw [List.filter_append, List.length_append]
  congr 1
  by_cases h : (gp m v).depth = 0 <;> simp [h]
theorem rootsN_le (m : PM) (V : List Int) : rootsN m V ≤ V.length := List.length_filter_le _ _
def hitsN (x : Int) (l : List Ed) : Nat := (l.filter fun e => e.id == x).length
theorem hitsN_snoc (x : Int) (l : List Ed) (e : Ed) : hitsN x (l ++ [e]) = hitsN x l + if (e.id == x) = true then 1 else 0 := by
  unfold hitsN
  rw [List.filter_append, List.length_append]
  congr 1
  by_cases h : (e.id == x) = true
  · simp [h]
  · simp at h; simp [h]
theorem hitsN_le (x : Int) (l : List Ed) : hitsN x l ≤ l.length := List.length_filter_le _ _
theorem hitsN_none {x : Int} {l : List Ed} (h : ∀ e ∈ l, e.id ≠ x) : hitsN x l = 0 := by
  unfold hitsN
  rw [List.filter_eq_nil_iff.2 (fun e he => by simpa using h e he)]; rfl
theorem hitsN_one {x : Int} {e : Ed} : ∀ (l : List Ed), (l.map (·.id)).Nodup → e ∈ l → e.id = x → hitsN x l = 1 := by
  intro l
  induction l with
  | nil => intro _ h; simp at h
  | cons f l ih =>
    intro hd h hx
    rw [List.map_cons, List.nodup_cons] at hd
    unfold hitsN at ih ⊢
    rw [List.filter_cons]
    rcases List.mem_cons.1 h with rfl | h
    · rw [if_pos (by simpa using hx), List.length_cons, List.filter_eq_nil_iff.2 (fun g hg => ?_)]
      · rfl
      · intro h2
        have h3 : g.id = x := by simpa using h2
        exact hd.1 (List.mem_map.2 ⟨g, hg, by rw [h3, hx]⟩)
    · rw [if_neg (fun h2 => by
        have h3 : f.id = x := by simpa using h2
        exact hd.1 (List.mem_map.2 ⟨e, h, by rw [h3, hx]⟩))]
      exact ih hd.2 h hx
/-- what ForestCounts finds at one vertex -/
structure CVx (G : Gr) (v : Int) : Prop where
  root : ((gp (mF G) v).root == v) = decide ((gp (mF G) v).depth = 0)
  hits : hitsN (gp (mF G) v).edge (atF G.es v) = if (gp (mF G) v).depth = 0 then 0 else 1
  par : ∀ e ∈ atF G.es v, e.id = (gp (mF G) v).edge → ∃ (n : Nat) (h : n < (keysV G.vs).length), plI (keysV G.vs) (otherI e v) = (n : Int) ∧ (keysV G.vs)[n] = otherI e v ∧ (gp (mF G) (otherI e v)).depth < (gp (mF G) v).depth
theorem cv_of {G : Gr} {v : Int} (ho : G.ok = true) (hv : v ∈ keysV G.vs)  : CVx G v := by
  obtain ⟨h1, h2, h3, h4, h5⟩ := good_of ho
  have hri := root_iff h1 h2 hv
  have hlo := h2.lo v
  have hasc : (atF G.es v).map (·.id) |>.Nodup := by
    have h6 := ((ok_iff G).1 ho).easc
    have h7 : ((atF G.es v).map (·.id)).Pairwise (· < ·) := by
      have h8 : List.Sublist ((atF G.es v).map (·.id)) (keysE G.es) := by
        unfold keysE atF
        exact List.Sublist.map _ List.filter_sublist
      exact List.Pairwise.sublist h8 h6
    exact h7.imp (fun h => by omega)
  refine ⟨by rw [Bool.eq_iff_iff]; simpa using hri, ?_, fun e he hx => ?_⟩
  · by_cases h0 : (gp (mF G) v).depth = 0
    · rw [if_pos h0]
      refine hitsN_none (fun e he hx => ?_)
      have := (h2.rt v hv h0).2
      have h9 := h1.nonneg e (mem_atF.1 he).1
      omega
    · rw [if_neg h0]
      obtain ⟨e, he, hx, _⟩ := h2.up v hv (by omega)
      exact hitsN_one _ hasc he hx
  · have h0 : 0 < (gp (mF G) v).depth := by
      rcases Int.lt_or_eq_of_le hlo with h | h
      · exact h
      · have := (h2.rt v hv h.symm).2
        have h9 := h1.nonneg e (mem_atF.1 he).1
        omega
    obtain ⟨f, hf, hfx, k1, k2, k3⟩ := h2.up v hv h0
    have := h1.uniq e (mem_atF.1 he).1 f (mem_atF.1 hf).1 (by rw [hx, hfx])
    subst this
    obtain ⟨n, hn, hn2⟩ := List.getElem_of_mem k1
    refine ⟨n, hn, plI_at _ _ _ hn (fun j hj hjn e2 => ?_) hn2, hn2, by omega⟩
    have h6 := h1.nodup
    rw [← hn2] at e2
    exact List.pairwise_iff_getElem.1 h6 j n hj hn hjn e2
theorem lab_cells {w : World} {la : Option Addr} {lc : Nat} {m : PM} {V : List Int} (h : NL w (.slice la (labF m V).length lc) (labF m V)) (k : Nat) (hk : k < V.length) :
    ∃ b o lb lo c, la = some ⟨b, o, none⟩ ∧ ∀ W, Below w.heap.size w W → W.cell? ⟨b, o + k * 2, none⟩ = some (.int .i64 V[k]) ∧ W.cell? ⟨b, o + k * 2 + 1, none⟩ = some (.slice (some ⟨lb, lo, none⟩) 3 c) ∧ W.cell? ⟨lb, lo, none⟩ = some (.int .i64 (gp m V[k]).root) ∧ W.cell? ⟨lb, lo + 1, none⟩ = some (.int .i64 (gp m V[k]).depth) ∧ W.cell? ⟨lb, lo + 2, none⟩ = some (.int .i64 (gp m V[k]).edge) := by
  have hk2 : k < (labF m V).length := by unfold labF; simpa using hk
  obtain ⟨b, o, lv, rfl, h1⟩ := h.cells k hk2
  have hx : (labF m V)[k] = (V[k], [(gp m V[k]).root, (gp m V[k]).depth, (gp m V[k]).edge]) := by simp [labF]
  rw [hx] at h1
  simp only at h1
  obtain ⟨_, _, hd⟩ := h1 w (Below.refl _ _)
  obtain ⟨lb, lo, c, rfl, _, hb, hl⟩ := hd.own (by simp)
  refine ⟨b, o, lb, lo, c, rfl, fun W B => ?_⟩
  obtain ⟨k1, k2, _⟩ := h1 W B
  refine ⟨k1, by rw [k2]; rfl, ?_, ?_, ?_⟩
  · have := hl 0 _ rfl
    rw [B.cell (p := ⟨lb, lo, none⟩) hb]; simpa using this
  · have := hl 1 _ rfl
    rw [B.cell (p := ⟨lb, lo + 1, none⟩) hb]; simpa using this
  · have := hl 2 _ rfl
    rw [B.cell (p := ⟨lb, lo + 2, none⟩) hb]; simpa using this

end Go.Proofs.Ythmkmjkbfjhffaa
