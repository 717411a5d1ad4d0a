/- What a change leaves as it was (plain). -/
import Derived.Test.YtlaldnlgapeckaaGreatYX
namespace Go.Proofs.YtlaldnlgapeckaaGreat
theorem act_cases {g : Gr} {c : Ch} {g' : Gr} {u : Ch} (e : actF g c = some (g', u)) :
    (c.kind = 1 ∧ act1 g c = some (g', u)) ∨ (c.kind = 2 ∧ act2 g c = some (g', u)) ∨ (c.kind = 3 ∧ act3 g c = some (g', u)) ∨ (c.kind = 4 ∧ act4 g c = some (g', u)) ∨ (c.kind = 5 ∧ act5 g c = some (g', u)) ∨ (c.kind = 6 ∧ act6 g c = some (g', u)) ∨ (c.kind = 7 ∧ act7 g c = some (g', u)) ∨ (c.kind = 8 ∧ act8 g c = some (g', u)) ∨ (c.kind = 9 ∧ act9 g c = some (g', u)) ∨ (c.kind = 10 ∧ act10 g c = some (g', u)) := by
  unfold actF at e
  split at e
  · unfold actK at e
    split at e
    · exact .inl ⟨by assumption, e⟩
    split at e
    · exact .inr (.inl ⟨by assumption, e⟩)
    split at e
    · exact .inr (.inr (.inl ⟨by assumption, e⟩))
    split at e
    · exact .inr (.inr (.inr (.inl ⟨by assumption, e⟩)))
    split at e
    · exact .inr (.inr (.inr (.inr (.inl ⟨by assumption, e⟩))))
    split at e
    · exact .inr (.inr (.inr (.inr (.inr (.inl ⟨by assumption, e⟩)))))
    split at e
    · exact .inr (.inr (.inr (.inr (.inr (.inr (.inl ⟨by assumption, e⟩))))))
    split at e
    · exact .inr (.inr (.inr (.inr (.inr (.inr (.inr (.inl ⟨by assumption, e⟩)))))))
    split at e
    · exact .inr (.inr (.inr (.inr (.inr (.inr (.inr (.inr (.inl ⟨by assumption, e⟩))))))))
    split at e
    · exact .inr (.inr (.inr (.inr (.inr (.inr (.inr (.inr (.inr ⟨by assumption, e⟩))))))))
    · cases e
  · cases e
def LocE (c : Ch) (y z : Ed) : Prop := y = z ∨ ((c.kind = 7 ∨ c.kind = 8) ∧ (y.src = c.id ∨ y.dst = c.id) ∧ (y.src = c.id ∨ z.src = y.src) ∧ (y.dst = c.id ∨ z.dst = y.dst) ∧ ({ z with src := y.src, dst := y.dst } : Ed) = y)
theorem getE_is {l : List Ed} (h : Asc (keysE l)) {u : Ed} (hu : u ∈ l) {i : Int} (hi : u.id = i) : getE l i = u := by rw [← hi]; exact getE_of l h u hu
theorem getV_is {l : List Vx} (h : Asc (keysV l)) {u : Vx} (hu : u ∈ l) {i : Int} (hi : u.id = i) : getV l i = u := by rw [← hi]; exact getV_of l h u hu
theorem keys_mapE (l : List Ed) (f : Ed → Ed) (hf : ∀ u, (f u).id = u.id) : keysE (l.map f) = keysE l := keys_map l f hf
theorem local_E (g : Gr) (c : Ch) (g' : Gr) (u : Ch) (h : Ok g) (e : actF g c = some (g', u)) (i : Int) (n1 : ¬ ((c.kind = 5 ∨ c.kind = 6 ∨ c.kind = 4) ∧ i = c.id)) (n2 : ¬ (c.kind = 3 ∧ i = c.e.id)) :
    (i ∈ keysE g.es ↔ i ∈ keysE g'.es) ∧ (i ∈ keysE g.es → LocE c (getE g.es i) (getE g'.es i)) := by
  have h' := act_ok g c g' u h e
  have ha' := h'.easc
  have same : g'.es = g.es → (i ∈ keysE g.es ↔ i ∈ keysE g'.es) ∧ (i ∈ keysE g.es → LocE c (getE g.es i) (getE g'.es i)) := fun e => by rw [e]; exact ⟨Iff.rfl, fun _ => .inl rfl⟩
  have keep : (∀ y, y ∈ g.es → y.id = i → y ∈ g'.es) → (i ∈ keysE g'.es → i ∈ keysE g.es) → (i ∈ keysE g.es ↔ i ∈ keysE g'.es) ∧ (i ∈ keysE g.es → LocE c (getE g.es i) (getE g'.es i)) := fun k1 k2 => by
    refine ⟨⟨fun hi => ?_, k2⟩, fun hi => ?_⟩
    · obtain ⟨y, hy, rfl⟩ := mem_keysE.1 hi
      exact mem_keysE.2 ⟨y, k1 y hy rfl, rfl⟩
    · obtain ⟨hm, hid⟩ := getE_mem g.es i hi
      exact .inl (getE_is ha' (k1 _ hm hid) hid).symm
  rcases act_cases e with ⟨hk, e⟩ | ⟨hk, e⟩ | ⟨hk, e⟩ | ⟨hk, e⟩ | ⟨hk, e⟩ | ⟨hk, e⟩ | ⟨hk, e⟩ | ⟨hk, e⟩ | ⟨hk, e⟩ | ⟨hk, e⟩
  · unfold act1 at e
    split at e
    · injection e with e; injection e with e1 _; exact same (by rw [← e1])
    · cases e
  · unfold act2 at e
    split at e
    · injection e with e; injection e with e1 _; exact same (by rw [← e1])
    · cases e
  · unfold act3 at e
    split at e
    · injection e with e
      injection e with e1 _
      have e2 : g'.es = insE g.es c.e := by rw [← e1]
      rw [e2] at keep
      rw [e2]
      exact keep (fun y hy _ => (mem_insE _ _ _).2 (.inr hy)) (fun hi => ((mem_keys_insE _ _ _).1 hi).resolve_left (fun e => n2 ⟨hk, e⟩))
    · cases e
  · unfold act4 at e
    split at e
    · injection e with e
      injection e with e1 _
      have e2 : g'.es = delE g.es c.id := by rw [← e1]
      rw [e2] at keep
      rw [e2]
      exact keep (fun y hy hi => (mem_delE _ _ _).2 ⟨hy, fun e => n1 ⟨by omega, by omega⟩⟩) (fun hi => ((mem_keys_delE _ _ _).1 hi).1)
    · cases e
  · unfold act5 at e
    split at e
    · injection e with e
      injection e with e1 _
      have e2 : g'.es = onE g.es c.id (setWt c.n) := by rw [← e1]
      rw [e2] at keep
      rw [e2]
      exact keep (fun y hy hi => (mem_onE _ _ _ _).2 ⟨y, hy, by rw [if_neg (fun e => n1 ⟨by omega, by omega⟩)]⟩) (fun hi => by rwa [keys_onE _ _ (setWt c.n) (fun _ => rfl)] at hi)
    · cases e
  · unfold act6 at e
    split at e
    · injection e with e
      injection e with e1 _
      have e2 : g'.es = onE g.es c.id (setCap c.n) := by rw [← e1]
      rw [e2] at keep
      rw [e2]
      exact keep (fun y hy hi => (mem_onE _ _ _ _).2 ⟨y, hy, by rw [if_neg (fun e => n1 ⟨by omega, by omega⟩)]⟩) (fun hi => by rwa [keys_onE _ _ (setCap c.n) (fun _ => rfl)] at hi)
    · cases e
  · unfold act7 at e
    split at e
    · injection e with e
      injection e with e1 _
      have e2 : g'.es = g.es.map (ctE c.id c.n) := by rw [← e1]
      rw [e2] at ha' ⊢
      refine ⟨by rw [keys_map _ (ctE c.id c.n) (fun _ => rfl)], fun hi => ?_⟩
      obtain ⟨hm, hid⟩ := getE_mem g.es i hi
      rw [getE_is ha' (List.mem_map.2 ⟨_, hm, rfl⟩) hid]
      generalize getE g.es i = y
      by_cases h1 : y.src = c.id
      · exact .inr ⟨.inl hk, .inl h1, .inl h1, by by_cases h2 : y.dst = c.id; · exact .inl h2
                                                  · exact .inr (by simp [ctE, h2]), rfl⟩
      · by_cases h2 : y.dst = c.id
        · exact .inr ⟨.inl hk, .inr h2, .inr (by simp [ctE, h1]), .inl h2, rfl⟩
        · exact .inl (by simp [ctE, h1, h2])
    · cases e
  · unfold act8 at e
    split at e
    · rename_i hc
      injection e with e
      injection e with e1 _
      have e2 : g'.es = g.es.map (mvE c.ends c.v.id) := by rw [← e1]
      rw [e2] at ha' ⊢
      simp only [Bool.and_eq_true, List.all_eq_true, decide_eq_true_eq] at hc
      have hin := hc.2.2
      refine ⟨by rw [keys_map _ (mvE c.ends c.v.id) (fun _ => rfl)], fun hi => ?_⟩
      obtain ⟨hm, hid⟩ := getE_mem g.es i hi
      rw [getE_is ha' (List.mem_map.2 ⟨_, hm, rfl⟩) hid]
      have m1 : 2 * (getE g.es i).id ∈ c.ends → (getE g.es i).src = c.id := fun hx => (even_endsF h.easc hm c.id).1 (hin _ hx)
      have m2 : 2 * (getE g.es i).id + 1 ∈ c.ends → (getE g.es i).dst = c.id := fun hx => (odd_endsF h.easc hm c.id).1 (hin _ hx)
      generalize getE g.es i = y at *
      by_cases h1 : 2 * y.id ∈ c.ends
      · have h1' := m1 h1
        by_cases h2 : 2 * y.id + 1 ∈ c.ends
        · exact .inr ⟨.inr hk, .inl h1', .inl h1', .inl (m2 h2), rfl⟩
        · exact .inr ⟨.inr hk, .inl h1', .inl h1', .inr (by simp [mvE, h2]), rfl⟩
      · by_cases h2 : 2 * y.id + 1 ∈ c.ends
        · exact .inr ⟨.inr hk, .inr (m2 h2), .inr (by simp [mvE, h1]), .inl (m2 h2), rfl⟩
        · exact .inl (by simp [mvE, h1, h2])
    · cases e
  · unfold act9 at e
    split at e
    · injection e with e; injection e with e1 _; exact same (by rw [← e1])
    · cases e
  · unfold act10 at e
    split at e
    · injection e with e; injection e with e1 _; exact same (by rw [← e1])
    · cases e
theorem local_V (g : Gr) (c : Ch) (g' : Gr) (u : Ch) (h : Ok g) (e : actF g c = some (g', u)) (i : Int) (n1 : ¬ ((c.kind = 2 ∨ c.kind = 7 ∨ c.kind = 9) ∧ i = c.id)) (n2 : ¬ ((c.kind = 1 ∨ c.kind = 8) ∧ i = c.v.id)) :
    (i ∈ keysV g.vs ↔ i ∈ keysV g'.vs) ∧ (i ∈ keysV g.vs → getV g.vs i = getV g'.vs i) := by
  have h' := act_ok g c g' u h e
  have ha' := h'.vasc
  have same : g'.vs = g.vs → (i ∈ keysV g.vs ↔ i ∈ keysV g'.vs) ∧ (i ∈ keysV g.vs → getV g.vs i = getV g'.vs i) := fun e => by rw [e]; exact ⟨Iff.rfl, fun _ => rfl⟩
  have keep : (∀ y, y ∈ g.vs → y.id = i → y ∈ g'.vs) → (i ∈ keysV g'.vs → i ∈ keysV g.vs) → (i ∈ keysV g.vs ↔ i ∈ keysV g'.vs) ∧ (i ∈ keysV g.vs → getV g.vs i = getV g'.vs i) := fun k1 k2 => by
    refine ⟨⟨fun hi => ?_, k2⟩, fun hi => ?_⟩
    · obtain ⟨y, hy, rfl⟩ := mem_keysV.1 hi
      exact mem_keysV.2 ⟨y, k1 y hy rfl, rfl⟩
    · obtain ⟨hm, hid⟩ := getV_mem g.vs i hi
      exact (getV_is ha' (k1 _ hm hid) hid).symm
  have ins : ∀ v : Vx, (c.kind = 1 ∨ c.kind = 8) → v = c.v → g'.vs = insV g.vs v → (i ∈ keysV g.vs ↔ i ∈ keysV g'.vs) ∧ (i ∈ keysV g.vs → getV g.vs i = getV g'.vs i) := fun v hk hv e2 => by
    rw [e2] at keep
    rw [e2]
    exact keep (fun y hy _ => (mem_insV _ _ _).2 (.inr hy)) (fun hi => ((mem_keys_insV _ _ _).1 hi).resolve_left (fun e => n2 ⟨hk, by rw [e, hv]⟩))
  have del : (c.kind = 2 ∨ c.kind = 7) → g'.vs = delV g.vs c.id → (i ∈ keysV g.vs ↔ i ∈ keysV g'.vs) ∧ (i ∈ keysV g.vs → getV g.vs i = getV g'.vs i) := fun hk e2 => by
    rw [e2] at keep
    rw [e2]
    exact keep (fun y hy hi => (mem_delV _ _ _).2 ⟨hy, fun e => n1 ⟨by omega, by omega⟩⟩) (fun hi => ((mem_keys_delV _ _ _).1 hi).1)
  rcases act_cases e with ⟨hk, e⟩ | ⟨hk, e⟩ | ⟨hk, e⟩ | ⟨hk, e⟩ | ⟨hk, e⟩ | ⟨hk, e⟩ | ⟨hk, e⟩ | ⟨hk, e⟩ | ⟨hk, e⟩ | ⟨hk, e⟩
  · unfold act1 at e
    split at e
    · injection e with e; injection e with e1 _; exact ins c.v (.inl hk) rfl (by rw [← e1])
    · cases e
  · unfold act2 at e
    split at e
    · injection e with e; injection e with e1 _; exact del (.inl hk) (by rw [← e1])
    · cases e
  · unfold act3 at e
    split at e
    · injection e with e; injection e with e1 _; exact same (by rw [← e1])
    · cases e
  · unfold act4 at e
    split at e
    · injection e with e; injection e with e1 _; exact same (by rw [← e1])
    · cases e
  · unfold act5 at e
    split at e
    · injection e with e; injection e with e1 _; exact same (by rw [← e1])
    · cases e
  · unfold act6 at e
    split at e
    · injection e with e; injection e with e1 _; exact same (by rw [← e1])
    · cases e
  · unfold act7 at e
    split at e
    · injection e with e; injection e with e1 _; exact del (.inr hk) (by rw [← e1])
    · cases e
  · unfold act8 at e
    split at e
    · injection e with e; injection e with e1 _; exact ins c.v (.inr hk) rfl (by rw [← e1])
    · cases e
  · unfold act9 at e
    split at e
    · injection e with e
      injection e with e1 _
      have e2 : g'.vs = onV g.vs c.id (setSide c.n) := by rw [← e1]
      rw [e2] at keep
      rw [e2]
      exact keep (fun y hy hi => (mem_onV _ _ _ _).2 ⟨y, hy, by rw [if_neg (fun e => n1 ⟨by omega, by omega⟩)]⟩) (fun hi => by rwa [keys_onV _ _ (setSide c.n) (fun _ => rfl)] at hi)
    · cases e
  · unfold act10 at e
    split at e
    · injection e with e; injection e with e1 _; exact same (by rw [← e1])
    · cases e
theorem local_D (g : Gr) (c : Ch) (g' : Gr) (u : Ch) (e : actF g c = some (g', u)) : c.kind = 10 ∨ g.ds = g'.ds := by
  rcases act_cases e with ⟨_, e⟩ | ⟨_, e⟩ | ⟨_, e⟩ | ⟨_, e⟩ | ⟨_, e⟩ | ⟨_, e⟩ | ⟨_, e⟩ | ⟨_, e⟩ | ⟨_, e⟩ | ⟨hk, _⟩
  · unfold act1 at e
    split at e
    · injection e with e
      injection e with e1 _
      exact .inr (by rw [← e1])
    · cases e
  · unfold act2 at e
    split at e
    · injection e with e
      injection e with e1 _
      exact .inr (by rw [← e1])
    · cases e
  · unfold act3 at e
    split at e
    · injection e with e
      injection e with e1 _
      exact .inr (by rw [← e1])
    · cases e
  · unfold act4 at e
    split at e
    · injection e with e
      injection e with e1 _
      exact .inr (by rw [← e1])
    · cases e
  · unfold act5 at e
    split at e
    · injection e with e
      injection e with e1 _
      exact .inr (by rw [← e1])
    · cases e
  · unfold act6 at e
    split at e
    · injection e with e
      injection e with e1 _
      exact .inr (by rw [← e1])
    · cases e
  · unfold act7 at e
    split at e
    · injection e with e
      injection e with e1 _
      exact .inr (by rw [← e1])
    · cases e
  · unfold act8 at e
    split at e
    · injection e with e
      injection e with e1 _
      exact .inr (by rw [← e1])
    · cases e
  · unfold act9 at e
    split at e
    · injection e with e
      injection e with e1 _
      exact .inr (by rw [← e1])
    · cases e
  · exact .inl hk
end Go.Proofs.YtlaldnlgapeckaaGreat
