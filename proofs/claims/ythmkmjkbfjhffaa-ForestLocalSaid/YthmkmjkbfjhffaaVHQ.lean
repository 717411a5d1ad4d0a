/- Contracts and facts. -/
import Derived.Deep.LoopGhost
import Derived.Handy
import Derived.WalkMore
import Derived.BigRegion
import Derived.Laws.EntriesVeiled
import Derived.Test.YthmkmjkbfjhffaaVHM
set_option linter.unusedSimpArgs false
set_option maxRecDepth 100000
set_option maxHeartbeats 4000000
namespace Go.Proofs.Ythmkmjkbfjhffaa
open Go.RowKit
/-- what else holds while the forest grows: the queue ascends by depth, and no neighbour is deeper by more than one -/
structure InvN (es : List Ed) (s : St) : Prop where
  near : ∀ k p, s.m k = some p → k ∉ s.q → ∀ e ∈ atF es k, (gp s.m (otherI e k)).depth ≤ p.depth + 1
  least : ∀ k p, s.m k = some p → p.root ≤ k
  rtm : ∀ k p, s.m k = some p → (s.m p.root).isSome = true
structure InvM (es : List Ed) (r D : Int) (s : St) : Prop where
  n : InvN es s
  sort : s.q.Pairwise (fun x y => (gp s.m x).depth ≤ (gp s.m y).depth)
  le : ∀ k p, s.m k = some p → p.root = r → p.depth ≤ D + 1
theorem gp_put_other {m : PM} {k x : Int} (p : Pl) (h : x ≠ k) : gp (putP m k p) x = gp m x := by unfold gp; rw [putP_other m p h]
theorem gp_put_same (m : PM) (k : Int) (p : Pl) : gp (putP m k p) k = p := by unfold gp; rw [putP_same]; rfl
/-- one vertex more in the queue -/
theorem meet_M {es : List Ed} {V : List Int} {r D : Int} {s : St} (_ : GrOk es V) (h : InvS es V r s) (M : InvM es r D s) {k : Int} {d : Int} (hk : k ∈ V) (hm : (s.m k).isSome = false) (hd : d ≤ D + 1) (hq : ∀ x ∈ s.q, (gp s.m x).depth ≤ d) (hr : r ≤ k) (hrm : r = k ∨ (s.m r).isSome = true) : InvM es r D (meetF s k ⟨r, d, 0⟩) := by
  have hn : s.m k = none := by simpa using hm
  have key : ∀ x y, putP s.m k ⟨r, d, 0⟩ x = some y → (x = k ∧ y = ⟨r, d, 0⟩) ∨ (x ≠ k ∧ s.m x = some y) := fun x y e => by
    by_cases hx : x = k
    · subst hx; rw [putP_same] at e; exact .inl ⟨rfl, (Option.some.inj e).symm⟩
    · rw [putP_other _ _ hx] at e; exact .inr ⟨hx, e⟩
  have qk : ∀ x ∈ s.q, x ≠ k := fun x hx e => by
    obtain ⟨p, hp, _⟩ := h.q x hx
    rw [e, hn] at hp; cases hp
  refine ⟨⟨fun x y e hxq f hf => ?_, fun x y e => ?_, fun x y e => ?_⟩, ?_, fun x y e he => ?_⟩
  · rcases key x y e with ⟨rfl, _⟩ | ⟨hx, e⟩
    · exact absurd (show x ∈ (meetF s x ⟨r, d, 0⟩).q by simp [meetF]) hxq
    · have hxq2 : x ∉ s.q := fun q => hxq (by simp [meetF, q])
      obtain ⟨p', hp', _⟩ := h.cl x y e hxq2 f hf
      have hne : otherI f x ≠ k := fun q => by rw [q, hn] at hp'; cases hp'
      show (gp (putP s.m k ⟨r, d, 0⟩) _).depth ≤ _
      rw [gp_put_other _ hne]
      exact M.n.near x y e hxq2 f hf
  · rcases key x y e with ⟨rfl, rfl⟩ | ⟨hx, e⟩
    · exact hr
    · exact M.n.least x y e
  · show (putP s.m k ⟨r, d, 0⟩ y.root).isSome = true
    have up : ∀ z, (s.m z).isSome = true → (putP s.m k ⟨r, d, 0⟩ z).isSome = true := fun z hz => by
      unfold putP; split
      · rfl
      · exact hz
    rcases key x y e with ⟨rfl, rfl⟩ | ⟨hx, e⟩
    · rcases hrm with rfl | hrm
      · show (putP s.m r ⟨r, d, 0⟩ r).isSome = true
        rw [putP_same]; rfl
      · exact up _ hrm
    · exact up _ (M.n.rtm x y e)
  · show (s.q ++ [k]).Pairwise _
    rw [List.pairwise_append]
    refine ⟨?_, List.pairwise_singleton _ _, fun x hx y hy => ?_⟩
    · refine List.Pairwise.imp_of_mem (fun {x y} hx hy hxy => ?_) M.sort
      show (gp (putP s.m k ⟨r, d, 0⟩) x).depth ≤ (gp (putP s.m k ⟨r, d, 0⟩) y).depth
      rw [gp_put_other _ (qk x hx), gp_put_other _ (qk y hy)]; exact hxy
    · rw [List.mem_singleton.1 hy]
      show (gp (putP s.m k ⟨r, d, 0⟩) x).depth ≤ (gp (putP s.m k ⟨r, d, 0⟩) k).depth
      rw [gp_put_other _ (qk x hx), gp_put_same]; exact hq x hx
  · rcases key x y e with ⟨rfl, rfl⟩ | ⟨hx, e⟩
    · exact hd
    · exact M.le x y e he
theorem visitF_M {es : List Ed} {V : List Int} {r : Int} (G : GrOk es V) {a : Int} {p : Pl} (hr : p.root = r) : ∀ (l : List Ed) {s : St}, InvS es V r s → InvM es r p.depth s → s.m a = some p → (∀ e ∈ l, e ∈ atF es a) → (∀ k ∈ V, (s.m k).isSome = false → r ≤ k) →
    InvM es r p.depth (visitF r a s l) := by
  intro l
  induction l with
  | nil => intro s _ h _ _ _; exact h
  | cons e l ih =>
    intro s h M ha hl hU
    obtain ⟨h1, h2, h3, _, _⟩ := visitE_inv G h ha hr (hl e (by simp))
    refine ih h1 ?_ (h3 _ _ ha) (fun f hf => hl f (by simp [hf])) (fun k hk hm => hU k hk ?_)
    · show InvM es r p.depth (visitE r a s e)
      unfold visitE
      by_cases hm : (s.m (otherI e a)).isSome = true
      · rw [if_pos hm]; exact M
      · rw [if_neg hm]
        have hm' : (s.m (otherI e a)).isSome = false := by simpa using hm
        have hov := other_mem G (hl e (by simp))
        refine meet_M G h M hov hm' (by rw [gp_some ha]; omega) (fun x hx => ?_) (hU _ hov hm') (.inr (by have := M.n.rtm a p ha; rw [hr] at this; exact this))
        obtain ⟨y, hy, hyr⟩ := h.q x hx
        rw [gp_some hy, gp_some ha]
        have := M.le x y hy hyr; omega
    · cases hs : s.m k with
      | none => rfl
      | some y => rw [h3 k y hs] at hm; cases hm
theorem run_M {es : List Ed} {V : List Int} {r : Int} (G : GrOk es V) : ∀ (n : Nat) {s : St}, InvS es V r s → msr V s ≤ n → InvN es s → s.q.Pairwise (fun x y => (gp s.m x).depth ≤ (gp s.m y).depth) → (∀ a t, s.q = a :: t → ∀ k p, s.m k = some p → p.root = r → p.depth ≤ (gp s.m a).depth + 1) → (∀ k ∈ V, (s.m k).isSome = false → r ≤ k) →
    InvN es (runQ es r n s) := by
  intro n
  induction n with
  | zero => intro s _ _ h _ _ _; exact h
  | succ n ih =>
    intro s h hn N hs ht hU
    unfold runQ
    cases hq : s.q with
    | nil => exact N
    | cons a t =>
      obtain ⟨h1, h2⟩ := round_inv G h hq
      obtain ⟨p, hp, hr⟩ := h.q a (by simp [hq])
      have hda : (gp s.m a).depth = p.depth := by rw [gp_some hp]
      have M0 : InvM es r p.depth s := ⟨N, hs, fun k y hk hy => by have := ht a t hq k y hk hy; rw [hda] at this; exact this⟩
      have M := visitF_M G hr (atF es a) h M0 hp (fun e he => he) hU
      obtain ⟨v1, v2, v3, ⟨u, v4⟩, v5⟩ := visitF_inv G hr (atF es a) h hp (fun e he => he)
      have hpa := v3 _ _ hp
      have hqq : (visitF r a s (atF es a)).q = a :: (t ++ u) := by rw [v4, hq]; rfl
      refine ih h1 (by omega) ⟨fun k y hk hkq e he => ?_, M.n.least, M.n.rtm⟩ ?_ (fun b tt hb k y hk hy => ?_) (fun k hk hm => hU k hk ?_)
      · by_cases hka : k = a
        · subst hka
          rw [show (popF (visitF r k s (atF es k))).m k = (visitF r k s (atF es k)).m k from rfl, hpa] at hk
          cases hk
          obtain ⟨p', c, d⟩ := v5 e he
          show (gp (visitF r k s (atF es k)).m _).depth ≤ _
          rw [gp_some c]
          exact M.le _ _ c d
        · refine M.n.near k y hk (fun q => hkq ?_) e he
          show k ∈ (visitF r a s (atF es a)).q.tail
          rw [hqq] at q ⊢
          simpa [hka] using q
      · show ((visitF r a s (atF es a)).q.tail).Pairwise _
        have := M.sort
        rw [hqq] at this ⊢
        exact (List.pairwise_cons.1 this).2
      · have hb2 : t ++ u = b :: tt := by
          have : (visitF r a s (atF es a)).q.tail = b :: tt := hb
          rw [hqq] at this; exact this
        have hs2 := M.sort
        rw [hqq, hb2] at hs2
        have h6 := (List.pairwise_cons.1 hs2).1 b (by simp)
        rw [gp_some hpa] at h6
        have h7 := M.le k y hk hy
        show y.depth ≤ (gp (visitF r a s (atF es a)).m b).depth + 1
        omega
      · cases hs3 : s.m k with
        | none => rfl
        | some y => rw [show (popF (visitF r a s (atF es a))).m k = (visitF r a s (atF es a)).m k from rfl, v3 k y hs3] at hm; cases hm
theorem spreadV_N {es : List Ed} {V : List Int} (G : GrOk es V) (hV : V.length ≤ 24) {s : St} (h : InvV es V s) (N : InvN es s) {v : Int} (hv : v ∈ V) (hU : ∀ k ∈ V, (s.m k).isSome = false → v ≤ k) : InvN es (spreadV es s v) := by
  unfold spreadV
  by_cases hm : (s.m v).isSome = true
  · rw [if_pos hm]; exact N
  · rw [if_neg hm]
    have hm' : (s.m v).isSome = false := by simpa using hm
    have h0 : InvS es V v s := ⟨h.inv, fun k hk => by rw [h.q] at hk; simp at hk, fun k p hk _ => h.cl k p hk⟩
    have hu := unm_put V s.m v ⟨v, 0, 0⟩ G.nodup hv hm'
    have hle := unm_le V s.m
    obtain ⟨h1, h2⟩ := meet_inv G h0 (k := v) (p := ⟨v, 0, 0⟩) rfl hv hm' (by simp) (by simp) (by simp only; omega) (fun q => by simp at q)
    have hms : msr V (meetF s v ⟨v, 0, 0⟩) ≤ 100 := by rw [h2]; unfold msr; rw [h.q]; simp; omega
    have nov : ∀ k p, s.m k = some p → p.root ≠ v := fun k p hk e => by
      have := N.rtm k p hk
      rw [e, hm'] at this; cases this
    have M0 : InvM es v 0 s := ⟨N, by rw [h.q]; exact List.Pairwise.nil, fun k p hk hr => absurd hr (nov k p hk)⟩
    have M := meet_M G h0 M0 hv hm' (d := 0) (by omega) (fun x hx => by rw [h.q] at hx; simp at hx) (Int.le_refl v) (.inl rfl)
    refine run_M G 100 h1 hms M.n M.sort (fun a t hq k p hk hr => ?_) (fun k hk hm2 => hU k hk ?_)
    · have hq2 : (meetF s v ⟨v, 0, 0⟩).q = [v] := by show s.q ++ [v] = _; rw [h.q]; rfl
      rw [hq2] at hq
      injection hq with hq
      subst hq
      show p.depth ≤ (gp (putP s.m v ⟨v, 0, 0⟩) v).depth + 1
      rw [gp_put_same]
      exact M.le k p hk hr
    · cases hs3 : s.m k with
      | none => rfl
      | some y =>
        have : (meetF s v ⟨v, 0, 0⟩).m k = putP s.m v ⟨v, 0, 0⟩ k := rfl
        rw [this] at hm2
        unfold putP at hm2
        split at hm2
        · cases hm2
        · rw [hs3] at hm2; cases hm2
theorem spread_foldN {es : List Ed} {V : List Int} (G : GrOk es V) (hV : V.length ≤ 24) : ∀ (l : List Int) {s : St}, InvV es V s → InvN es s → (∀ v ∈ l, v ∈ V) → l.Pairwise (· < ·) → (∀ k ∈ V, (s.m k).isSome = false → k ∈ l) → InvN es (l.foldl (spreadV es) s) := by
  intro l
  induction l with
  | nil => intro s _ N _ _ _; exact N
  | cons v l ih =>
    intro s h N hl hp hk
    obtain ⟨h1, h2, h3⟩ := spreadV_inv G hV h (hl v (by simp))
    have hp2 := List.pairwise_cons.1 hp
    refine ih h1 (spreadV_N G hV h N (hl v (by simp)) (fun k hkV hm => ?_)) (fun x hx => hl x (by simp [hx])) hp2.2 (fun k hkV hm => ?_)
    · rcases List.mem_cons.1 (hk k hkV hm) with rfl | h
      · exact Int.le_refl _
      · have := hp2.1 k h; omega
    · have hm2 : (s.m k).isSome = false := by
        cases hs : (s.m k).isSome with
        | false => rfl
        | true => rw [h3 k hs] at hm; cases hm
      rcases List.mem_cons.1 (hk k hkV hm2) with rfl | h
      · rw [h2] at hm; cases hm
      · exact h
theorem bfs {es : List Ed} {V : List Int} (G : GrOk es V) (hV : V.length ≤ 24) (hA : V.Pairwise (· < ·)) {k : Int} (hk : k ∈ V) : (∀ e ∈ atF es k, (gp (growF es V) (otherI e k)).depth ≤ (gp (growF es V) k).depth + 1) ∧ (gp (growF es V) k).root ≤ k := by
  have N := spread_foldN G hV V (s := ⟨fun _ => none, []⟩) ⟨Inv.empty es V, rfl, fun k p h => by simp at h⟩ ⟨fun k p h => by simp at h, fun k p h => by simp at h, fun k p h => by simp at h⟩ (fun v h => h) hA (fun k h _ => h)
  obtain ⟨S1, S2⟩ := spread_inv G hV
  have e := (grow_fold es (spreadF es V).m V (spreadF es V).m G.nodup (fun k => ⟨rfl, rfl⟩) (fun k _ => rfl)).1
  obtain ⟨p, hp⟩ := Option.isSome_iff_exists.1 (S2 k hk)
  have hd : ∀ x, (gp (growF es V) x).depth = (gp (spreadF es V).m x).depth := fun x => (e x).2
  have hr : ∀ x, (gp (growF es V) x).root = (gp (spreadF es V).m x).root := fun x => (e x).1
  refine ⟨fun f hf => ?_, ?_⟩
  · rw [hd, hd, gp_some hp]
    exact N.near k p hp (by show k ∉ (spreadF es V).q; rw [S1.q]; simp) f hf
  · rw [hr, gp_some hp]; exact N.least k p hp

end Go.Proofs.Ythmkmjkbfjhffaa
/- Contracts and facts. -/
set_option linter.unusedSimpArgs false
set_option maxRecDepth 100000
set_option maxHeartbeats 4000000
namespace Go.Proofs.Ythmkmjkbfjhffaa
open Go.RowKit
/-- what can be reached from a over at most n edges -/
def ballF (es : List Ed) (a : Int) : Nat → Int → Bool
  | 0, x => x == a
  | n + 1, x => ballF es a n x || es.any (fun e => (e.src == x && ballF es a n e.dst) || (e.dst == x && ballF es a n e.src))
theorem ball_mono {es : List Ed} {a x : Int} {n : Nat} (h : ballF es a n x = true) : ∀ k, ballF es a (n + k) x = true := by
  intro k
  induction k with
  | zero => exact h
  | succ k ih => show (ballF es a (n + k) x || _) = true; rw [ih]; rfl
theorem ball_step {es : List Ed} {a x : Int} {n : Nat} {e : Ed} (he : e ∈ atF es x) (h : ballF es a n (otherI e x) = true) : ballF es a (n + 1) x = true := by
  show (ballF es a n x || _) = true
  rw [Bool.or_eq_true]; right
  rw [List.any_eq_true]
  obtain ⟨h1, h2⟩ := mem_atF.1 he
  refine ⟨e, h1, ?_⟩
  unfold otherI at h
  by_cases hs : e.src = x
  · rw [if_pos hs] at h; simp [hs, h]
  · rcases h2 with h2 | h2
    · exact absurd h2 hs
    · rw [if_neg hs, if_pos h2] at h; simp [h2, h]
/-- the other way: the last edge -/
theorem ball_last {es : List Ed} {a x : Int} {n : Nat} (h : ballF es a (n + 1) x = true) : ballF es a n x = true ∨ ∃ e ∈ atF es x, ballF es a n (otherI e x) = true := by
  have h : (ballF es a n x || es.any (fun e => (e.src == x && ballF es a n e.dst) || (e.dst == x && ballF es a n e.src))) = true := h
  rw [Bool.or_eq_true] at h
  rcases h with h | h
  · exact .inl h
  · obtain ⟨e, h1, h2⟩ := List.any_eq_true.1 h
    rw [Bool.or_eq_true, Bool.and_eq_true, Bool.and_eq_true] at h2
    rcases h2 with ⟨h2, h3⟩ | ⟨h2, h3⟩
    · have h2 : e.src = x := by simpa using h2
      exact .inr ⟨e, mem_atF.2 ⟨h1, .inl h2⟩, by unfold otherI; rw [if_pos h2]; exact h3⟩
    · have h2 : e.dst = x := by simpa using h2
      by_cases hs : e.src = x
      · rw [hs] at h3; exact .inl h3
      · exact .inr ⟨e, mem_atF.2 ⟨h1, .inr h2⟩, by unfold otherI; rw [if_neg hs, if_pos h2]; exact h3⟩
theorem ball_root {g : Gr} (ho : g.ok = true) {a : Int} : ∀ (n : Nat) {x : Int}, x ∈ keysV g.vs → ballF g.es a n x = true → (gp (mF g) x).root = (gp (mF g) a).root := by
  obtain ⟨G, _, _, F, _⟩ := good_of ho
  intro n
  induction n with
  | zero => intro x _ h; have : x = a := by simpa [ballF] using h
            rw [this]
  | succ n ih =>
    intro x hx h
    rcases ball_last h with h | ⟨e, he, h⟩
    · exact ih hx h
    · rw [← F x hx e he]; exact ih (other_mem G he) h
theorem bfs_of {g : Gr} (ho : g.ok = true) {k : Int} (hk : k ∈ keysV g.vs) : (∀ e ∈ atF g.es k, (gp (mF g) (otherI e k)).depth ≤ (gp (mF g) k).depth + 1) ∧ (gp (mF g) k).root ≤ k := by
  obtain ⟨h1, h2, h3, h4, h5⟩ := good_of ho
  exact bfs h1 h3 h5 hk
theorem ball_depth {g : Gr} (ho : g.ok = true) {r : Int} (hr : (gp (mF g) r).depth = 0) : ∀ (n : Nat) {x : Int}, x ∈ keysV g.vs → ballF g.es r n x = true → (gp (mF g) x).depth ≤ n := by
  obtain ⟨G, _, _, F, _⟩ := good_of ho
  intro n
  induction n with
  | zero => intro x _ h; have : x = r := by simpa [ballF] using h
            rw [this, hr]; exact Int.le_refl _
  | succ n ih =>
    intro x hx h
    rcases ball_last h with h | ⟨e, he, h⟩
    · have := ih hx h; omega
    · have hy := other_mem G he
      have h1 := ih hy h
      have h2 := (bfs_of ho hy).1 e (atF_back he)
      rw [(other_back (mem_atF.1 he).2).1] at h2
      omega
theorem ball_of_depth {g : Gr} (ho : g.ok = true) : ∀ (n : Nat) {x : Int}, x ∈ keysV g.vs → (gp (mF g) x).depth = (n : Int) → ballF g.es (gp (mF g) x).root n x = true := by
  obtain ⟨G, M, _, F, _⟩ := good_of ho
  intro n
  induction n with
  | zero => intro x hx h
            have := (M.rt x hx h).1
            show (x == _) = true
            rw [this]; simp
  | succ n ih =>
    intro x hx h
    obtain ⟨e, he, _, h2, h3, h4⟩ := M.up x hx (by omega)
    have h5 := ih h2 (by omega)
    rw [h3] at h5
    exact ball_step he h5
theorem ball_iff {g : Gr} (ho : g.ok = true) {r x : Int} (hr : r ∈ keysV g.vs) (hx : x ∈ keysV g.vs) (h0 : (gp (mF g) r).depth = 0) (n : Nat) : ballF g.es r n x = true ↔ (gp (mF g) x).root = r ∧ (gp (mF g) x).depth ≤ n := by
  obtain ⟨G, M, _, F, _⟩ := good_of ho
  have hrr := (M.rt r hr h0).1
  constructor
  · intro h
    exact ⟨(ball_root ho n hx h).trans hrr, ball_depth ho h0 n hx h⟩
  · rintro ⟨h1, h2⟩
    have hlo := M.lo x
    obtain ⟨d, hd⟩ : ∃ d : Nat, (gp (mF g) x).depth = (d : Int) := ⟨_, (Int.toNat_of_nonneg hlo).symm⟩
    have h3 := ball_of_depth ho d hx hd
    rw [h1] at h3
    have h4 := ball_mono h3 (n - d)
    rwa [show d + (n - d) = n by omega] at h4
theorem ball_comp {g : Gr} (ho : g.ok = true) {a x : Int} (ha : a ∈ keysV g.vs) (hx : x ∈ keysV g.vs) : ballF g.es a (keysV g.vs).length x = decide ((gp (mF g) x).root = (gp (mF g) a).root) := by
  obtain ⟨G, M, _, F, _⟩ := good_of ho
  rw [Bool.eq_iff_iff, decide_eq_true_iff]
  constructor
  · exact ball_root ho _ hx
  · intro h
    have W := path_walk G M ha hx h.symm
    have hl := walk_len W
    have key : ∀ i, i ≤ (pathF g.es (mF g) a x).length → ballF g.es a i (pvF g.es (mF g) a x i) = true := by
      intro i
      induction i with
      | zero => intro _; rw [W.zero]; show (a == a) = true; simp
      | succ i ih =>
        intro hi
        obtain ⟨e, he, _, e2⟩ := W.step i _ (List.getElem?_eq_getElem (by omega))
        have h1 := ih (by omega)
        rw [← e2]
        refine ball_step (atF_back he) ?_
        rw [(other_back (mem_atF.1 he).2).1]; exact h1
    have h1 := key _ (Nat.le_refl _)
    rw [W.last] at h1
    have h2 := ball_mono h1 ((keysV g.vs).length - (pathF g.es (mF g) a x).length)
    rwa [show (pathF g.es (mF g) a x).length + ((keysV g.vs).length - (pathF g.es (mF g) a x).length) = (keysV g.vs).length by omega] at h2
theorem root_mem {g : Gr} (ho : g.ok = true) : ∀ (n : Nat) {x : Int}, x ∈ keysV g.vs → (gp (mF g) x).depth = (n : Int) → (gp (mF g) x).root ∈ keysV g.vs ∧ (gp (mF g) (gp (mF g) x).root).depth = 0 := by
  obtain ⟨G, M, _, F, _⟩ := good_of ho
  intro n
  induction n with
  | zero => intro x hx h; have := (M.rt x hx h).1; rw [this]; exact ⟨hx, h⟩
  | succ n ih =>
    intro x hx h
    obtain ⟨e, he, _, h2, h3, h4⟩ := M.up x hx (by omega)
    have := ih h2 (by omega)
    rw [h3] at this; exact this
theorem root_ok {g : Gr} (ho : g.ok = true) {x : Int} (hx : x ∈ keysV g.vs) : (gp (mF g) x).root ∈ keysV g.vs ∧ (gp (mF g) (gp (mF g) x).root).depth = 0 ∧ (gp (mF g) (gp (mF g) x).root).root = (gp (mF g) x).root := by
  obtain ⟨G, M, _, F, _⟩ := good_of ho
  obtain ⟨d, hd⟩ : ∃ d : Nat, (gp (mF g) x).depth = (d : Int) := ⟨_, (Int.toNat_of_nonneg (M.lo x)).symm⟩
  obtain ⟨h1, h2⟩ := root_mem ho d hx hd
  exact ⟨h1, h2, (M.rt _ h1 h2).1⟩
/-- the first vertex of the component -/
theorem root_first {g : Gr} (ho : g.ok = true) {x : Int} (hx : x ∈ keysV g.vs) : (keysV g.vs).find? (fun v => ballF g.es x (keysV g.vs).length v) = some (gp (mF g) x).root := by
  obtain ⟨G, M, _, F, hA⟩ := good_of ho
  obtain ⟨h1, h2, h3⟩ := root_ok ho hx
  obtain ⟨i, hi, he⟩ := List.getElem_of_mem h1
  refine List.find?_eq_some_iff_getElem.2 ⟨by rw [ball_comp ho hx h1]; simpa using h3, i, hi, he, fun j hj => ?_⟩
  have hjm : (keysV g.vs)[j] ∈ keysV g.vs := List.getElem_mem (by omega)
  rw [ball_comp ho hx hjm]
  simp only [Bool.not_eq_true', decide_eq_false_iff_not]
  intro h
  have h4 := (bfs_of ho hjm).2
  have h5 := List.pairwise_iff_getElem.1 hA j i (by omega) hi hj
  rw [he] at h5
  omega
theorem up_find (m : PM) (es : List Ed) (k : Int) : upF m k (atF es k) = match es.find? (fun e => decide (e.src = k ∨ e.dst = k) && ((gp m (otherI e k)).depth == (gp m k).depth - 1)) with
    | some e => e.id
    | none => -1 := by
  unfold upF atF
  rw [List.find?_filter]
  congr 2
  funext e
  rw [Bool.eq_iff_iff]
  simp

end Go.Proofs.Ythmkmjkbfjhffaa
