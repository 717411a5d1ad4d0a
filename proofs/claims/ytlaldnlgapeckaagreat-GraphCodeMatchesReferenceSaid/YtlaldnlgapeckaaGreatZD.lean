/- Two ways to read, one that goes on with zeros and one that stops: they agree (plain). -/
import Derived.Test.YtlaldnlgapeckaaGreatZC
import Derived.Test.YtlaldnlgapeckaaGreatZRu
set_option maxHeartbeats 4000000
namespace Go.Proofs.YtlaldnlgapeckaaGreat
structure Agr {α : Type} (st : Int × Bool → α × (Int × Bool)) (one : Int → Option (α × Nat)) : Prop where
 dead : ∀ a, (st (a, false)).2.2 = false
 none_ : ∀ a, one a = none → (st (a, true)).2.2 = false
 some_ : ∀ a x m, one a = some (x, m) → st (a, true) = (x, ((m : Int), true))
structure AgrN {α : Type} (st : Int × Bool → α × (Int × Bool)) (one : Nat → Option (α × Nat)) : Prop where
 dead : ∀ a, (st (a, false)).2.2 = false
 none_ : ∀ a : Nat, one a = none → (st ((a : Int), true)).2.2 = false
 some_ : ∀ (a : Nat) x m, one a = some (x, m) → st ((a : Int), true) = (x, ((m : Int), true))
section
variable {α β γ : Type} {s1 : Int × Bool → α × (Int × Bool)} {o1 : Int → Option (α × Nat)} {n1 : Nat → Option (α × Nat)} {s2 : α → Int × Bool → β × (Int × Bool)} {o2 : α → Nat → Option (β × Nat)}
theorem Agr.n (h : Agr s1 o1) : AgrN s1 (fun m => o1 m) := ⟨h.dead, fun a => h.none_ a, fun a => h.some_ a⟩
theorem Agr.bind (h1 : Agr s1 o1) (h2 : ∀ x, AgrN (s2 x) (o2 x)) : Agr (fun q => s2 (s1 q).1 (s1 q).2) (fun a => (o1 a).bind fun p => o2 p.1 p.2) := by
 have dd : ∀ (x : α) (q : Int × Bool), q.2 = false → (s2 x q).2.2 = false := fun x q hq => by
  obtain ⟨a, b⟩ := q
  simp only at hq
  subst hq
  exact (h2 x).dead a
 refine ⟨fun a => dd _ _ (h1.dead a), fun a h => ?_, fun a x m h => ?_⟩
 · cases e : o1 a with
   | none => exact dd _ _ (h1.none_ a e)
   | some p =>
     obtain ⟨y, m⟩ := p
     simp only [e, Option.bind_some] at h
     simp only [h1.some_ a y m e]
     exact (h2 y).none_ _ h
 · cases e : o1 a with
   | none => simp [e] at h
   | some p =>
     obtain ⟨y, n⟩ := p
     simp only [e, Option.bind_some] at h
     simp only [h1.some_ a y n e]
     exact (h2 y).some_ _ x m h
theorem AgrN.bind (h1 : AgrN s1 n1) (h2 : ∀ x, AgrN (s2 x) (o2 x)) : AgrN (fun q => s2 (s1 q).1 (s1 q).2) (fun a => (n1 a).bind fun p => o2 p.1 p.2) := by
 have dd : ∀ (x : α) (q : Int × Bool), q.2 = false → (s2 x q).2.2 = false := fun x q hq => by
  obtain ⟨a, b⟩ := q
  simp only at hq
  subst hq
  exact (h2 x).dead a
 refine ⟨fun a => dd _ _ (h1.dead a), fun a h => ?_, fun a x m h => ?_⟩
 · cases e : n1 a with
   | none => exact dd _ _ (h1.none_ a e)
   | some p =>
     obtain ⟨y, m⟩ := p
     simp only [e, Option.bind_some] at h
     simp only [h1.some_ a y m e]
     exact (h2 y).none_ _ h
 · cases e : n1 a with
   | none => simp [e] at h
   | some p =>
     obtain ⟨y, n⟩ := p
     simp only [e, Option.bind_some] at h
     simp only [h1.some_ a y n e]
     exact (h2 y).some_ _ x m h
theorem AgrN.map (h1 : AgrN s1 n1) (f : α → γ) : AgrN (fun q => (f (s1 q).1, (s1 q).2)) (fun a => (n1 a).map fun p => (f p.1, p.2)) := by
 refine ⟨fun a => h1.dead a, fun a h => ?_, fun a x m h => ?_⟩
 · simp only [Option.map_eq_none_iff] at h; exact h1.none_ a h
 · simp only [Option.map_eq_some_iff, Prod.mk.injEq] at h
   obtain ⟨p, hp, rfl, rfl⟩ := h
   simp only [h1.some_ a p.1 p.2 hp]
end
theorem agr_int (L : List UInt8) : Agr (stI L) (rdI L) :=
 ⟨fun a => by rw [stI_bad (.inl rfl)], fun a h => by rw [stI_bad (.inr h)], fun a x m h => by rw [stI_ok h]⟩
def stU (L : List UInt8) (most : Int) (q : Int × Bool) : Int × (Int × Bool) := ((stI L q).1, stN most (stI L q))
theorem agr_up (L : List UInt8) (most : Int) : Agr (stU L most) (rU L most) := by
 have h := agr_int L
 refine ⟨fun a => ?_, fun a e => ?_, fun a x m e => ?_⟩
 · unfold stU stN
   split
   · rfl
   · exact h.dead a
 · unfold stU stN
   unfold rU at e
   cases hq : rdI L a with
   | none => split; rfl; exact h.none_ a hq
   | some p =>
     obtain ⟨y, n⟩ := p
     rw [hq] at e
     rw [h.some_ a y n hq]
     simp only at e ⊢
     split
     · rfl
     · rename_i hc
       have hb : inB y 0 most = true := (inB_iff y 0 most).2 (by omega)
       rw [if_pos hb] at e
       cases e
 · unfold stU stN
   unfold rU at e
   cases hq : rdI L a with
   | none => rw [hq] at e; cases e
   | some p =>
     obtain ⟨y, n⟩ := p
     rw [hq] at e
     rw [h.some_ a y n hq]
     simp only at e ⊢
     split at e <;> first | cases e | skip
     rename_i hc
     have hb := (inB_iff _ 0 most).1 hc
     rw [if_neg (by omega)]
theorem agr_list {α : Type} {s : Int × Bool → α × (Int × Bool)} {one : Nat → Option (α × Nat)} (h : AgrN s one) (N : Nat) : AgrN (stL s N) (rMany one N) := by
 refine ⟨fun a => by rw [stL_dead _ _ _ rfl], ?_, ?_⟩
 · induction N with
   | zero => intro a h; cases h
   | succ k ih =>
     intro a e
     unfold stL
     rw [if_pos rfl]
     simp only
     unfold rMany at e
     cases hq : one a with
     | none =>
       have h1 := h.none_ a hq
       rw [stL_dead _ _ _ h1]; exact h1
     | some p =>
       obtain ⟨y, n⟩ := p
       rw [hq] at e
       simp only [Option.bind_some, Option.map_eq_none_iff] at e
       rw [h.some_ a y n hq]
       exact ih n e
 · induction N with
   | zero => intro a x m e; unfold rMany at e; cases e; rfl
   | succ k ih =>
     intro a x m e
     unfold stL
     rw [if_pos rfl]
     unfold rMany at e
     cases hq : one a with
     | none => rw [hq] at e; cases e
     | some p =>
       obtain ⟨y, n⟩ := p
       rw [hq] at e
       simp only [Option.bind_some, Option.map_eq_some_iff, Prod.mk.injEq] at e
       obtain ⟨r, hr, rfl, rfl⟩ := e
       rw [h.some_ a y n hq]
       simp only
       rw [ih n r.1 r.2 hr]
theorem agr_lst {α : Type} {s : Int × Bool → α × (Int × Bool)} {one : Nat → Option (α × Nat)} (h : AgrN s one) (L : List UInt8) (most : Int) : AgrN (stM s L most) (fun m => rLst one L most m) := by
 have h := AgrN.bind (s2 := fun x => stL s x.toNat) (o2 := fun x => rMany one x.toNat) (agr_up L most).n fun x => agr_list h x.toNat
 exact h
def stV (L : List UInt8) (q : Int × Bool) : Vx × (Int × Bool) := (⟨(stI L q).1, (stI L (stI L q).2).1⟩, (stI L (stI L q).2).2)
theorem agr_v (L : List UInt8) : AgrN (stV L) (fun m => rV L m) := by
 have h := AgrN.bind (s2 := fun x q => ((⟨x, (stI L q).1⟩ : Vx), (stI L q).2)) (o2 := fun x a => (rdI L (a : Int)).map fun p => ((⟨x, p.1⟩ : Vx), p.2)) (agr_int L).n fun x => (agr_int L).n.map fun y => (⟨x, y⟩ : Vx)
 exact h
theorem stE4_eq (p : Int × (Int × Bool)) : stE4 p = stN 1 p := by
 unfold stE4 stN
 by_cases h : p.1 = 0 ∨ p.1 = 1
 · rw [if_pos h, if_neg (by omega)]
 · rw [if_neg h, if_pos (by omega)]
theorem agr_e (L : List UInt8) : AgrN (stE L) (fun m => rE L m) := by
 have h := AgrN.bind (s2 := _) (o2 := _) (agr_int L).n fun x1 => AgrN.bind (s2 := _) (o2 := _) (agr_int L).n fun x2 => AgrN.bind (s2 := _) (o2 := _) (agr_int L).n fun x3 =>
  AgrN.bind (s2 := _) (o2 := _) (agr_up L 1).n fun x4 => AgrN.bind (s2 := _) (o2 := _) (agr_int L).n fun x5 => (agr_int L).n.map fun x6 => (⟨x1, x2, x3, x4 == 1, x5, x6⟩ : Ed)
 refine cast ?_ h
 congr 1
 funext q
 unfold stE
 simp only [stE4_eq]
 rfl
def stC (L : List UInt8) (q : Int × Bool) : Ch × (Int × Bool) :=
 let p1 := stI L q; let p2 := stV L p1.2; let p3 := stE L p2.2; let p4 := stI L p3.2; let p5 := stI L p4.2; let p6 := stM (stI L) L 80 p5.2; let p7 := stM (stI L) L 3 p6.2
 (⟨p1.1, p2.1, p3.1, p4.1, p5.1, p6.1, p7.1⟩, p7.2)
theorem agr_c (L : List UInt8) : Agr (stC L) (rCh L) := by
 have h := Agr.bind (s2 := _) (o2 := _) (agr_int L) fun x1 => AgrN.bind (s2 := _) (o2 := _) (agr_v L) fun x2 => AgrN.bind (s2 := _) (o2 := _) (agr_e L) fun x3 =>
  AgrN.bind (s2 := _) (o2 := _) (agr_int L).n fun x4 => AgrN.bind (s2 := _) (o2 := _) (agr_int L).n fun x5 => AgrN.bind (s2 := _) (o2 := _) (agr_lst (agr_int L).n L 80) fun x6 => (agr_lst (agr_int L).n L 3).map fun x7 => (⟨x1, x2, x3, x4, x5, x6, x7⟩ : Ch)
 exact h
end Go.Proofs.YtlaldnlgapeckaaGreat
