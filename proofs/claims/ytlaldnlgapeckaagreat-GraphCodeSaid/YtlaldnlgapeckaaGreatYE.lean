/- What the reader reads is what the writer writes, and nothing else (plain). GraphCode, plain: what is encoded is decoded, wherever it lies; what is decoded is encoded with the bytes that were passed; Changed's changes have an encoding. GraphCode, the walk. -/
import Derived.Test.YtlaldnlgapeckaaGreatYT
import Derived.Test.YtlaldnlgapeckaaGreatYB
import Derived.Test.YtlaldnlgapeckaaGreatYGh
import Derived.Test.YtlaldnlgapeckaaGreatYS
namespace Go.Proofs.YtlaldnlgapeckaaGreat
/-- the bytes bs lie in L at a, and end at m -/
def AtB (L : List UInt8) (a : Nat) (bs : List UInt8) (m : Nat) : Prop := a ≤ L.length ∧ bs <+: L.drop a ∧ m = a + bs.length
theorem AtB.le {L bs : List UInt8} {a m : Nat} (h : AtB L a bs m) : m ≤ L.length := by
  obtain ⟨h1, h2, h3⟩ := h
  have := h2.length_le
  rw [List.length_drop] at this
  omega
theorem AtB.cat {L b1 b2 : List UInt8} {a m1 m : Nat} (h : AtB L a b1 m1) (k : AtB L m1 b2 m) : AtB L a (b1 ++ b2) m := by
  obtain ⟨h1, ⟨t, ht⟩, h3⟩ := h
  obtain ⟨k1, k2, k3⟩ := k
  refine ⟨h1, ?_, by rw [List.length_append]; omega⟩
  have e : L.drop m1 = t := by
    rw [h3, ← List.drop_drop, ← ht, List.drop_left]
  rw [e] at k2
  obtain ⟨r, hr⟩ := k2
  exact ⟨r, by rw [List.append_assoc, hr, ht]⟩
theorem AtB.parts {L b1 b2 : List UInt8} {a m : Nat} (h : AtB L a (b1 ++ b2) m) : AtB L a b1 (a + b1.length) ∧ AtB L (a + b1.length) b2 m := by
  have hm := h.le
  obtain ⟨h1, ⟨t, ht⟩, h3⟩ := h
  rw [List.append_assoc] at ht
  rw [List.length_append] at h3
  refine ⟨⟨h1, ⟨_, ht⟩, rfl⟩, by omega, ⟨t, ?_⟩, by omega⟩
  rw [← List.drop_drop, ← ht, List.drop_left]
theorem AtB.nil (L : List UInt8) (a : Nat) (h : a ≤ L.length) : AtB L a [] a := ⟨h, List.nil_prefix, by simp⟩
theorem AtB.nil_eq {L : List UInt8} {a m : Nat} (h : AtB L a [] m) : m = a := by have := h.2.2; simpa using this
/-- a reader and a writer of one thing -/
structure RW {α : Type} (L : List UInt8) (one : Nat → Option (α × Nat)) (enc : α → List UInt8) (okp : α → Prop) : Prop where
  snd : ∀ a x m, one a = some (x, m) → AtB L a (enc x) m ∧ okp x
  cpl : ∀ a x m, AtB L a (enc x) m → okp x → one a = some (x, m)
theorem rw_int (L : List UInt8) : RW L (fun m => rdI L m) putL inP := by
  refine ⟨fun a x m h => ?_, fun a x m h hx => ?_⟩
  · unfold rdI at h
    split at h
    · cases h
    · rename_i hc
      rw [Int.toNat_natCast] at h
      obtain ⟨h1, h2, h3, h4, h5⟩ := getL_sound L a x m h
      have ha : a ≤ L.length := by omega
      have hm := h3 ha
      refine ⟨⟨ha, ?_, ?_⟩, h1, h2⟩
      · rw [← h5]; exact List.take_prefix _ _
      · rw [← h5, List.length_take, List.length_drop]; omega
  · obtain ⟨h1, ⟨t, ht⟩, h3⟩ := h
    unfold rdI
    rw [if_neg (by omega), Int.toNat_natCast]
    have e : L = L.take a ++ putL x ++ t := by rw [List.append_assoc, ht, List.take_append_drop]
    have h := getL_putL (L.take a) t x hx.1 hx.2
    rw [← e] at h
    rw [List.length_take, Nat.min_eq_left h1] at h
    rw [h, h3]
theorem rw_up (L : List UInt8) (most : Int) : RW L (fun m => rU L most m) putL (fun n => inP n ∧ 0 ≤ n ∧ n ≤ most) := by
  have hi := rw_int L
  refine ⟨fun a x m h => ?_, fun a x m h hx => ?_⟩
  · have h' : rU L most (a : Int) = some (x, m) := h
    unfold rU at h'
    cases e : rdI L (a : Int) with
    | none => rw [e] at h'; cases h'
    | some p =>
      obtain ⟨n, k⟩ := p
      rw [e] at h'
      simp only at h'
      split at h'
      · rename_i hb
        simp only [Option.some.injEq, Prod.mk.injEq] at h'
        obtain ⟨rfl, rfl⟩ := h'
        obtain ⟨h1, h2⟩ := hi.snd a n k e
        exact ⟨h1, h2, (inB_iff _ _ _).1 hb⟩
      · cases h'
  · have h1 := hi.cpl a x m h hx.1
    show rU L most (a : Int) = some (x, m)
    have h1' : rdI L (a : Int) = some (x, m) := h1
    unfold rU
    rw [h1']
    simp only
    rw [if_pos ((inB_iff _ _ _).2 hx.2)]
theorem rw_v (L : List UInt8) : RW L (fun m => rV L m) vB (fun v => inP v.id ∧ inP v.side) := by
  have hi := rw_int L
  refine ⟨fun a x m h => ?_, fun a x m h hx => ?_⟩
  · have h' : rV L (a : Int) = some (x, m) := h
    unfold rV at h'
    cases e1 : rdI L (a : Int) with
    | none => rw [e1] at h'; cases h'
    | some p1 =>
      rw [e1] at h'
      simp only [Option.bind_some] at h'
      cases e2 : rdI L p1.2 with
      | none => rw [e2] at h'; cases h'
      | some p2 =>
        rw [e2] at h'
        simp only [Option.map_some, Option.some.injEq, Prod.mk.injEq] at h'
        obtain ⟨rfl, rfl⟩ := h'
        have k1 := hi.snd a p1.1 p1.2 e1
        have k2 := hi.snd p1.2 p2.1 p2.2 e2
        exact ⟨k1.1.cat k2.1, k1.2, k2.2⟩
  · obtain ⟨h1, h2⟩ := h.parts
    have k1 : rdI L (a : Int) = _ := hi.cpl a _ _ h1 hx.1
    have k2 : rdI L ((a + (putL x.id).length : Nat) : Int) = _ := hi.cpl _ _ _ h2 hx.2
    show rV L (a : Int) = some (x, m)
    unfold rV
    rw [k1]
    simp only [Option.bind_some]
    rw [k2]; rfl
def okE (e : Ed) : Prop := inP e.id ∧ inP e.src ∧ inP e.dst ∧ inP e.wt ∧ inP e.cap
theorem eB_eq (e : Ed) : eB e = putL e.id ++ (putL e.src ++ (putL e.dst ++ (putL (if e.dir = true then 1 else 0) ++ (putL e.wt ++ putL e.cap)))) := by
  unfold eB edN; simp
theorem rw_e (L : List UInt8) : RW L (fun m => rE L m) eB okE := by
  have hi := rw_int L
  have hu := rw_up L 1
  refine ⟨fun a x m h => ?_, fun a x m h hx => ?_⟩
  · have h' : rE L (a : Int) = some (x, m) := h
    unfold rE at h'
    cases e1 : rdI L (a : Int) with
    | none => rw [e1] at h'; cases h'
    | some p1 =>
      rw [e1] at h'; simp only [Option.bind_some] at h'
      cases e2 : rdI L p1.2 with
      | none => rw [e2] at h'; cases h'
      | some p2 =>
        rw [e2] at h'; simp only [Option.bind_some] at h'
        cases e3 : rdI L p2.2 with
        | none => rw [e3] at h'; cases h'
        | some p3 =>
          rw [e3] at h'; simp only [Option.bind_some] at h'
          cases e4 : rU L 1 p3.2 with
          | none => rw [e4] at h'; cases h'
          | some p4 =>
            rw [e4] at h'; simp only [Option.bind_some] at h'
            cases e5 : rdI L p4.2 with
            | none => rw [e5] at h'; cases h'
            | some p5 =>
              rw [e5] at h'; simp only [Option.bind_some] at h'
              cases e6 : rdI L p5.2 with
              | none => rw [e6] at h'; cases h'
              | some p6 =>
                rw [e6] at h'
                simp only [Option.map_some, Option.some.injEq, Prod.mk.injEq] at h'
                obtain ⟨rfl, rfl⟩ := h'
                have k1 := hi.snd a p1.1 p1.2 e1
                have k2 := hi.snd p1.2 p2.1 p2.2 e2
                have k3 := hi.snd p2.2 p3.1 p3.2 e3
                have k4 := hu.snd p3.2 p4.1 p4.2 e4
                have k5 := hi.snd p4.2 p5.1 p5.2 e5
                have k6 := hi.snd p5.2 p6.1 p6.2 e6
                refine ⟨?_, k1.2, k2.2, k3.2, k5.2, k6.2⟩
                rw [eB_eq]
                have hd : (if (p4.1 == 1) = true then (1 : Int) else 0) = p4.1 := by
                  have := k4.2.2
                  split
                  · rename_i q; simpa using (beq_iff_eq.1 q).symm
                  · rename_i q; simp at q; omega
                show AtB L a (putL p1.1 ++ (putL p2.1 ++ (putL p3.1 ++ (putL (if (p4.1 == 1) = true then 1 else 0) ++ (putL p5.1 ++ putL p6.1))))) p6.2
                rw [hd]
                exact k1.1.cat (k2.1.cat (k3.1.cat (k4.1.cat (k5.1.cat k6.1))))
  · rw [eB_eq] at h
    obtain ⟨h1, h⟩ := h.parts
    obtain ⟨h2, h⟩ := h.parts
    obtain ⟨h3, h⟩ := h.parts
    obtain ⟨h4, h⟩ := h.parts
    obtain ⟨h5, h6⟩ := h.parts
    obtain ⟨o1, o2, o3, o5, o6⟩ := hx
    have k1 : rdI L (a : Int) = _ := hi.cpl _ _ _ h1 o1
    have k2 : rdI L ((a + (putL x.id).length : Nat) : Int) = _ := hi.cpl _ _ _ h2 o2
    have k3 : rdI L ((a + (putL x.id).length + (putL x.src).length : Nat) : Int) = _ := hi.cpl _ _ _ h3 o3
    have k4 : rU L 1 ((a + (putL x.id).length + (putL x.src).length + (putL x.dst).length : Nat) : Int) = _ := hu.cpl _ _ _ h4 (by unfold inP; split <;> omega)
    have k5 : rdI L ((a + (putL x.id).length + (putL x.src).length + (putL x.dst).length + (putL (if x.dir = true then 1 else 0)).length : Nat) : Int) = _ := hi.cpl _ _ _ h5 o5
    have k6 : rdI L ((a + (putL x.id).length + (putL x.src).length + (putL x.dst).length + (putL (if x.dir = true then 1 else 0)).length + (putL x.wt).length : Nat) : Int) = _ := hi.cpl _ _ _ h6 o6
    show rE L (a : Int) = some (x, m)
    unfold rE
    rw [k1]; simp only [Option.bind_some]
    rw [k2]; simp only [Option.bind_some]
    rw [k3]; simp only [Option.bind_some]
    rw [k4]; simp only [Option.bind_some]
    rw [k5]; simp only [Option.bind_some]
    rw [k6]
    have hd : ((if x.dir = true then (1 : Int) else 0) == 1) = x.dir := by cases x.dir <;> rfl
    simp only [Option.map_some, hd]
theorem rw_many {α : Type} {L : List UInt8} {one : Nat → Option (α × Nat)} {enc : α → List UInt8} {okp : α → Prop} (h : RW L one enc okp) :
    (∀ n a xs m, a ≤ L.length → rMany one n a = some (xs, m) → AtB L a (xs.flatMap enc) m ∧ xs.length = n ∧ ∀ x ∈ xs, okp x) ∧ (∀ xs a m, AtB L a (xs.flatMap enc) m → (∀ x ∈ xs, okp x) → rMany one xs.length a = some (xs, m)) := by
  constructor
  · intro n
    induction n with
    | zero =>
      intro a xs m ha e
      simp only [rMany, Option.some.injEq, Prod.mk.injEq] at e
      obtain ⟨rfl, rfl⟩ := e
      exact ⟨AtB.nil L a ha, rfl, by simp⟩
    | succ n ih =>
      intro a xs m _ e
      unfold rMany at e
      cases e1 : one a with
      | none => rw [e1] at e; cases e
      | some p =>
        rw [e1] at e
        simp only [Option.bind_some] at e
        cases e2 : rMany one n p.2 with
        | none => rw [e2] at e; cases e
        | some q =>
          rw [e2] at e
          simp only [Option.map_some, Option.some.injEq, Prod.mk.injEq] at e
          obtain ⟨rfl, rfl⟩ := e
          obtain ⟨k1, k2⟩ := h.snd a p.1 p.2 e1
          obtain ⟨k3, k4, k5⟩ := ih p.2 q.1 q.2 k1.le e2
          refine ⟨by rw [List.flatMap_cons]; exact k1.cat k3, by simp [k4], fun x hx => ?_⟩
          rcases List.mem_cons.1 hx with rfl | hx
          · exact k2
          · exact k5 x hx
  · intro xs
    induction xs with
    | nil => intro a m h1 _; rw [List.flatMap_nil] at h1; simp [rMany, h1.nil_eq]
    | cons x t ih =>
      intro a m h1 h2
      rw [List.flatMap_cons] at h1
      obtain ⟨k1, k2⟩ := h1.parts
      rw [List.length_cons]
      unfold rMany
      rw [h.cpl a x _ k1 (h2 x List.mem_cons_self)]
      simp only [Option.bind_some]
      rw [ih _ _ k2 (fun y hy => h2 y (List.mem_cons_of_mem _ hy))]
      rfl
def lsB {α : Type} (enc : α → List UInt8) (xs : List α) : List UInt8 := putL xs.length ++ xs.flatMap enc
theorem rw_list {α : Type} {L : List UInt8} {one : Nat → Option (α × Nat)} {enc : α → List UInt8} {okp : α → Prop} (h : RW L one enc okp) (most : Int) (hmo : most ≤ 1000) :
    RW L (fun m => rLst one L most m) (lsB enc) (fun xs => (xs.length : Int) ≤ most ∧ ∀ x ∈ xs, okp x) := by
  have hu := rw_up L most
  obtain ⟨h1, h2⟩ := rw_many h
  refine ⟨fun a xs m e => ?_, fun a xs m e hx => ?_⟩
  · have e' : rLst one L most (a : Int) = some (xs, m) := e
    unfold rLst at e'
    cases e1 : rU L most (a : Int) with
    | none => rw [e1] at e'; cases e'
    | some p =>
      rw [e1] at e'
      simp only [Option.bind_some] at e'
      obtain ⟨k1, k2, k3, k4⟩ := hu.snd a p.1 p.2 e1
      obtain ⟨k5, k6, k7⟩ := h1 _ _ _ _ k1.le e'
      have hl : (xs.length : Int) = p.1 := by omega
      refine ⟨?_, by omega, k7⟩
      unfold lsB
      rw [hl]
      exact k1.cat k5
  · obtain ⟨k1, k2⟩ := AtB.parts (b1 := putL xs.length) (b2 := xs.flatMap enc) e
    have e1 : rU L most (a : Int) = _ := hu.cpl a _ _ k1 (by unfold inP; omega)
    show rLst one L most (a : Int) = some (xs, m)
    unfold rLst
    rw [e1]
    simp only [Option.bind_some, Int.toNat_natCast]
    exact h2 xs _ _ k2 hx.2
def okG (g : Gr) : Prop := g.ok = true
theorem encB_eq (g : Gr) : encB g = lsB vB g.vs ++ (lsB eB g.es ++ lsB putL g.ds) := by
  unfold encB lsB lB; simp
theorem rw_graph (L : List UInt8) : RW L (fun m => rGr L m) encB okG := by
  have h1 := rw_list (rw_v L) 24 (by omega)
  have h2 := rw_list (rw_e L) 40 (by omega)
  have h3 := rw_list (rw_int L) 3 (by omega)
  refine ⟨fun a g m e => ?_, fun a g m e hg => ?_⟩
  · have e' : rGr L (a : Int) = some (g, m) := e
    unfold rGr at e'
    cases e1 : rLst (fun m => rV L m) L 24 (a : Int) with
    | none => rw [e1] at e'; cases e'
    | some p =>
      rw [e1] at e'; simp only [Option.bind_some] at e'
      cases e2 : rLst (fun m => rE L m) L 40 p.2 with
      | none => rw [e2] at e'; cases e'
      | some q =>
        rw [e2] at e'; simp only [Option.bind_some] at e'
        cases e3 : rLst (fun m => rdI L m) L 3 q.2 with
        | none => rw [e3] at e'; cases e'
        | some r =>
          rw [e3] at e'; simp only [Option.bind_some] at e'
          split at e'
          · rename_i hok
            simp only [Option.some.injEq, Prod.mk.injEq] at e'
            obtain ⟨rfl, rfl⟩ := e'
            have k1 := (h1.snd a p.1 p.2 e1).1
            have k2 := (h2.snd p.2 q.1 q.2 e2).1
            have k3 := (h3.snd q.2 r.1 r.2 e3).1
            refine ⟨?_, hok⟩
            rw [encB_eq]
            exact k1.cat (k2.cat k3)
          · cases e'
  · rw [encB_eq] at e
    obtain ⟨k1, e⟩ := e.parts
    obtain ⟨k2, k3⟩ := e.parts
    have ho := (ok_iff g).1 hg
    have hvl := ho.vlen
    have hel := ho.elen
    have hdl := ho.dlen
    have j1 : rLst (fun m => rV L m) L 24 (a : Int) = _ := h1.cpl _ _ _ k1 ⟨by omega, fun v hv => ho.inV v hv⟩
    have j2 : rLst (fun m => rE L m) L 40 ((a + (lsB vB g.vs).length : Nat) : Int) = _ := h2.cpl _ _ _ k2 ⟨by omega, fun e he => by
      have h := ho.inE e he
      simp only [edN, List.mem_cons, List.not_mem_nil, or_false, forall_eq_or_imp, forall_eq] at h
      exact ⟨h.1, h.2.1, h.2.2.1, h.2.2.2.2.1, h.2.2.2.2.2⟩⟩
    have j3 : rLst (fun m => rdI L m) L 3 ((a + (lsB vB g.vs).length + (lsB eB g.es).length : Nat) : Int) = _ := h3.cpl _ _ _ k3 ⟨by omega, fun d hd => ho.inD d hd⟩
    show rGr L (a : Int) = some (g, m)
    unfold rGr
    rw [j1]; simp only [Option.bind_some]
    rw [j2]; simp only [Option.bind_some]
    rw [j3]; simp only [Option.bind_some]
    exact if_pos hg
def chB (c : Ch) : List UInt8 := putL c.kind ++ (vB c.v ++ (eB c.e ++ (putL c.id ++ (putL c.n ++ (lsB putL c.ends ++ lsB putL c.deps)))))
theorem chB_eq (c : Ch) : (chN c).flatMap putL = chB c := by unfold chN chB vB eB lsB; simp [List.flatMap_append]
def okCh (c : Ch) : Prop := inP c.kind ∧ (inP c.v.id ∧ inP c.v.side) ∧ okE c.e ∧ inP c.id ∧ inP c.n ∧ ((c.ends.length : Int) ≤ 80 ∧ ∀ x ∈ c.ends, inP x) ∧ ((c.deps.length : Int) ≤ 3 ∧ ∀ x ∈ c.deps, inP x)
theorem rw_change (L : List UInt8) : RW L (fun m => rCh L m) chB okCh := by
  have hi := rw_int L
  have hv := rw_v L
  have he := rw_e L
  have h6 := rw_list hi 80 (by omega)
  have h7 := rw_list hi 3 (by omega)
  refine ⟨fun a x m h => ?_, fun a x m h hx => ?_⟩
  · have h' : rCh L (a : Int) = some (x, m) := h
    unfold rCh at h'
    cases e1 : rdI L (a : Int) with
    | none => rw [e1] at h'; cases h'
    | some p1 =>
      rw [e1] at h'; simp only [Option.bind_some] at h'
      cases e2 : rV L p1.2 with
      | none => rw [e2] at h'; cases h'
      | some p2 =>
        rw [e2] at h'; simp only [Option.bind_some] at h'
        cases e3 : rE L p2.2 with
        | none => rw [e3] at h'; cases h'
        | some p3 =>
          rw [e3] at h'; simp only [Option.bind_some] at h'
          cases e4 : rdI L p3.2 with
          | none => rw [e4] at h'; cases h'
          | some p4 =>
            rw [e4] at h'; simp only [Option.bind_some] at h'
            cases e5 : rdI L p4.2 with
            | none => rw [e5] at h'; cases h'
            | some p5 =>
              rw [e5] at h'; simp only [Option.bind_some] at h'
              cases e6 : rLst (fun m => rdI L m) L 80 p5.2 with
              | none => rw [e6] at h'; cases h'
              | some p6 =>
                rw [e6] at h'; simp only [Option.bind_some] at h'
                cases e7 : rLst (fun m => rdI L m) L 3 p6.2 with
                | none => rw [e7] at h'; cases h'
                | some p7 =>
                  rw [e7] at h'
                  simp only [Option.map_some, Option.some.injEq, Prod.mk.injEq] at h'
                  obtain ⟨rfl, rfl⟩ := h'
                  have k1 := hi.snd a p1.1 p1.2 e1
                  have k2 := hv.snd p1.2 p2.1 p2.2 e2
                  have k3 := he.snd p2.2 p3.1 p3.2 e3
                  have k4 := hi.snd p3.2 p4.1 p4.2 e4
                  have k5 := hi.snd p4.2 p5.1 p5.2 e5
                  have k6 := h6.snd p5.2 p6.1 p6.2 e6
                  have k7 := h7.snd p6.2 p7.1 p7.2 e7
                  exact ⟨k1.1.cat (k2.1.cat (k3.1.cat (k4.1.cat (k5.1.cat (k6.1.cat k7.1))))), k1.2, k2.2, k3.2, k4.2, k5.2, k6.2, k7.2⟩
  · obtain ⟨o1, o2, o3, o4, o5, o6, o7⟩ := hx
    unfold chB at h
    obtain ⟨q1, h⟩ := h.parts
    obtain ⟨q2, h⟩ := h.parts
    obtain ⟨q3, h⟩ := h.parts
    obtain ⟨q4, h⟩ := h.parts
    obtain ⟨q5, h⟩ := h.parts
    obtain ⟨q6, q7⟩ := h.parts
    have k1 : rdI L ((_ : Nat) : Int) = _ := hi.cpl _ _ _ q1 o1
    have k2 : rV L ((_ : Nat) : Int) = _ := hv.cpl _ _ _ q2 o2
    have k3 : rE L ((_ : Nat) : Int) = _ := he.cpl _ _ _ q3 o3
    have k4 : rdI L ((_ : Nat) : Int) = _ := hi.cpl _ _ _ q4 o4
    have k5 : rdI L ((_ : Nat) : Int) = _ := hi.cpl _ _ _ q5 o5
    have k6 : rLst (fun m => rdI L m) L 80 ((_ : Nat) : Int) = _ := h6.cpl _ _ _ q6 o6
    have k7 : rLst (fun m => rdI L m) L 3 ((_ : Nat) : Int) = _ := h7.cpl _ _ _ q7 o7
    show rCh L (a : Int) = some (x, m)
    unfold rCh
    rw [k1]; simp only [Option.bind_some]
    rw [k2]; simp only [Option.bind_some]
    rw [k3]; simp only [Option.bind_some]
    rw [k4]; simp only [Option.bind_some]
    rw [k5]; simp only [Option.bind_some]
    rw [k6]; simp only [Option.bind_some]
    rw [k7]; rfl
end Go.Proofs.YtlaldnlgapeckaaGreat
namespace Go.Proofs.YtlaldnlgapeckaaGreat
def bsOf (l : List UInt8) : ByteArray := ⟨l.toArray⟩
theorem bsOf_size (l : List UInt8) : (bsOf l).size = l.length := by simp [bsOf, ByteArray.size]
theorem at_mid (P Q : ByteArray) (l : List UInt8) : AtB ((P ++ bsOf l) ++ Q).data.toList P.size l (P.size + l.length) := by
  have e : ((P ++ bsOf l) ++ Q).data.toList = P.data.toList ++ (l ++ Q.data.toList) := by simp [bsOf, ByteArray.data_append]
  have z : P.size = P.data.toList.length := by rw [Array.length_toList]; rfl
  rw [e, z]
  refine ⟨by simp, ?_, rfl⟩
  rw [List.drop_left]
  exact List.prefix_append _ _
theorem dec_enc (P Q : ByteArray) (g : Gr) (h : g.ok = true) : rGr ((P ++ bsOf (encB g)) ++ Q).data.toList (P.size : Nat) = some (g, P.size + (encB g).length) :=
  (rw_graph _).cpl _ _ _ (at_mid P Q _) h
theorem decC_enc (P Q : ByteArray) (c : Ch) (h : okCh c) : rCh ((P ++ bsOf (chB c)) ++ Q).data.toList (P.size : Nat) = some (c, P.size + (chB c).length) :=
  (rw_change _).cpl _ _ _ (at_mid P Q _) h
theorem at_cut {S : ByteArray} {a m : Nat} {l : List UInt8} (h : AtB S.data.toList a l m) : m ≤ S.size ∧ bsOf l = S.extract a m := by
  have h1 := h.le
  obtain ⟨h2, ⟨t, ht⟩, h3⟩ := h
  have z : S.size = S.data.toList.length := by rw [Array.length_toList]; rfl
  refine ⟨by omega, ?_⟩
  apply ByteArray.ext
  apply Array.toList_inj.1
  have e1 : (bsOf l).data.toList = l := by simp [bsOf]
  have e2 : (S.extract a m).data.toList = (S.data.toList.drop a).take (m - a) := by simp [ByteArray.data_extract]
  rw [e1, e2, ← ht, h3, Nat.add_sub_cancel_left, List.take_left]
theorem putL_pos (n : Int) : 0 < (putL n).length := (putL_len n).1
theorem rdI_neg (l : List UInt8) (a : Int) (h : a < 0) : rdI l a = none := by unfold rdI; rw [if_pos (.inl h)]
theorem enc_dec (S : ByteArray) (a : Int) (g : Gr) (m : Nat) (h : rGr S.data.toList a = some (g, m)) : 0 ≤ a ∧ a < (m : Int) ∧ m ≤ S.size ∧ g.ok = true ∧ bsOf (encB g) = S.extract a.toNat m := by
  have h0 : 0 ≤ a := by
    apply Classical.byContradiction
    intro hc
    unfold rGr rLst rU at h
    rw [rdI_neg _ _ (by omega)] at h
    simp at h
  obtain ⟨n, rfl⟩ : ∃ n : Nat, a = n := ⟨a.toNat, by omega⟩
  obtain ⟨h1, h2⟩ := (rw_graph _).snd n g m h
  obtain ⟨h3, h4⟩ := at_cut h1
  have h5 := h1.2.2
  have h6 : 0 < (encB g).length := by
    have := putL_pos g.vs.length
    unfold encB
    simp only [List.length_append]; omega
  exact ⟨h0, by omega, h3, h2, by rw [Int.toNat_natCast]; exact h4⟩
theorem encC_dec (S : ByteArray) (a : Int) (c : Ch) (m : Nat) (h : rCh S.data.toList a = some (c, m)) : 0 ≤ a ∧ a < (m : Int) ∧ m ≤ S.size ∧ okCh c ∧ bsOf (chB c) = S.extract a.toNat m := by
  have h0 : 0 ≤ a := by
    apply Classical.byContradiction
    intro hc
    unfold rCh at h
    rw [rdI_neg _ _ (by omega)] at h
    simp at h
  obtain ⟨n, rfl⟩ : ∃ n : Nat, a = n := ⟨a.toNat, by omega⟩
  obtain ⟨h1, h2⟩ := (rw_change _).snd n c m h
  obtain ⟨h3, h4⟩ := at_cut h1
  have h5 := h1.2.2
  have h6 : 0 < (chB c).length := by
    have := putL_pos c.kind
    unfold chB
    simp only [List.length_append]; omega
  exact ⟨h0, by omega, h3, h2, by rw [Int.toNat_natCast]; exact h4⟩
theorem okCh_N {c : Ch} (h : okCh c) : ∀ n ∈ chN c, inP n := by
  obtain ⟨h1, ⟨h2, h3⟩, ⟨e1, e2, e3, e4, e5⟩, h4, h5, ⟨h6, h7⟩, h8, h9⟩ := h
  intro n hn
  simp only [chN, edN, List.mem_append, List.mem_cons, List.not_mem_nil, or_false, or_assoc] at hn
  rcases hn with rfl | rfl | rfl | rfl | rfl | rfl | rfl | rfl | rfl | rfl | rfl | rfl | hn | rfl | hn
  all_goals first | assumption | exact h7 _ hn | exact h9 _ hn | (unfold inP; omega) | (unfold inP; split <;> omega)
theorem okCh_enc {c : Ch} (h : okCh c) : encCOk c = true := by
  unfold encCOk
  rw [(okP_iff _).2 (okCh_N h)]
  have h1 := h.2.2.2.2.2.1.1
  have h2 := h.2.2.2.2.2.2.1
  simp; omega
theorem okCh_I {c : Ch} (h : okCh c) : ∀ n ∈ chN c, inI n := fun n hn => by
  have := okCh_N h n hn
  unfold inP at this; unfold inI; omega
theorem getD_P {ks : List Int} (h : ∀ k ∈ ks, inP k) (i : Nat) : inP (ks.getD i 0) := by
  rw [List.getD_eq_getElem?_getD]
  by_cases hi : i < ks.length
  · rw [List.getElem?_eq_getElem hi]; exact h _ (List.getElem_mem _)
  · rw [List.getElem?_eq_none (by omega)]; unfold inP; simp
theorem pk_P (x m : Int) (h : 1 ≤ m) (h2 : m ≤ 1000) : inP (pk x m) := by
  have := pk_lo x m h
  have := pk_lt x m h
  unfold inP; omega
theorem chDepN_three (ks : List Int) (d : Int) : ∀ f k, (chDeps ks d k).length ≤ 3 → (chDeps ks d (chDepN ks d f k)).length ≤ 3 := by
  intro f
  induction f with
  | zero => intro k h; exact h
  | succ f ih =>
    intro k h
    unfold chDepN
    split
    · rename_i hc
      apply ih
      unfold chDeps
      split
      · rw [List.length_append, List.length_singleton]; omega
      · omega
    · exact h
theorem chDeps_P (ks : List Int) (hk : ∀ k ∈ ks, inP k) (d : Int) : ∀ k, ∀ x ∈ chDeps ks d k, inP x := by
  intro k
  induction k with
  | zero => intro x hx; simp [chDeps] at hx
  | succ k ih =>
    intro x hx
    unfold chDeps at hx
    split at hx
    · rcases List.mem_append.1 hx with h | h
      · exact ih x h
      · rw [List.mem_singleton.1 h]; exact getD_P hk _
    · exact ih x hx
theorem chEnds_P (es : List Ed) (id e : Int) : ∀ x ∈ chEnds es id e 80, inP x := by
  intro x hx
  unfold chEnds at hx
  obtain ⟨i, hi, rfl⟩ := List.mem_map.1 hx
  have := List.mem_range.1 (List.mem_filter.1 hi).1
  unfold inP; omega
theorem changed_okCh (g : Gr) (x : F6) (hg : Ok g) : okCh (changedC g x) := by
  have hkv : ∀ k ∈ keysV g.vs, inP k := fun k hk => by
    obtain ⟨v, hv, rfl⟩ := mem_keysV.1 hk
    exact (hg.inV v hv).1
  have hke : ∀ k ∈ keysE g.es, inP k := fun k hk => by
    obtain ⟨v, hv, rfl⟩ := mem_keysE.1 hk
    exact hg.inE v hv _ (by simp [edN])
  have z : inP 0 := by unfold inP; omega
  have q1 : inP (chId g x) := by unfold chId; split; · exact getD_P hkv _
                                 · exact pk_P _ _ (by omega) (by omega)
  have q2 : inP (chOther g x) := by unfold chOther; split; · exact getD_P hkv _
                                    · exact pk_P _ _ (by omega) (by omega)
  have q3 : inP (chEdge g x) := by unfold chEdge; split; · exact getD_P hke _
                                   · exact pk_P _ _ (by omega) (by omega)
  have q4 : inP (chFree g x) := by
    have := freeF_in (keysV g.vs) 24 (pk x.d 24) (pk_lo _ _ (by omega)) (pk_lt _ _ (by omega))
    unfold chFree inP; omega
  have q5 : inP (chSpare g x) := by
    have := freeF_in (keysE g.es) 40 (pk x.e 40) (pk_lo _ _ (by omega)) (pk_lt _ _ (by omega))
    unfold chSpare inP; omega
  have q6 : inP (pk x.d 12 - 3) := by
    have := pk_lo x.d 12 (by omega)
    have := pk_lt x.d 12 (by omega)
    unfold inP; omega
  have p4 := pk_P x.e 4 (by omega) (by omega)
  have p6 := pk_P x.f 6 (by omega) (by omega)
  have p7 := pk_P x.d 6 (by omega) (by omega)
  have p8 := pk_P x.d 4 (by omega) (by omega)
  have n1 := chEnds_len g.es (chId g x) x.e 80
  have n2 := chEnds_P g.es (chId g x) x.e
  have n3 := chDepN_three (keysV g.vs) x.d g.vs.length 0 (by simp [chDeps])
  have n4 := chDeps_P (keysV g.vs) hkv x.d (chDepN (keysV g.vs) x.d g.vs.length 0)
  have k : ∀ n : Int, 0 ≤ n → n ≤ 10 → inP n := fun n h1 h2 => by unfold inP; omega
  have e0 : ∀ n ∈ ([] : List Int), inP n := fun n h => by simp at h
  unfold changedC
  dsimp only
  repeat' split
  all_goals (unfold okCh okE; simp only [zC, zV, zE])
  all_goals (refine ⟨k _ (by omega) (by omega), ⟨?_, ?_⟩, ⟨?_, ?_, ?_, ?_, ?_⟩, ?_, ?_, ⟨?_, ?_⟩, ?_, ?_⟩)
  all_goals first | assumption | (simp; done) | omega
end Go.Proofs.YtlaldnlgapeckaaGreat
namespace Go.Proofs.YtlaldnlgapeckaaGreat
open Go.RowKit
theorem cmin_run (x m : Nat) (ts : Array TypeId) (t : TypeId) (w : World) (c : Int) (hc : c = m) : (Builtin.min_ ts t #[.int .i64 (x : Int), .int .i64 c]).run Tryz.prog w = .ok (.int .i64 ((min x m : Nat) : Int)) w := by
  rw [run_min_int2]
  subst hc
  congr 2
  split <;> omega
theorem ccut_size (s : ByteArray) (m : Nat) (h : m ≤ s.size) : (s.extract 0 m).size = m := by simp; omega
theorem encB_len (g : Gr) (h : Ok g) : (encB g).length ≤ 100000 := by
  have h1 := h.vlen
  have h2 := h.elen
  have h3 := h.dlen
  have a1 : ∀ l : List Vx, (l.flatMap vB).length ≤ 18 * l.length := fun l => by
    induction l with
    | nil => simp
    | cons v t ih =>
      have := (putL_len v.id).2
      have := (putL_len v.side).2
      simp only [List.flatMap_cons, List.length_append, List.length_cons, vB]; omega
  have a2 : ∀ l : List Ed, (l.flatMap eB).length ≤ 54 * l.length := fun l => by
    induction l with
    | nil => simp
    | cons e t ih =>
      have := (putL_len e.id).2
      have := (putL_len e.src).2
      have := (putL_len e.dst).2
      have := (putL_len (if e.dir = true then 1 else 0)).2
      have := (putL_len e.wt).2
      have := (putL_len e.cap).2
      rw [List.flatMap_cons, eB_eq]
      simp only [List.length_append, List.length_cons]; omega
  have a3 : ∀ l : List Int, (l.flatMap putL).length ≤ 9 * l.length := fun l => by
    induction l with
    | nil => simp
    | cons v t ih =>
      have := (putL_len v).2
      simp only [List.flatMap_cons, List.length_append, List.length_cons]; omega
  have b1 := a1 g.vs
  have b2 := a2 g.es
  have b3 := a3 g.ds
  have c1 := (putL_len g.vs.length).2
  have c2 := (putL_len g.es.length).2
  have c3 := (putL_len g.ds.length).2
  rw [encB_eq]
  unfold lsB
  simp only [List.length_append]; omega
theorem chB_len (c : Ch) (h : okCh c) : (chB c).length ≤ 100000 := by
  have a3 : ∀ l : List Int, (l.flatMap putL).length ≤ 9 * l.length := fun l => by
    induction l with
    | nil => simp
    | cons v t ih =>
      have := (putL_len v).2
      simp only [List.flatMap_cons, List.length_append, List.length_cons]; omega
  rw [← chB_eq]
  have b := a3 (chN c)
  have n1 := h.2.2.2.2.2.1.1
  have n2 := h.2.2.2.2.2.2.1
  have : (chN c).length ≤ 100 := by
    unfold chN edN
    simp only [List.length_append, List.length_cons, List.length_nil]; omega
  omega
/-- what Decode answers, uniformly -/
def DecP (S : ByteArray) (a : Int) (W : World) (e : Ending) (w' : World) : Prop :=
  (∃ x1 x2 x3 x4 x5 x6 : _, ∃ n1 n2 n3 m : Nat, ∃ g : Gr, e = .returned (.tuple #[.agg #[.slice x1 n1 x2, .slice x3 n2 x4, .slice x5 n3 x6], .int .i64 (m : Nat), .int .i64 0]) ∧ (OwnV w' W.heap.size (.slice x1 n1 x2) g.vs ∧ OwnEd w' W.heap.size (.slice x3 n2 x4) g.es ∧ OwnI w' W.heap.size (.slice x5 n3 x6) g.ds) ∧ rGr S.data.toList a = some (g, m) ∧ Below W.heap.size W w') ∨ (e = .returned (.tuple #[.agg #[.slice none 0 0, .slice none 0 0, .slice none 0 0], .int .i64 0, .int .i64 30]) ∧ rGr S.data.toList a = none ∧ Below W.heap.size W w')
theorem dec_any (S : ByteArray) (a : Int) (w : World) (hs : S.size ≤ maxLen) (h1 : -9223372036854775808 ≤ a) (h2 : a ≤ 9223372036854775807) : Calls Tryz.prog 38 #[.string S, .int .i64 a] w (DecP S a w) :=
  (Decode_any S a w hs h1 h2).mono fun e w' h => by
    unfold DPost at h
    split at h
    · rename_i hr; exact .inr ⟨h.1, hr, h.2⟩
    · rename_i g m hr
      obtain ⟨x, y, z, he, o1, o2, o3, hb⟩ := h
      obtain ⟨a1, a2, rfl⟩ := o1.VL.shape
      obtain ⟨b1, b2, rfl⟩ := o2.EL.shape
      obtain ⟨c1, c2, rfl⟩ := o3.DL.shape
      exact .inl ⟨_, _, _, _, _, _, _, _, _, m, g, he, ⟨o1, o2, o3⟩, hr, hb⟩
def DecCP (S : ByteArray) (a : Int) (W : World) (e : Ending) (w' : World) : Prop :=
  (∃ x1 x2 x3 x4 : _, ∃ n1 n2 m : Nat, ∃ c : Ch, e = .returned (.tuple #[.agg (chCells c (.slice x1 n1 x2) (.slice x3 n2 x4)), .int .i64 (m : Nat), .int .i64 0]) ∧ (OwnI w' W.heap.size (.slice x1 n1 x2) c.ends ∧ OwnI w' W.heap.size (.slice x3 n2 x4) c.deps) ∧ rCh S.data.toList a = some (c, m) ∧ Below W.heap.size W w') ∨ (e = .returned (.tuple #[.agg (chCells zC (.slice none 0 0) (.slice none 0 0)), .int .i64 0, .int .i64 30]) ∧ rCh S.data.toList a = none ∧ Below W.heap.size W w')
theorem decC_any (S : ByteArray) (a : Int) (w : World) (hs : S.size ≤ maxLen) (h1 : -9223372036854775808 ≤ a) (h2 : a ≤ 9223372036854775807) : Calls Tryz.prog 36 #[.string S, .int .i64 a] w (DecCP S a w) :=
  (DecodeChange_any S a w hs h1 h2).mono fun e w' h => by
    unfold DCPost at h
    split at h
    · rename_i hr; exact .inr ⟨h.1, hr, h.2⟩
    · rename_i c m hr
      obtain ⟨x, y, he, o2, o3, hb⟩ := h
      obtain ⟨b1, b2, rfl⟩ := o2.DL.shape
      obtain ⟨c1, c2, rfl⟩ := o3.DL.shape
      exact .inl ⟨_, _, _, _, _, _, m, c, he, ⟨o2, o3⟩, hr, hb⟩
/-- the graph's encoding between others -/
theorem dec_mid (P Q : ByteArray) (g : Gr) (T : ByteArray) (hT : T = bsOf (encB g)) (ho : g.ok = true) (W : World) (hP : P.size ≤ 30) (hQ : Q.size ≤ 30) (hz : T.size ≤ 100000) : Calls Tryz.prog 38 #[.string (P ++ T ++ Q), .int .i64 (P.size : Int)] W fun e w' => ∃ x1 x2 x3 x4 x5 x6, ∃ n1 n2 n3 : Nat, e = .returned (.tuple #[.agg #[.slice x1 n1 x2, .slice x3 n2 x4, .slice x5 n3 x6], .int .i64 ((P.size : Int) + (T.size : Int)), .int .i64 0]) ∧ GV w' (.agg #[.slice x1 n1 x2, .slice x3 n2 x4, .slice x5 n3 x6]) g ∧ Below W.heap.size W w' := by
  refine (dec_any (P ++ T ++ Q) (P.size : Nat) W (by simp only [ByteArray.size_append]; unfold maxLen; omega) (by omega) (by omega)).mono fun e w' h => ?_
  have hd := dec_enc P Q g ho
  rw [← hT] at hd
  have e1 : (encB g).length = T.size := by rw [hT, bsOf_size]
  rcases h with ⟨x1, x2, x3, x4, x5, x6, n1, n2, n3, m, g', he, hg, hr, hb⟩ | ⟨he, hr, hb⟩
  · rw [hd] at hr
    simp only [Option.some.injEq, Prod.mk.injEq] at hr
    obtain ⟨rfl, rfl⟩ := hr
    exact ⟨_, _, _, _, _, _, _, _, _, by rw [he, e1]; simp, ⟨_, _, _, rfl, hg.1.VL, hg.2.1.EL, hg.2.2.DL⟩, hb⟩
  · rw [hd] at hr; cases hr
theorem decC_mid (P Q : ByteArray) (c : Ch) (T : ByteArray) (hT : T = bsOf (chB c)) (ho : okCh c) (W : World) (hP : P.size ≤ 30) (hQ : Q.size ≤ 30) (hz : T.size ≤ 100000) : Calls Tryz.prog 36 #[.string (P ++ T ++ Q), .int .i64 (P.size : Int)] W fun e w' => ∃ x1 x2 x3 x4, ∃ n1 n2 : Nat, e = .returned (.tuple #[.agg (chCells c (.slice x1 n1 x2) (.slice x3 n2 x4)), .int .i64 ((P.size : Int) + (T.size : Int)), .int .i64 0]) ∧ (DL w' (.slice x1 n1 x2) c.ends ∧ DL w' (.slice x3 n2 x4) c.deps) ∧ Below W.heap.size W w' := by
  refine (decC_any (P ++ T ++ Q) (P.size : Nat) W (by simp only [ByteArray.size_append]; unfold maxLen; omega) (by omega) (by omega)).mono fun e w' h => ?_
  have hd := decC_enc P Q c ho
  rw [← hT] at hd
  have e1 : (chB c).length = T.size := by rw [hT, bsOf_size]
  rcases h with ⟨x1, x2, x3, x4, n1, n2, m, g', he, hg, hr, hb⟩ | ⟨he, hr, hb⟩
  · rw [hd] at hr
    simp only [Option.some.injEq, Prod.mk.injEq] at hr
    obtain ⟨rfl, rfl⟩ := hr
    exact ⟨_, _, _, _, _, _, by rw [he, e1]; simp, ⟨hg.1.DL, hg.2.DL⟩, hb⟩
  · rw [hd] at hr; cases hr
theorem encC_ok (v : Value) (c : Ch) (W : World) (hv : CV W v c) (ho : okCh c) : Calls Tryz.prog 34 #[v] W fun e w' => e = .returned (.tuple #[.string (bsOf (chB c)), .int .i64 0]) ∧ Below W.heap.size W w' :=
  (EncodeChange_any v c W hv (okCh_I ho) ⟨by have := ho.2.2.2.2.2.1.1; omega, by have := ho.2.2.2.2.2.2.1; omega⟩).mono fun e w' h => by
    obtain ⟨h, hb⟩ := h
    rw [if_pos (okCh_enc ho), chB_eq] at h
    exact ⟨h, hb⟩
theorem encG_ok (v : Value) (g : Gr) (W : World) (hv : GV W v g) (ho : Ok g) : Calls Tryz.prog 32 #[v] W fun e w' => e = .returned (.tuple #[.string (bsOf (encB g)), .int .i64 0]) ∧ Below W.heap.size W w' :=
  enc_ok v g W hv ⟨by have := ho.vlen; omega, by have := ho.elen; omega, by have := ho.dlen; omega⟩ ((ok_iff g).2 ho)
theorem cmax_run (k m : Nat) (h : k < m) (ts : Array TypeId) (t : TypeId) (w : World) : (Builtin.max_ ts t #[.int .i64 (k : Int), .int .i64 (m : Int)]).run Tryz.prog w = .ok (.int .i64 (m : Int)) w := by
  rw [run_max_int2, if_pos (by omega)]
/-- what is decoded is encoded with the bytes that were passed -/
theorem enc_back (S : ByteArray) (a : Int) (g : Gr) (m : Nat) (h : rGr S.data.toList a = some (g, m)) : ∃ k : Nat, a = k ∧ k < m ∧ m ≤ S.size ∧ ∀ v W, GV W v g → Calls Tryz.prog 32 #[v] W fun e w' => e = .returned (.tuple #[.string (S.extract k m), .int .i64 0]) ∧ Below W.heap.size W w' := by
  obtain ⟨h1, h2, h3, h4, h5⟩ := enc_dec S a g m h
  obtain ⟨k, rfl⟩ : ∃ k : Nat, a = k := ⟨a.toNat, by omega⟩
  rw [Int.toNat_natCast] at h5
  refine ⟨k, rfl, by omega, h3, fun v W hv => ?_⟩
  rw [← h5]
  exact encG_ok v g W hv ((ok_iff g).1 h4)
theorem encC_back (S : ByteArray) (a : Int) (c : Ch) (m : Nat) (h : rCh S.data.toList a = some (c, m)) : ∃ k : Nat, a = k ∧ k < m ∧ m ≤ S.size ∧ ∀ v W, CV W v c → Calls Tryz.prog 34 #[v] W fun e w' => e = .returned (.tuple #[.string (S.extract k m), .int .i64 0]) ∧ Below W.heap.size W w' := by
  obtain ⟨h1, h2, h3, h4, h5⟩ := encC_dec S a c m h
  obtain ⟨k, rfl⟩ : ∃ k : Nat, a = k := ⟨a.toNat, by omega⟩
  rw [Int.toNat_natCast] at h5
  refine ⟨k, rfl, by omega, h3, fun v W hv => ?_⟩
  rw [← h5]
  exact encC_ok v c W hv h4
theorem sameC_refl (c : Ch) : sameC c c = true := (sameC_iff c c).2 rfl
theorem sameG_refl (c : Gr) : sameG c c = true := (sameG_iff c c).2 rfl

end Go.Proofs.YtlaldnlgapeckaaGreat
