/- Contracts and facts. -/
import Derived.Deep.LoopGhost
import Derived.Handy
import Derived.WalkMore
import Derived.BigRegion
import Derived.Laws.EntriesVeiled
import Derived.Test.YthmkmjkbfjhffaaVNVYQt
set_option linter.unusedSimpArgs false
set_option maxRecDepth 100000
set_option maxHeartbeats 4000000
namespace Go.Proofs.Ythmkmjkbfjhffaa
open Go.RowKit
namespace Rel
def upd (vals : Nat → Value) (j : Nat) (v : Value) : Nat → Value := fun k => if k = j then v else vals k
def depAt (md : Region.Mode) (ops : Array Oper) (j : Nat) : List Nat := match ops[j]? with
 | some o => depsOf md o
 | none => []
def clo (md : Region.Mode) (ops : Array Oper) : Nat → Nat → Nat → Bool
 | 0, _, _ => false
 | n + 1, j, i => (depAt md ops j).contains i || (depAt md ops j).any fun k => clo md ops n k i
theorem clo_mem {md : Region.Mode} {ops : Array Oper} {r : List Nat} (hr : ∀ j ∈ r, ∀ i ∈ depAt md ops j, i ∈ r) : ∀ (n j i : Nat), (∀ k ∈ depAt md ops j, k ∈ r) → clo md ops n j i = true → i ∈ r := by
  intro n
  induction n with
  | zero => intro j i _ h; cases h
  | succ n ih =>
    intro j i hj h
    unfold clo at h
    rw [Bool.or_eq_true] at h
    rcases h with h | h
    · exact hj i (by simpa using h)
    · obtain ⟨k, hk, h2⟩ := List.any_eq_true.1 h
      exact ih k i (hr k (hj k hk)) h2
def okOpC (late : Nat → Bool) (md : Region.Mode) (ops : Array Oper) (z j : Nat) : Bool :=
 match ops[j]? with
 | none => true
 | some o =>
  (depsOf md o).all (· < j) && (match o.op with | .select _ _ => false | _ => true) &&
  (o.looksAt ops).all (fun t => (List.range ops.size).all fun i => dstOf ops i != some t || (depsOf md o).contains i || (decide (j < i) && clo md ops ops.size i j)) &&
  (List.range ops.size).all (fun i => i == j || dstOf ops i == none || dstOf ops i != dstOf ops j) &&
  (decide (j < z) || (!late j && (List.range j).all fun i => late i || clo md ops ops.size j i))
def okC (late : Nat → Bool) (md : Region.Mode) (ops : Array Oper) (z : Nat) : Bool := (List.range ops.size).all (okOpC late md ops z)
section
variable {P : Program} {md : Region.Mode} {ops : Array Oper} {C : World → Prop} {Le : World → World → Prop} {G : Nat → Value → World → Prop} {Fin : Nat → (Nat → Value) → World → Prop} {z : Nat} {late : Nat → Bool}
def PreT (md : Region.Mode) (C : World → Prop) (G : Nat → Value → World → Prop) (Fin : Nat → (Nat → Value) → World → Prop) (z : Nat) (vals : Nat → Value) (j : Nat) (o : Oper) (w : World) : Prop :=
  if j < z then C w ∧ ∀ i ∈ depsOf md o, G i (vals i) w else if j = z then C w ∧ ∀ i, i < z → G i (vals i) w else Fin (j - 1) vals w
def PostT (C : World → Prop) (Le : World → World → Prop) (G : Nat → Value → World → Prop) (Fin : Nat → (Nat → Value) → World → Prop) (z : Nat) (vals : Nat → Value) (j : Nat) (v : Value) (w w' : World) : Prop :=
  if j < z then C w' ∧ Le w w' ∧ G j v w' else Fin j (upd vals j v) w'
def PostT' (C : World → Prop) (Le : World → World → Prop) (G : Nat → Value → World → Prop) (Fin : Nat → (Nat → Value) → World → Prop) (z : Nat) (vals : Nat → Value) (lt : Bool) (j : Nat) (v : Value) (w w' : World) : Prop :=
  if lt = true then True else PostT C Le G Fin z vals j v w w'
def StepT (late : Nat → Bool) (P : Program) (md : Region.Mode) (ops : Array Oper) (C : World → Prop) (Le : World → World → Prop) (G : Nat → Value → World → Prop) (Fin : Nat → (Nat → Value) → World → Prop) (z : Nat) (vals : Nat → Value) (j : Nat) (o : Oper) (a : Act) : Prop :=
  (late j = true → Region.wanted o (yielded ops a.tmps) = true ∧ ∀ w, (execOp a.eval o).run P w = .ok (.value (vals j)) w) ∧ ∀ w, PreT md C G Fin z vals j o w → if Region.wanted o (yielded ops a.tmps) = true then post P o a w (fun v w' => PostT C Le G Fin z vals j v w w') else PostT C Le G Fin z vals j undef w w
def WalkT (late : Nat → Bool) (P : Program) (md : Region.Mode) (ops : Array Oper) (C : World → Prop) (Le : World → World → Prop) (G : Nat → Value → World → Prop) (Fin : Nat → (Nat → Value) → World → Prop) (z : Nat) (vals : Nat → Value) (R : Act → Prop) : Nat → List Oper → Act → Prop
  | _, [], a => R a
  | j, o :: rest, a => StepT late P md ops C Le G Fin z vals j o a ∧ WalkT late P md ops C Le G Fin z vals R (j + 1) rest (a.put o.dst (vals j))
theorem walkT_step {vals : Nat → Value} {R : Act → Prop} (a0 : Act) : ∀ (l : List Oper) (k : Nat) (a : Act), (∀ j, l[j]? = ops[k + j]?) → a = lay ops a0 vals (List.range k).reverse →
    WalkT late P md ops C Le G Fin z vals R k l a → (∀ j o, k ≤ j → ops[j]? = some o → StepT late P md ops C Le G Fin z vals j o (lay ops a0 vals (List.range j).reverse)) ∧ R (lay ops a0 vals (List.range (k + l.length)).reverse)
 | [], k, a, hl, ha, h => by
  refine ⟨fun j o hj ho => ?_, by subst ha; exact h⟩
  have := hl (j - k); rw [show k + (j - k) = j by omega, ho] at this; simp at this
 | o :: rest, k, a, hl, ha, h => by
  have h0 : ops[k]? = some o := by simpa using (hl 0).symm
  have e : a.put o.dst (vals k) = lay ops a0 vals (List.range (k + 1)).reverse := by
   rw [List.range_succ, List.reverse_append, List.reverse_singleton, List.singleton_append]; unfold lay; rw [← ha]; simp [dstOf, h0]
  obtain ⟨h1, h2⟩ := walkT_step a0 rest (k + 1) _ (fun j => by have := hl (j + 1); simpa [Nat.add_assoc, Nat.add_comm 1 j] using this) e h.2
  refine ⟨fun j o' hj ho' => ?_, by rw [List.length_cons, show k + (rest.length + 1) = k + 1 + rest.length by omega]; exact h2⟩
  by_cases hjk : j = k
  · subst hjk; rw [h0] at ho'; injection ho' with ho'
    subst ho'; rw [← ha]; exact h.1
  · exact h1 j o' (by omega) ho'
theorem okC_spec (h : okC late md ops z = true) {j : Nat} {o : Oper} (ho : ops[j]? = some o) :
  (∀ i ∈ depsOf md o, i < j) ∧ (∀ cs b, o.op ≠ .select cs b) ∧ (∀ t ∈ o.looksAt ops, ∀ i, dstOf ops i = some t → i ∈ depsOf md o ∨ (j < i ∧ clo md ops ops.size i j = true)) ∧ (∀ i t, dstOf ops i = some t → dstOf ops j = some t → i = j) ∧ (z ≤ j → late j = false ∧ ∀ i, i < j → late i = false → clo md ops ops.size j i = true) := by
 have hj : j < ops.size := (Array.getElem?_eq_some_iff.1 ho).1
 unfold okC at h; rw [List.all_eq_true] at h
 have h1 := h j (List.mem_range.2 hj)
 unfold okOpC at h1; rw [ho] at h1; simp only [Bool.and_eq_true] at h1
 obtain ⟨⟨⟨⟨h1, h2⟩, h3⟩, h4⟩, h5⟩ := h1
 have hlt : ∀ i t, dstOf ops i = some t → i < ops.size := fun i t e => by
  unfold dstOf at e; by_cases h : i < ops.size
  · exact h
  · rw [Array.getElem?_eq_none (by omega)] at e; cases e
 refine ⟨fun i hi => by simpa using List.all_eq_true.1 h1 i hi, fun cs b (e : o.op = .select cs b) => (by rw [e] at h2; cases h2), fun t ht i hd => ?_, fun i t hi hj2 => ?_, fun e => ?_⟩
 · have h6 := List.all_eq_true.1 (List.all_eq_true.1 h3 t ht) i (List.mem_range.2 (hlt i t hd)); rw [hd] at h6; simp at h6; exact h6
 · have h6 := List.all_eq_true.1 h4 i (List.mem_range.2 (hlt i t hi)); rw [hi, hj2] at h6; simpa using h6
 · have hz : ¬ j < z := by omega
   simp only [hz, decide_false, Bool.false_or, Bool.and_eq_true] at h5
   refine ⟨by simpa using h5.1, fun i hi hl => ?_⟩
   have h6 := List.all_eq_true.1 h5.2 i (List.mem_range.2 hi); rw [hl] at h6; simpa using h6
structure InvT (late : Nat → Bool) (md : Region.Mode) (ops : Array Oper) (C : World → Prop) (G : Nat → Value → World → Prop) (Fin : Nat → (Nat → Value) → World → Prop) (z : Nat) (a0 : Act) (r : List Nat) (vals : Nat → Value) (listed : Array Bool) (a : Act) (w : World) : Prop where
 nodup : r.Nodup
 lt : ∀ i ∈ r, i < ops.size
 mem : ∀ i, i < ops.size → (listed.getD i true = true ↔ i ∈ r)
 size : listed.size = ops.size
 act : a = lay ops a0 vals r
 closed : ∀ j ∈ r, ∀ i ∈ depAt md ops j, i ∈ r
 tail : ∀ j ∈ r, z ≤ j → ∀ i, i < j → late i = false → i ∈ r
 st : ((∀ i ∈ r, i < z) ∧ C w ∧ ∀ i ∈ r, G i (vals i) w) ∨ (∃ j, z ≤ j ∧ j ∈ r ∧ (∀ i ∈ r, i ≤ j) ∧ Fin j vals w)
theorem inv_wpT (hok : okC late md ops z = true) (hG : ∀ i v w w', G i v w → Le w w' → G i v w') (a0 : Act) {Q : Exit → Act → World → Prop} (Okv : (Nat → Value) → Prop) (hupd : ∀ vals j v w, Okv vals → (j < z → G j v w) → Okv (upd vals j v))
  (hlate : ∀ vals i w, Okv vals → late i = true → G i (vals i) w)
  (steps : ∀ vals j o, Okv vals → ops[j]? = some o → StepT late P md ops C Le G Fin z vals j o (lay ops a0 vals (List.range j).reverse))
  (hfin : ∀ vals w, Okv vals → (if z < ops.size then Fin (ops.size - 1) vals w else C w ∧ ∀ i, i < ops.size → G i (vals i) w) → Q .normal (lay ops a0 vals (List.range ops.size).reverse) w) :
  ∀ (fuel : Nat) (r : List Nat) (vals : Nat → Value) (listed : Array Bool) (a : Act) (w : World), r.length + fuel = ops.size → Okv vals → InvT late md ops C G Fin z a0 r vals listed a w → wpAny P md ops Q fuel listed a w := by
 have huniq : ∀ t i j, dstOf ops i = some t → dstOf ops j = some t → i = j := fun t i j hi hj => by
  have hlt : j < ops.size := by
   unfold dstOf at hj; by_cases h : j < ops.size
   · exact h
   · rw [Array.getElem?_eq_none (by omega)] at hj; cases hj
  exact (okC_spec hok (Array.getElem?_eq_getElem hlt)).2.2.2.1 i t hi hj
 have full : ∀ (r : List Nat) (vals : Nat → Value) (listed : Array Bool) (a : Act) (w : World), (∀ i, i < ops.size → i ∈ r) → Okv vals → InvT late md ops C G Fin z a0 r vals listed a w → Q .normal a w := fun r vals listed a w hall hO hI => by
  rw [hI.act, lay_same ops a0 vals r (List.range ops.size).reverse huniq fun i _ => by
   rw [List.mem_reverse, List.mem_range]; exact ⟨hI.lt i, hall i⟩]
  refine hfin vals w hO ?_
  by_cases hz : z < ops.size
  · rw [if_pos hz]
    rcases hI.st with ⟨h1, _⟩ | ⟨j, h1, h2, h3, h4⟩
    · exact absurd (h1 z (hall z hz)) (by omega)
    · have e : j = ops.size - 1 := by
        have e1 := h3 (ops.size - 1) (hall _ (by omega))
        have e2 := hI.lt j h2
        omega
      rw [← e]; exact h4
  · rw [if_neg hz]
    rcases hI.st with ⟨h1, h2, h3⟩ | ⟨j, h1, h2, h3, h4⟩
    · exact ⟨h2, fun i hi => h3 i (hall i hi)⟩
    · have := hI.lt j h2; omega
 have done:∀(r:List Nat) (vals:Nat->Value) (listed:Array Bool) (a:Act) (w:World),Region.ready md ops listed=[]->InvT late md ops C G Fin z a0 r vals listed a w->∀i,i<ops.size->i∈r:=fun r vals listed a w hr hI=>by
  intro i
  induction i using Nat.strongRecOn with
  | _ i ih =>
   intro hi;apply Classical.byContradiction;intro hno;have ho:ops[i]?=some ops[i]:=Array.getElem?_eq_getElem hi;have hs:=okC_spec hok ho;have:i∈Region.ready md ops listed:=mem_ready.2 ⟨by
     have h9:=hI.mem i hi;cases hc:listed.getD i true with
     | false=>rfl
     | true=>exact absurd (h9.1 hc) hno,_,ho,fun e he hb=>by
     have hdep:e.on∈depsOf md ops[i]:=List.mem_filterMap.2 ⟨e,by simpa using he,by rw[if_pos hb]⟩;have hlt:=hs.1 _ hdep;have h1:=(hI.mem e.on (by omega)).2 (ih e.on hlt (by omega));have hsz:=hI.size;have:e.on<listed.size:=by omega
     simp only[Array.getD,this,dif_pos]at h1 ⊢;exact h1⟩
   rw[hr]at this;cases this
 intro fuel
 induction fuel with
 | zero =>
  intro r vals listed a w hlen hO hI
  have hall : ∀ i, i < ops.size → i ∈ r := fun i hi => by
   apply Classical.byContradiction; intro hno
   have h1 : (i :: r).Nodup := List.nodup_cons.2 ⟨hno, hI.nodup⟩
   have h2 : (i :: r) ⊆ List.range ops.size := fun x hx => by
    rcases List.mem_cons.1 hx with rfl | hx
    · exact List.mem_range.2 hi
    · exact List.mem_range.2 (hI.lt x hx)
   have h3 := List.Nodup.length_le_of_subset h1 h2; simp at h3; omega
  refine ⟨?_, full r vals listed a w hall hO hI⟩
  unfold Region.ready; rw [List.filter_eq_nil_iff]; intro i hi
  have h1 := (hI.mem i (List.mem_range.1 hi)).2 (hall i (List.mem_range.1 hi)); simp [h1]
 | succ fuel ih =>
  intro r vals listed a w hlen hO hI
  refine ⟨fun h0 => full r vals listed a w (done r vals listed a w h0 hI) hO hI, fun j hj => ?_⟩
  obtain ⟨hjun, oj, hoj, hall⟩ := mem_ready.1 hj
  have hjs : j < ops.size := (Array.getElem?_eq_some_iff.1 hoj).1
  have hjr : j ∉ r := fun h => by
   have := (hI.mem j hjs).2 h; rw [hjun] at this; cases this
  have hs := okC_spec hok hoj
  have hdeps : ∀ i ∈ depsOf md oj, i ∈ r := fun i hi => by
   obtain ⟨e, he, h2⟩ := List.mem_filterMap.1 hi; by_cases hb : Region.binds md e = true
   · rw [if_pos hb] at h2; injection h2 with h2
     subst h2; have h3 := hall e (by simpa using he) hb; have hlt := hs.1 _ hi; have hsz := hI.size; refine (hI.mem e.on (by omega)).1 ?_; have : e.on < listed.size := by omega
     simp only [Array.getD, this, dif_pos] at h3 ⊢; exact h3
   · rw [if_neg hb] at h2; cases h2
  have hcl : ∀ i, clo md ops ops.size j i = true → i ∈ r := fun i => clo_mem hI.closed ops.size j i (fun k hk => hdeps k (by unfold depAt at hk; rw [hoj] at hk; exact hk))
  have hmax : ∀ i, i < j → ¬ j < z → late i = false → i ∈ r := fun i hi h1 hl => hcl i ((hs.2.2.2.2 (by omega)).2 i hi hl)
  have hright : ∀ j0, z ≤ j0 → j0 ∈ r → (∀ i ∈ r, i ≤ j0) → ¬ j < z → j = j0 + 1 := fun j0 k1 k2 k3 h1 => by
    have e1 : j0 < j := by
      apply Classical.byContradiction; intro hne
      have hne2 : j ≠ j0 := fun e => hjr (e ▸ k2)
      exact hjr (hI.tail j0 k2 k1 j (by omega) (hs.2.2.2.2 (by omega)).1)
    by_cases e3 : j - 1 = j0
    · omega
    · have e4 : late (j - 1) = false := by
        have hj1 : j - 1 < ops.size := by omega
        exact ((okC_spec hok (Array.getElem?_eq_getElem hj1)).2.2.2.2 (by omega)).1
      have e2 := k3 (j - 1) (hmax (j - 1) (by omega) h1 e4)
      omega
  have hpre : (late j = false ∨ ¬ j < z) → PreT md C G Fin z vals j oj w := fun hnl => by
   unfold PreT
   by_cases h1 : j < z
   · rw [if_pos h1]
     rcases hI.st with ⟨k1, k2, k3⟩ | ⟨j0, k1, k2, k3, k4⟩
     · exact ⟨k2, fun i hi => k3 i (hdeps i hi)⟩
     · exact absurd (hI.tail j0 k2 k1 j (by omega) (by rcases hnl with h | h; exact h; exact absurd h1 h)) hjr
   · rw [if_neg h1]
     rcases hI.st with ⟨k1, k2, k3⟩ | ⟨j0, k1, k2, k3, k4⟩
     · have e : j = z := by
         apply Classical.byContradiction; intro hne
         have hz9 : z < ops.size := by omega
         have := k1 z (hmax z (by omega) h1 ((okC_spec hok (Array.getElem?_eq_getElem hz9)).2.2.2.2 (Nat.le_refl _)).1); omega
       rw [if_pos e]
       refine ⟨k2, fun i hi => ?_⟩
       rcases Bool.eq_false_or_eq_true (late i) with hl | hl
       · exact hlate vals i w hO hl
       · exact k3 i (hmax i (by omega) h1 hl)
     · have e1 := hright j0 k1 k2 k3 h1
       rw [if_neg (by omega), show j - 1 = j0 by omega]; exact k4
  have hst0 := steps vals j oj hO hoj
  have hag:∀t∈oj.looksAt ops,a.tmps[t]?=(lay ops a0 vals (List.range j).reverse).tmps[t]?:=fun t ht=>by
   rw [hI.act]; refine lay_at ops a0 vals r _ t (huniq t) fun i hd => ?_
   rcases hs.2.2.1 t ht i hd with hdi | ⟨hlt9, hcl9⟩
   · exact ⟨fun _ => by rw [List.mem_reverse, List.mem_range]; exact hs.1 i hdi, fun _ => hdeps i hdi⟩
   · refine ⟨fun hir => absurd (clo_mem hI.closed ops.size i j (fun k hk => hI.closed i hir k hk) hcl9) hjr, fun hir => ?_⟩
     rw [List.mem_reverse, List.mem_range] at hir; omega
  have hev:execOp a.eval oj=execOp (lay ops a0 vals (List.range j).reverse).eval oj:=execOp_congr oj hs.2.1 fun x hx=>by
   cases x with
   | tmp t =>
    have ht:t∈oj.looksAt ops:=List.mem_append_left _ (List.mem_filterMap.2 ⟨.tmp t,by simpa using hx,rfl⟩);have:=hag t ht;simp only[Act.eval,Array.getD_eq_getD_getElem?,this]
   | _=>rfl
  have hwa:Region.wanted oj (yielded ops a.tmps)=Region.wanted oj (yielded ops (lay ops a0 vals (List.range j).reverse).tmps):=by
   unfold Region.wanted;cases hg:oj.guard with
   | none=>rfl
   | some gw =>
    obtain⟨g,want⟩:=gw;have hy:yielded ops a.tmps g=yielded ops (lay ops a0 vals (List.range j).reverse).tmps g:=by
     unfold yielded;cases hd:(ops[g]?).bind (·.dst)with
     | none=>rfl
     | some t =>
      have ht:t∈oj.looksAt ops:=List.mem_append_right _ (by simp[hg,hd]);simp only[Option.bind_some,hag t ht]
    simp only[hy]
  have next : ∀ v w', (late j = true → w' = w ∧ v = vals j) → PostT' C Le G Fin z vals (late j) j v w w' → wpAny P md ops Q fuel (listed.setIfInBounds j true) (a.put oj.dst v) w' := fun v w' hlt hv => by
   have hvr : ∀ i ∈ r, vals i = upd vals j v i := fun i hi => by
    have : i ≠ j := fun e => hjr (e ▸ hi)
    simp [upd, this]
   refine ih (j :: r) (upd vals j v) _ _ _ (by rw [List.length_cons]; omega) (hupd vals j v w' hO fun e => by
    rcases Bool.eq_false_or_eq_true (late j) with hl | hl
    · rw [(hlt hl).2]; exact hlate vals j w' hO hl
    · unfold PostT' at hv; rw [hl] at hv; unfold PostT at hv; rw [if_neg (by simp), if_pos e] at hv; exact hv.2.2) ⟨List.nodup_cons.2 ⟨hjr, hI.nodup⟩, fun i hi => ?_, fun i hi => ?_, by simpa using hI.size, ?_, fun k hk i hi => ?_, fun k hk hzk i hi hl9 => ?_, ?_⟩
   · rcases List.mem_cons.1 hi with rfl | hi
     · exact hjs
     · exact hI.lt i hi
   · by_cases e : i = j
     · subst e; have : i < listed.size := by rw [hI.size]; exact hi
       simp [Array.getD, this]
     · rw [getD_set_ne true (fun h => e h.symm), hI.mem i hi]; simp [e]
   · unfold lay; rw [← lay_vals ops a0 vals _ r hvr, ← hI.act]; simp [dstOf, hoj, upd]
   · rcases List.mem_cons.1 hk with rfl | hk
     · exact List.mem_cons_of_mem _ (hdeps i (by unfold depAt at hi; rw [hoj] at hi; exact hi))
     · exact List.mem_cons_of_mem _ (hI.closed k hk i hi)
   · rcases List.mem_cons.1 hk with rfl | hk
     · exact List.mem_cons_of_mem _ (hcl i ((hs.2.2.2.2 hzk).2 i hi hl9))
     · exact List.mem_cons_of_mem _ (hI.tail k hk hzk i hi hl9)
   · rcases Bool.eq_false_or_eq_true (late j) with hl | hl
     · obtain ⟨e1, e2⟩ := hlt hl
       have hjz : j < z := by
         apply Classical.byContradiction; intro hn
         have := (hs.2.2.2.2 (by omega)).1; rw [hl] at this; cases this
       have e3 : upd vals j v = vals := by funext k; unfold upd; split <;> simp_all
       rw [e3, e1]
       rcases hI.st with ⟨k1, k2, k3⟩ | ⟨j0, k1, k2, k3, k4⟩
       · refine .inl ⟨fun i hi => ?_, k2, fun i hi => ?_⟩
         · rcases List.mem_cons.1 hi with rfl | hi
           · exact hjz
           · exact k1 i hi
         · rcases List.mem_cons.1 hi with rfl | hi
           · exact hlate vals _ w hO hl
           · exact k3 i hi
       · refine .inr ⟨j0, k1, List.mem_cons_of_mem _ k2, fun i hi => ?_, k4⟩
         rcases List.mem_cons.1 hi with rfl | hi
         · omega
         · exact k3 i hi
     · unfold PostT' at hv
       rw [hl, if_neg (by simp)] at hv
       unfold PostT at hv
       by_cases h1 : j < z
       · rw [if_pos h1] at hv
         rcases hI.st with ⟨k1, k2, k3⟩ | ⟨j0, k1, k2, k3, k4⟩
         · refine .inl ⟨fun i hi => ?_, hv.1, fun i hi => ?_⟩
           · rcases List.mem_cons.1 hi with rfl | hi
             · exact h1
             · exact k1 i hi
           · rcases List.mem_cons.1 hi with rfl | hi
             · simpa [upd] using hv.2.2
             · rw [← hvr i hi]; exact hG i _ _ _ (k3 i hi) hv.2.1
         · exact absurd (hI.tail j0 k2 k1 j (by omega) hl) hjr
       · rw [if_neg h1] at hv
         refine .inr ⟨j, by omega, List.mem_cons_self, fun i hi => ?_, hv⟩
         rcases List.mem_cons.1 hi with rfl | hi
         · exact Nat.le_refl _
         · apply Classical.byContradiction; intro hne
           exact hjr (hI.tail i hi (by omega) j (by omega) hl)
  unfold wpOp; simp only [hoj]; rw [hwa]
  rcases Bool.eq_false_or_eq_true (late j) with hl | hl
  · obtain ⟨g1, g2⟩ := hst0.1 hl
    rw [if_pos g1]
    refine .inl ?_
    refine post_wp (R := fun v w' => w' = w ∧ v = vals j) ?_ (fun v w' hh => next v w' (fun _ => hh) (by unfold PostT'; rw [if_pos hl]; trivial))
    unfold post; rw [hev, g2]; exact ⟨rfl, rfl⟩
  · have hst := hst0.2 w (hpre (.inl hl))
    have next2 : ∀ v w', PostT C Le G Fin z vals j v w w' → wpAny P md ops Q fuel (listed.setIfInBounds j true) (a.put oj.dst v) w' := fun v w' h => next v w' (fun e => by rw [hl] at e; cases e) (by unfold PostT'; rw [hl, if_neg (by simp)]; exact h)
    by_cases hw : Region.wanted oj (yielded ops (lay ops a0 vals (List.range j).reverse).tmps) = true
    · rw [if_pos hw] at hst ⊢
      refine .inl ?_
      refine post_wp (R := fun v w' => PostT C Le G Fin z vals j v w w') ?_ next2
      unfold post at hst ⊢; rw [hev]; exact hst
    · rw [if_neg hw] at hst ⊢
      exact next2 undef w hst
end
section
variable {P : Program} {ops : Array Oper} {w0 : World} {pv : List (Option Value)} {G : Nat → Value → World → Prop} {Fin : Nat → (Nat → Value) → World → Prop} {z : Nat} {late : Nat → Bool}
structure WalkC (late : Nat → Bool) (P : Program) (ops : Array Oper) (w0 : World) (pv : List (Option Value)) (G : Nat → Value → World → Prop) (Fin : Nat → (Nat → Value) → World → Prop) (z : Nat) (vals : Nat → Value) (R : Act → Prop) (j : Nat) (l : List Oper) (a : Act) : Prop where
 out : WalkT late P .any ops (fun w => Below w0.heap.size w0 w) (fun w w' => Below w.heap.size w w') (Known pv G) Fin z vals R j l a
variable {vals : Nat → Value} {R : Act → Prop} {j : Nat} {o : Oper} {rest : List Oper} {a : Act}
theorem c_end (h : R a) : WalkC late P ops w0 pv G Fin z vals R j [] a := ⟨h⟩
theorem post_mono {o : Oper} {a : Act} {w : World} {R R' : Value → World → Prop} (hr : ∀ v w', R v w' → R' v w') (hp : post P o a w R) : post P o a w R' := by
  unfold post at hp ⊢
  generalize (execOp a.eval o).run P w = r at *
  cases r with
  | ok x w' =>
    cases x <;> simp only at hp ⊢
    case value v => exact hr _ _ hp
    case skip => exact hr _ _ hp
    case enter f args => exact hp.mono fun e w'' ⟨v, he, h⟩ => ⟨v, he, hr _ _ h⟩
  | halt x w' => exact hp
theorem c_pure (hlt : late j = false) (V : Value) (hp : pv.getD j none = some V) (hz : j < z) (hvals : vals j = V) (hw : Region.wanted o (yielded ops a.tmps) = true)
  (hv : ∀ w, Below w0.heap.size w0 w → (∀ i ∈ depsOf .any o, Known pv G i (vals i) w) → (execOp a.eval o).run P w = .ok (.value V) w)
  (h : WalkC late P ops w0 pv G Fin z vals R (j + 1) rest (a.put o.dst V)) : WalkC late P ops w0 pv G Fin z vals R j (o :: rest) a := by
 refine ⟨⟨⟨fun e => (by rw [hlt] at e; cases e), fun w hp2 => ?_⟩, by rw [hvals]; exact h.out⟩⟩
 unfold PreT at hp2; rw [if_pos hz] at hp2
 rw [if_pos hw]; unfold post; rw [hv w hp2.1 hp2.2]; dsimp only
 unfold PostT; rw [if_pos hz]
 exact ⟨hp2.1, Below.refl _ _, by unfold Known; rw [hp]⟩
theorem c_late (V : Value) (hp : pv.getD j none = some V) (hz : j < z) (hvals : vals j = V) (hw : Region.wanted o (yielded ops a.tmps) = true)
  (hv : ∀ w, (execOp a.eval o).run P w = .ok (.value V) w)
  (h : WalkC late P ops w0 pv G Fin z vals R (j + 1) rest (a.put o.dst V)) : WalkC late P ops w0 pv G Fin z vals R j (o :: rest) a := by
 refine ⟨⟨⟨fun _ => ⟨hw, fun w => by rw [hv w, hvals]⟩, fun w hp2 => ?_⟩, by rw [hvals]; exact h.out⟩⟩
 unfold PreT at hp2; rw [if_pos hz] at hp2
 rw [if_pos hw]; unfold post; rw [hv w]; dsimp only
 unfold PostT; rw [if_pos hz]
 exact ⟨hp2.1, Below.refl _ _, by unfold Known; rw [hp]⟩
theorem c_rel (hlt : late j = false) (hp : pv.getD j none = none) (hz : j < z) (hw : Region.wanted o (yielded ops a.tmps) = true)
  (hv : ∀ w, Below w0.heap.size w0 w → (∀ i ∈ depsOf .any o, Known pv G i (vals i) w) → post P o a w fun v w' => Below w.heap.size w w' ∧ G j v w')
  (h : WalkC late P ops w0 pv G Fin z vals R (j + 1) rest (a.put o.dst (vals j))) : WalkC late P ops w0 pv G Fin z vals R j (o :: rest) a := by
 refine ⟨⟨⟨fun e => (by rw [hlt] at e; cases e), fun w hp2 => ?_⟩, h.out⟩⟩
 unfold PreT at hp2; rw [if_pos hz] at hp2
 rw [if_pos hw]
 refine post_mono (fun v w' h1 => ?_) (hv w hp2.1 hp2.2)
 unfold PostT; rw [if_pos hz]
 exact ⟨hp2.1.trans (h1.1.mono hp2.1.size), h1.1, by unfold Known; rw [hp]; exact h1.2⟩
theorem c_tail0 (hlt : late j = false) (hz : j = z) (hw : Region.wanted o (yielded ops a.tmps) = true)
  (hv : ∀ w, Below w0.heap.size w0 w → (∀ i, i < z → Known pv G i (vals i) w) → post P o a w fun v w' => Fin j (upd vals j v) w')
  (h : WalkC late P ops w0 pv G Fin z vals R (j + 1) rest (a.put o.dst (vals j))) : WalkC late P ops w0 pv G Fin z vals R j (o :: rest) a := by
 refine ⟨⟨⟨fun e => (by rw [hlt] at e; cases e), fun w hp2 => ?_⟩, h.out⟩⟩
 unfold PreT at hp2; rw [if_neg (by omega), if_pos hz] at hp2
 rw [if_pos hw]
 refine post_mono (fun v w' h1 => ?_) (hv w hp2.1 hp2.2)
 unfold PostT; rw [if_neg (by omega)]; exact h1
theorem c_tail (hlt : late j = false) (i : Nat) (hi : j = i + 1) (hz : z ≤ i) (hw : Region.wanted o (yielded ops a.tmps) = true)
  (hv : ∀ w, Fin i vals w → post P o a w fun v w' => Fin j (upd vals j v) w')
  (h : WalkC late P ops w0 pv G Fin z vals R (j + 1) rest (a.put o.dst (vals j))) : WalkC late P ops w0 pv G Fin z vals R j (o :: rest) a := by
 refine ⟨⟨⟨fun e => (by rw [hlt] at e; cases e), fun w hp2 => ?_⟩, h.out⟩⟩
 unfold PreT at hp2; rw [if_neg (by omega), if_neg (by omega), show j - 1 = i by omega] at hp2
 rw [if_pos hw]
 refine post_mono (fun v w' h1 => ?_) (hv w hp2)
 unfold PostT; rw [if_neg (by omega)]; exact h1
theorem c_region (late : Nat → Bool) (w0 : World) (pv : List (Option Value)) (G : Nat → Value → World → Prop) (Fin : Nat → (Nat → Value) → World → Prop) (z : Nat) {id : Nat} {Q : Exit → Act → World → Prop} {a : Act} {w : World} {l : List Oper} (hm : P.follows .mixedOrders = true) (hok : okC late .any l.toArray z = true) (hlp : ∀ i, late i = true → (pv.getD i none).isSome = true) (hpz : ∀ j, z ≤ j → pv.getD j none = none) (hzl : z < l.length)
  (hG : ∀ i v w w', G i v w → Below w.heap.size w w' → G i v w') (hC : Below w0.heap.size w0 w.drew)
  (h : ∀ vals, (∀ i V, pv.getD i none = some V → vals i = V) → WalkC late P l.toArray w0 pv G Fin z vals (fun a' => ∀ w', Fin (l.length - 1) vals w' → Q .normal a' w') 0 l a) :
  (Code.region id l.toArray true).wp P Q a w := by
 have hK : ∀ i v w w', Known pv G i v w → Below w.heap.size w w' → Known pv G i v w' := fun i v w w' hk hb => by
  unfold Known at hk ⊢
  split
  · rename_i e; rw [e] at hk; exact hk
  · rename_i e; rw [e] at hk; exact hG _ _ _ _ hk hb
 refine wp_region_any hm ?_
 refine inv_wpT (md := .any) (C := fun w => Below w0.heap.size w0 w) (Le := fun w w' => Below w.heap.size w w') (G := Known pv G) (Fin := Fin) (z := z) (P := P) (ops := l.toArray) hok hK a (Q := Q) (fun vals => ∀ i V, pv.getD i none = some V → vals i = V) (fun vals j v w hO hk i V hi => ?_) (fun vals i w hO hl => ?_) (fun vals j o hO hj => ?_) (fun vals w' hO hw' => ?_) _ [] (fun i => (pv.getD i none).getD undef) _ _ _ (by simp) (fun i V hi => by rw [hi]; rfl) ⟨List.nodup_nil, fun i hi => (nomatch hi), fun i hi => ?_, (by simp), rfl, fun j hj => (nomatch hj), fun j hj => (nomatch hj), .inl ⟨fun i hi => (nomatch hi), hC, fun i hi => (nomatch hi)⟩⟩
 · by_cases e : i = j
   · subst e
     have hz : i < z := by
       apply Classical.byContradiction; intro hn
       rw [hpz i (by omega)] at hi; cases hi
     have h1 := hk hz; unfold Known at h1; rw [hi] at h1; simpa [upd] using h1
   · simp only [upd, e, if_false]; exact hO i V hi
 · have h1 := hlp i hl
   obtain ⟨V, hV⟩ := Option.isSome_iff_exists.1 h1
   unfold Known; rw [hV]; exact hO i V hV
 · exact (walkT_step a l 0 a (fun j => by simp) rfl (h vals hO).out).1 j o (Nat.zero_le _) hj
 · have h1 := (walkT_step a l 0 a (fun j => by simp) rfl (h vals hO).out).2
   simp only [Nat.zero_add] at h1
   have h2 := h1 w' (by simpa [hzl] using hw'); simpa using h2
 · have : i < l.length := by simpa using hi
   simp [Array.getD, this]
end
end Rel
end Go.Proofs.Ythmkmjkbfjhffaa
