/- Contracts and facts. -/
import Derived.Deep.LoopGhost
import Derived.Handy
import Derived.RangeFuncNested
import Derived.RangeFuncBound
import Derived.RangeFuncBox
import Derived.RangeFuncCalls
import Derived.RangeFuncLeaves
import Derived.Shelf.Abstract
import Derived.Shelf.RegionOpen
import Derived.WalkKit
import Derived.OwnWalkIn
import Derived.TacticsInMore
import Derived.LoopNIn
import Derived.LoopIn
import Derived.Maps.OwnIn
import Derived.BigRegionIn
import Derived.Stop.RegionWithIn
import Derived.WalkMore
import Derived.BigRegion
import Derived.Laws.EntriesVeiled
import Derived.Test.YthmkmjkbfjhffaaVFX
set_option linter.unusedSimpArgs false
set_option maxRecDepth 100000
set_option maxHeartbeats 4000000
namespace Go.Proofs.Ythmkmjkbfjhffaa
open Go.RowKit Go.Shelf
attribute [local go_sem] Oper.semAt_some
namespace Rel
def plainOp (o : Oper) : Bool := match o.op with
  | .move _ => true
  | .assign _ => true
  | .load _ _ => true
  | .fieldAddr _ _ _ => true
  | .indexAddr _ _ _ => true
  | .build _ _ => true
  | .mapUpdate _ _ _ _ => true
  | _ => false
theorem plain_about {o : Oper} (h : plainOp o = true) {P : Program} {w : World} {ρ : Operand → Value} : o.about P w ρ = none := by
  unfold plainOp at h; unfold Oper.about
  split at h <;> simp_all
theorem plain_defer {o : Oper} (h : plainOp o = true) : ∀ c, o.op ≠ .defer c := by
  intro c e; unfold plainOp at h; rw [e] at h; cases h
theorem plain_enter {o : Oper} (h : plainOp o = true) {P : Program} {w w' : World} {ρ : Operand → Value} {f : FuncId} {args : Array Value} : (execOp ρ o).run P w ≠ .ok (.enter f args) w' := by
  intro e
  unfold plainOp at h
  split at h
  all_goals (first | (cases h; done) | skip)
  all_goals (rename_i hop; unfold execOp at e; rw [hop] at e; simp only [Sem.run_bind, Sem.run_pure, Sem.run_map] at e)
  all_goals (first | (cases e; done) | (revert e; generalize Sem.run P _ w = r; intro e; cases r <;> simp [Result.andThen] at e))
theorem post_wpIn {P:Program} {F:Fence} {nF l0:Nat} (hro:F.round=some l0) {o:Oper} (hp:plainOp o=true) {a:Act} {w:World} {R:Value->World->Prop} {K:Act->World->Prop} {Q:Exit->Act->World->Prop} (h:post P o a w R) (hk:∀v w',R v w'->K (a.put o.dst v) w') : o.wpIn F nF P a w K Q := by
  unfold Oper.wpIn
  refine ⟨fun f hf => absurd hf (by rw [plain_about hp]; simp), ?_⟩
  rw [hro, Oper.semAt_some _ _ _ (plain_defer hp)]
  unfold post at h
  have hne := fun f args w' => plain_enter hp (P := P) (w := w) (w' := w') (ρ := a.eval) (f := f) (args := args)
  generalize (execOp a.eval o).run P w = r at *
  cases r with
  | ok x w' =>
    cases x <;> simp only at h
    case value v => exact hk _ _ h
    case skip => exact hk _ _ h
    case enter f args => exact absurd rfl (hne f args w')
  | halt x w' => exact h.elim
section
variable {P:Program} {md:Region.Mode} {ops:Array Oper} {C:World->Prop} {Le:World->World->Prop} {G:Nat->Value->World->Prop} {Fin:(Nat->Value)->World->Prop} {z:Nat}
theorem inv_wpIn (F:Fence) (nF l0:Nat) (hro:F.round=some l0) (hplain:∀ (j:Nat) (o:Oper),ops[j]?=some o->plainOp o=true) (hok:okB md ops z=true)(hLe:∀w,Le w w)(hG:∀i v w w',G i v w->Le w w'->G i v w')(hF:∀vals vals' w,(∀i,i≠z->vals i=vals' i)->Fin vals w->Fin vals' w)(a0:Act){Q:Exit->Act->World->Prop}(Okv:(Nat->Value)->Prop)(hupd:∀vals j v w,Okv vals->(j≠z->G j v w)->Okv (fun k=>if k=j then v else vals k))
  (steps:∀vals j o,Okv vals->ops[j]?=some o->Step P md ops C Le G Fin z vals j o (lay ops a0 vals (List.range j).reverse))
  (hfin:∀vals w,Okv vals->(if z<ops.size then Fin vals w else C w/\ ∀i,i<ops.size->G i (vals i) w)->Q .normal (lay ops a0 vals (List.range ops.size).reverse) w) :
  ∀(fuel:Nat) (r:List Nat) (vals:Nat->Value) (listed:Array Bool) (a:Act) (w:World),r.length+fuel=ops.size->Okv vals->Inv ops C G Fin z a0 r vals listed a w->wpAnyIn F nF P md ops Q fuel listed a w:=by
 have huniq:∀t i j,dstOf ops i=some t->dstOf ops j=some t->i=j:=fun t i j hi hj=>by
  have hlt:j<ops.size:=by
   unfold dstOf at hj;by_cases h:j<ops.size
   ·exact h
   ·rw[Array.getElem?_eq_none (by omega)]at hj;cases hj
  exact(okB_spec hok (Array.getElem?_eq_getElem hlt)).2.2.2.1 i t hi hj
 have full:∀(r:List Nat) (vals:Nat->Value) (listed:Array Bool) (a:Act) (w:World),(∀i,i<ops.size->i∈r)->Okv vals->Inv ops C G Fin z a0 r vals listed a w->Q .normal a w:=fun r vals listed a w hall hO hI=>by
  rw[hI.act,lay_same ops a0 vals r (List.range ops.size).reverse huniq fun i _=>by
   rw[List.mem_reverse,List.mem_range];exact⟨hI.lt i,hall i⟩]
  refine hfin vals w hO ?_;by_cases hz:z<ops.size
  ·rw[if_pos hz];exact hI.shut (hall z hz)
  ·rw[if_neg hz];have h:=hI.open_ fun hm=>hz (hI.lt z hm);exact⟨h.1,fun i hi=>h.2 i (hall i hi)⟩
 have done:∀(r:List Nat) (vals:Nat->Value) (listed:Array Bool) (a:Act) (w:World),Region.ready md ops listed=[]->Inv ops C G Fin z a0 r vals listed a w->∀i,i<ops.size->i∈r:=fun r vals listed a w hr hI=>by
  intro i
  induction i using Nat.strongRecOn with
  | _ i ih =>
   intro hi;apply Classical.byContradiction;intro hno;have ho:ops[i]?=some ops[i]:=Array.getElem?_eq_getElem hi;have hs:=okB_spec hok ho;have:i∈Region.ready md ops listed:=mem_ready.2 ⟨by
     have h9:=hI.mem i hi;cases hc:listed.getD i true with
     | false=>rfl
     | true=>exact absurd (h9.1 hc) hno,_,ho,fun e he hb=>by
     have hdep:e.on∈depsOf md ops[i]:=List.mem_filterMap.2 ⟨e,by simpa using he,by rw[if_pos hb]⟩;have hlt:=hs.1 _ hdep;have h1:=(hI.mem e.on (by omega)).2 (ih e.on hlt (by omega));have hsz:=hI.size;have:e.on<listed.size:=by omega
     simp only[Array.getD,this,dif_pos]at h1 ⊢;exact h1⟩
   rw[hr]at this;cases this
 intro fuel
 induction fuel with
 | zero =>
  intro r vals listed a w hlen hO hI;have hall:∀i,i<ops.size->i∈r:=fun i hi=>by
   apply Classical.byContradiction;intro hno;have h1:(i::r).Nodup:=List.nodup_cons.2 ⟨hno,hI.nodup⟩;have h2:(i::r) ⊆ List.range ops.size:=fun x hx=>by
    rcases List.mem_cons.1 hx with rfl|hx
    ·exact List.mem_range.2 hi
    ·exact List.mem_range.2 (hI.lt x hx)
   have h3:=List.Nodup.length_le_of_subset h1 h2;simp at h3;omega
  refine⟨?_,full r vals listed a w hall hO hI⟩;unfold Region.ready;rw[List.filter_eq_nil_iff];intro i hi;have h1:=(hI.mem i (List.mem_range.1 hi)).2 (hall i (List.mem_range.1 hi));simp[h1]
 | succ fuel ih =>
  intro r vals listed a w hlen hO hI;refine⟨fun h0=>full r vals listed a w (done r vals listed a w h0 hI) hO hI,fun j hj=>?_⟩;obtain⟨hjun,oj,hoj,hall⟩:=mem_ready.1 hj;have hjs:j<ops.size:=(Array.getElem?_eq_some_iff.1 hoj).1;have hjr:j∉r:=fun h=>by
   have:=(hI.mem j hjs).2 h;rw[hjun]at this;cases this
  have hs:=okB_spec hok hoj;have hdeps:∀i∈depsOf md oj,i∈r:=fun i hi=>by
   obtain⟨e,he,h2⟩:=List.mem_filterMap.1 hi;by_cases hb:Region.binds md e=true
   ·rw[if_pos hb]at h2;injection h2 with h2
    subst h2;have h3:=hall e (by simpa using he) hb;have hlt:=hs.1 _ hi;have hsz:=hI.size;refine(hI.mem e.on (by omega)).1 ?_;have:e.on<listed.size:=by omega
    simp only[Array.getD,this,dif_pos]at h3 ⊢;exact h3
   ·rw[if_neg hb]at h2;cases h2
  have hzr:z∉r:=fun hz=>hjr (hI.zall hz j hjs);obtain⟨hC,hGr⟩:=hI.open_ hzr;have hst:=steps vals j oj hO hoj w hC fun i hi=>hGr i (hdeps i hi)
  have hag:∀t∈oj.looksAt ops,a.tmps[t]?=(lay ops a0 vals (List.range j).reverse).tmps[t]?:=fun t ht=>by
   rw[hI.act];refine lay_at ops a0 vals r _ t (huniq t) fun i hd=>?_;have hdi:=hs.2.2.1 t ht i hd;exact⟨fun _=>by rw[List.mem_reverse,List.mem_range];exact hs.1 i hdi,fun _=>hdeps i hdi⟩
  have hev:execOp a.eval oj=execOp (lay ops a0 vals (List.range j).reverse).eval oj:=execOp_congr oj hs.2.1 fun x hx=>by
   cases x with
   | tmp t =>
    have ht:t∈oj.looksAt ops:=List.mem_append_left _ (List.mem_filterMap.2 ⟨.tmp t,by simpa using hx,rfl⟩);have:=hag t ht;simp only[Act.eval,Array.getD_eq_getD_getElem?,this]
   | _=>rfl
  have hwa:Region.wanted oj (yielded ops a.tmps)=Region.wanted oj (yielded ops (lay ops a0 vals (List.range j).reverse).tmps):=by
   unfold Region.wanted;cases hg:oj.guard with
   | none=>rfl
   | some gw =>
    obtain⟨g,want⟩:=gw;have hy:yielded ops a.tmps g=yielded ops (lay ops a0 vals (List.range j).reverse).tmps g:=by
     unfold yielded;cases hd:(ops[g]?).bind (·.dst)with
     | none=>rfl
     | some t =>
      have ht:t∈oj.looksAt ops:=List.mem_append_right _ (by simp[hg,hd]);simp only[Option.bind_some,hag t ht]
    simp only[hy]
  have next:∀v w',(if j=z then Fin vals w' else C w'/\Le w w'/\G j v w')->wpAnyIn F nF P md ops Q fuel (listed.setIfInBounds j true) (a.put oj.dst v) w':=fun v w' hv=>by
   have hvr:∀i∈r,vals i=(fun k=>if k=j then v else vals k) i:=fun i hi=>by
    have:i≠j:=fun e=>hjr (e▸hi);simp[this]
   refine ih (j::r) (fun k=>if k=j then v else vals k) _ _ _ (by rw[List.length_cons];omega) (hupd vals j v w' hO fun e=>by rw[if_neg e]at hv;exact hv.2.2) ⟨List.nodup_cons.2 ⟨hjr,hI.nodup⟩,fun i hi=>?_,fun i hi=>?_,by simpa using hI.size,?_,fun hz i hi=>?_,fun hz=>?_,fun hz=>?_⟩
   ·rcases List.mem_cons.1 hi with rfl|hi
    ·exact hjs
    ·exact hI.lt i hi
   ·by_cases e:i=j
    ·subst e;have:i<listed.size:=by rw[hI.size];exact hi
     simp[Array.getD,this]
    ·rw[getD_set_ne true (fun h=>e h.symm),hI.mem i hi];simp[e]
   ·unfold lay;rw[<-lay_vals ops a0 vals _ r hvr,<-hI.act];simp[dstOf,hoj]
   ·rcases List.mem_cons.1 hz with e|hz
    ·by_cases e2:i=j
     ·subst e2;exact List.mem_cons_self
     ·exact List.mem_cons_of_mem _ (hdeps i (hs.2.2.2.2 e.symm i hi e2))
    ·exact absurd hz hzr
   ·have hjz:j≠z:=fun e=>hz (e▸List.mem_cons_self);rw[if_neg hjz]at hv;refine⟨hv.1,fun i hi=>?_⟩;rcases List.mem_cons.1 hi with rfl|hi
    ·simpa using hv.2.2
    ·show G i ((fun k=>if k=j then v else vals k) i) w';rw[<-hvr i hi];exact hG i _ _ _ (hGr i hi) hv.2.1
   ·rcases List.mem_cons.1 hz with e|hz
    ·rw[if_pos e.symm]at hv;exact hF _ _ _ (fun i hi=>by have:i≠j:=fun e2=>hi (e2.trans e.symm);simp[this]) hv
    ·exact absurd hz hzr
  unfold wpOpIn;simp only[hoj];rw[hwa];by_cases hw:Region.wanted oj (yielded ops (lay ops a0 vals (List.range j).reverse).tmps)=true
  ·rw[if_pos hw]at hst ⊢;refine post_wpIn hro (hplain j oj hoj) (R:=fun v w'=>if j=z then Fin vals w' else C w'/\Le w w'/\G j v w') ?_ next
   unfold post at hst ⊢;rw[hev];exact hst
  ·rw[if_neg hw]at hst ⊢;refine ⟨fun f hf=>absurd hf (by rw[plain_about (hplain j oj hoj)];simp),next undef w ?_⟩
   by_cases e:j=z
   ·rw[if_pos e]at hst ⊢;exact hst
   ·rw[if_neg e]at hst ⊢;exact⟨hC,hLe w,hst⟩
end
section
variable {P:Program} {ops:Array Oper} {w0:World} {pv:List (Option Value)} {G:Nat->Value->World->Prop} {Fin:(Nat->Value)->World->Prop} {z:Nat}
theorem b_regionIn (F:Fence) (nF l0:Nat) (hro:F.round=some l0) (w0:World)(pv:List (Option Value))(G:Nat->Value->World->Prop)(Fin:(Nat->Value)->World->Prop)(z:Nat){id:Nat}{Q:Exit->Act->World->Prop}{a:Act}{w:World}{l:List Oper}(hm:P.follows .mixedOrders=true)(hok:okB .any l.toArray z=true)(hplain:l.all plainOp=true) (hpz:pv.getD z none=none)
  (hG:∀i v w w',G i v w->Below w.heap.size w w'->G i v w') (hF:∀vals vals' w,(∀i,i≠z->vals i=vals' i)->Fin vals w->Fin vals' w) (hC:Below w0.heap.size w0 w.drew)
  (h:∀vals,(∀i V,pv.getD i none=some V->vals i=V)->WalkB P l.toArray w0 pv G Fin z vals (fun a'=>∀w',(if z<l.length then Fin vals w' else Below w0.heap.size w0 w'/\ ∀i,i<l.length->Known pv G i (vals i) w')->Q .normal a' w') 0 l a) :
  (Code.region id l.toArray true).wpIn F nF P Q a w:=by
 have hK:∀i v w w',Known pv G i v w->Below w.heap.size w w'->Known pv G i v w':=fun i v w w' hk hb=>by
  unfold Known at hk ⊢
  split
  ·rename_i e;rw[e]at hk;exact hk
  ·rename_i e;rw[e]at hk;exact hG _ _ _ _ hk hb
 refine wpIn_region_any hm ?_;refine inv_wpIn F nF l0 hro (fun j o ho=>List.all_eq_true.1 hplain o (List.mem_of_getElem? (by simpa using ho))) (md:= .any) (C:=fun w=>Below w0.heap.size w0 w) (Le:=fun w w'=>Below w.heap.size w w') (G:=Known pv G) (Fin:=Fin) (z:=z) (P:=P) (ops:=l.toArray) hok (fun w=>Below.refl _ _) hK hF a (Q:=Q) (fun vals=>∀i V,pv.getD i none=some V->vals i=V) (fun vals j v w hO hk i V hi=>?_) (fun vals j o hO hj=>?_) (fun vals w' hO hw'=>?_) _ [] (fun i=>(pv.getD i none).getD undef) _ _ _ (by simp) (fun i V hi=>by rw[hi];rfl) ⟨List.nodup_nil,fun i hi=>(nomatch hi),fun i hi=>?_,(by simp),rfl,fun hz=>(nomatch hz),fun _=>⟨hC,fun i hi=>(nomatch hi)⟩,fun hz=>(nomatch hz)⟩
 ·by_cases e:i=j
  ·subst e;have hz:i≠z:=fun e=>by rw[e,hpz]at hi;cases hi
   have h1:=hk hz;unfold Known at h1;rw[hi]at h1;simpa using h1
  ·simp only[e,if_false];exact hO i V hi
 ·exact(walk_step a l 0 a (fun j=>by simp) rfl (h vals hO).out).1 j o (Nat.zero_le _) hj
 ·have h1:=(walk_step a l 0 a (fun j=>by simp) rfl (h vals hO).out).2;simp only[Nat.zero_add]at h1;have h2:=h1 w' (by simpa using hw');simpa using h2
 ·have:i<l.length:=by simpa using hi
  simp[Array.getD,this]
end
end Rel
end Go.Proofs.Ythmkmjkbfjhffaa
