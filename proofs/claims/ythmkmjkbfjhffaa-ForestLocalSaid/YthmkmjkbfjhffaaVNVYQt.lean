/- Facts. -/
import Derived.Below
import Derived.Deep.Quiet
import Derived.Test.YthmkmjkbfjhffaaVNVYH
set_option maxHeartbeats 4000000
namespace Go.Proofs.Ythmkmjkbfjhffaa
open Go.RowKit
section
variable {P:Program} {ops:Array Oper} {C:World->Prop} {Q:Act->Prop}
structure WQ(P:Program)(ops:Array Oper)(C:World->Prop)(Q:Act->Prop)(l:List Oper)(a:Act):Prop where
 out:wpQuiet P ops C Q l a
theorem q_nil{a:Act}(h:Q a):WQ P ops C Q [] a:=⟨h⟩
theorem q_take{a:Act}{o:Oper}{rest:List Oper}{v:Value}(hw:Region.wanted o (yielded ops a.tmps)=true)(hv:∀w,C w->(execOp a.eval o).run P w= .ok (.value v) w)
  (h:WQ P ops C Q rest (a.put o.dst v)):WQ P ops C Q (o::rest) a:=by
 refine⟨?_⟩;unfold wpQuiet;rw[if_pos hw];exact⟨v,fun w hC=>by unfold Oper.quietAt;rw[hv w hC];exact⟨rfl,rfl⟩,h.out⟩
theorem q_skip{a:Act}{o:Oper}{rest:List Oper}(hw:Region.wanted o (yielded ops a.tmps)=false)
  (h:WQ P ops C Q rest (a.put o.dst undef)):WQ P ops C Q (o::rest) a:=by
 refine⟨?_⟩;unfold wpQuiet;rw[if_neg (by rw[hw];exact Bool.false_ne_true)];exact h.out
theorem q_call{a:Act}{o:Oper}{rest:List Oper}{v:Value}{f:Nat}{xs:Array Operand}{ts:Array TypeId}(fn:Func)(hw:Region.wanted o (yielded ops a.tmps)=true)
  (ho:o.op= .call {callee:= .value (.func f),args:=xs,argTypes:=ts}) (hf:P.funcs[f]?=some fn) (hn:(fn.name == "runtime.NumGoroutine")=false) (hb:fn.body.isNone=false) (args:Array Value) (hargs:xs.map a.eval=args)
  (hc:∀w,C w->Calls P f args w fun e w''=>e= .returned v/\C w'') (h:WQ P ops C Q rest (a.put o.dst v)):WQ P ops C Q (o::rest) a:=by
 have hrun:∀w,(execOp a.eval o).run P w= .ok (.enter f args) w:=fun w=>by
  simp only[execOp,ho,resolve,Act.eval,Deferred.ofValue,invoke,callFunc,Sem.run_bind,Sem.run_pure,Result.andThen_ok,hargs];have hn':¬fn.name = "runtime.NumGoroutine" := by simpa using hn
  have hb':¬fn.body=none:=by intro e;rw[e]at hb;cases hb
  simp[hf,hn',hb']
 refine⟨?_⟩;unfold wpQuiet;rw[if_pos hw];exact⟨v,fun w hC=>by unfold Oper.quietAt;rw[hrun w];exact⟨rfl,hc w hC⟩,h.out⟩
theorem q_region(C:World->Prop){id:Nat}{Q:Exit->Act->World->Prop}{a:Act}{w:World}{l:List Oper}(hm:P.follows .mixedOrders=true)(hB:Region.lexB .any l.toArray=true)(hC:C {w with drawn:=w.drawn+1})
  (h:WQ P l.toArray C (fun a'=>∀w',C w'->Q .normal a' w') l a):(Code.region id l.toArray true).wp P Q a w :=
 wp_region_quiet (C:=C) hm hB hC (by simpa using h.out)
end
def dropC:Nat->Code->Code
 | 0,c=>c
 | n+1,.seq _ b=>dropC n b
 | _,c=>c
theorem wp_eq{C D:Code}{Q:Exit->Act->World->Prop}{a:Act}{w:World}(h:C=D)(hw:Code.wp Try.prog D Q a w):Code.wp Try.prog C Q a w:=by rw[h];exact hw
namespace Rel
def dstOf(ops:Array Oper)(i:Nat):Option Tmp:=(ops[i]?).bind (·.dst)
def lay(ops:Array Oper)(a0:Act)(vals:Nat->Value):List Nat->Act
 | []=>a0
 | i::l=>(lay ops a0 vals l).put (dstOf ops i) (vals i)
theorem lay_defers(ops:Array Oper)(a0:Act)(vals:Nat->Value)(l:List Nat):(lay ops a0 vals l).defers=a0.defers:=by
 induction l with
 | nil=>rfl
 | cons i l ih=>unfold lay;rw[<-ih];cases dstOf ops i<;>rfl
theorem lay_size(ops:Array Oper)(a0:Act)(vals:Nat->Value)(l:List Nat):(lay ops a0 vals l).tmps.size=a0.tmps.size:=by
 induction l with
 | nil=>rfl
 | cons i l ih=>unfold lay;rw[<-ih];cases dstOf ops i<;>simp[Act.put]
theorem lay_none(ops:Array Oper)(a0:Act)(vals:Nat->Value)(l:List Nat)(t:Nat)(h:∀i∈l,dstOf ops i≠some t):(lay ops a0 vals l).tmps[t]?=a0.tmps[t]?:=by
 induction l with
 | nil=>rfl
 | cons i l ih =>
  unfold lay;have h1:=h i List.mem_cons_self;rw[<-ih fun j hj=>h j (List.mem_cons_of_mem _ hj)];cases hd:dstOf ops i with
  | none=>rfl
  | some d =>
   have hne:d≠t:=fun e=>h1 (by rw[hd,e]);simp[Act.put,Array.getElem?_setIfInBounds_ne hne]
theorem lay_some(ops:Array Oper)(a0:Act)(vals:Nat->Value)(l:List Nat)(t i:Nat)(hi:i∈l)(hd:dstOf ops i=some t)(hu:∀j∈l,dstOf ops j=some t->j=i)(ht:t<a0.tmps.size):(lay ops a0 vals l).tmps[t]?=some (vals i):=by
 induction l with
 | nil=>cases hi
 | cons j l ih =>
  unfold lay;by_cases hj:dstOf ops j=some t
  ·obtain rfl:=hu j List.mem_cons_self hj;rw[hj];simp[Act.put,lay_size,ht]
  ·have hil:i∈l:=by
    rcases List.mem_cons.1 hi with rfl|h
    ·exact absurd hd hj
    ·exact h
   have h2:=ih hil fun k hk=>hu k (List.mem_cons_of_mem _ hk);cases hd2:dstOf ops j with
   | none=>exact h2
   | some d =>
    have hne:d≠t:=fun e=>hj (by rw[hd2,e]);simp only[Act.put];rw[Array.getElem?_setIfInBounds_ne hne];exact h2
theorem lay_out(ops:Array Oper)(a0:Act)(vals:Nat->Value)(l:List Nat)(t:Nat)(ht:¬t<a0.tmps.size):(lay ops a0 vals l).tmps[t]?=none:=by
 apply Array.getElem?_eq_none;rw[lay_size];omega
theorem lay_at(ops:Array Oper)(a0:Act)(vals:Nat->Value)(l m:List Nat)(t:Nat)(huniq:∀i j,dstOf ops i=some t->dstOf ops j=some t->i=j)(h:∀i,dstOf ops i=some t->(i∈l↔i∈m)):
  (lay ops a0 vals l).tmps[t]?=(lay ops a0 vals m).tmps[t]?:=by
 by_cases ht:t<a0.tmps.size
 ·by_cases he:∃i∈l,dstOf ops i=some t
  ·obtain⟨i,hi,hd⟩:=he;rw[lay_some ops a0 vals l t i hi hd (fun j _ hj=>huniq j i hj hd) ht,lay_some ops a0 vals m t i ((h i hd).1 hi) hd (fun j _ hj=>huniq j i hj hd) ht]
  ·rw[lay_none ops a0 vals l t fun i hi hd=>he ⟨i,hi,hd⟩,lay_none ops a0 vals m t fun i hi hd=>he ⟨i,(h i hd).2 hi,hd⟩]
 ·rw[lay_out _ _ _ _ _ ht,lay_out _ _ _ _ _ ht]
theorem lay_same(ops:Array Oper)(a0:Act)(vals:Nat->Value)(l m:List Nat)(huniq:∀t i j,dstOf ops i=some t->dstOf ops j=some t->i=j)(h:∀i,dstOf ops i≠none->(i∈l↔i∈m)):lay ops a0 vals l=lay ops a0 vals m:=by
 have e1:(lay ops a0 vals l).tmps=(lay ops a0 vals m).tmps:=Array.ext_getElem? fun t=>lay_at ops a0 vals l m t (huniq t) fun i hd=>h i (by rw[hd];simp);have e2:(lay ops a0 vals l).defers=(lay ops a0 vals m).defers:=by rw[lay_defers,lay_defers]
 cases hl:lay ops a0 vals l;cases hm:lay ops a0 vals m;rw[hl,hm]at e1 e2;simp only at e1 e2;rw[e1,e2]
theorem lay_vals(ops:Array Oper)(a0:Act)(vals vals':Nat->Value)(l:List Nat)(h:∀i∈l,vals i=vals' i):lay ops a0 vals l=lay ops a0 vals' l:=by
 induction l with
 | nil=>rfl
 | cons i l ih =>
  unfold lay;rw[h i List.mem_cons_self,ih fun j hj=>h j (List.mem_cons_of_mem _ hj)]
def depsOf(md:Region.Mode)(o:Oper):List Nat:=o.after.toList.filterMap fun e=>if Region.binds md e then some e.on else none
def okOp(md:Region.Mode)(ops:Array Oper)(z j:Nat):Bool :=
 match ops[j]? with
 | none=>true
 | some o =>
  (depsOf md o).all (· < j)&&(match o.op with| .select _ _=>false|_=>true) &&
  (o.looksAt ops).all (fun t=>(List.range ops.size).all fun i=>dstOf ops i != some t||(depsOf md o).contains i) &&
  (List.range ops.size).all (fun i=>i==j||dstOf ops i==none||dstOf ops i != dstOf ops j) &&
  (j != z||(List.range ops.size).all fun i=>i==j||(depsOf md o).contains i)
def okB(md:Region.Mode)(ops:Array Oper)(z:Nat):Bool:=(List.range ops.size).all (okOp md ops z)
section
variable {P:Program} {md:Region.Mode} {ops:Array Oper} {C:World->Prop} {Le:World->World->Prop} {G:Nat->Value->World->Prop} {Fin:(Nat->Value)->World->Prop} {z:Nat}
def post(P:Program)(o:Oper)(a:Act)(w:World)(R:Value->World->Prop):Prop :=
 match (execOp a.eval o).run P w with
 | .ok (.value v) w'=>R v w'
 | .ok .skip w'=>R undef w'
 | .ok (.enter f args) w'=>Calls P f args w' fun e w''=>∃v,e= .returned v/\R v w''
 | _=>False
theorem post_wp{o:Oper}{a:Act}{w:World}{R:Value->World->Prop}{K:Act->World->Prop}{Q:Exit->Act->World->Prop}(h:post P o a w R)(hk:∀v w',R v w'->K (a.put o.dst v) w'):o.wp P a w K Q:=by
 unfold post at h;unfold Oper.wp;generalize (execOp a.eval o).run P w=r at *
 cases r with
 | ok n w' =>
  cases n<;>simp only at h<;>simp only[Oper.upon]
  case value v=>exact hk _ _ h
  case skip=>exact hk _ _ h
  case enter f args=>exact Calls.mono h fun e w'' ⟨v,he,hr⟩=>by subst he;exact hk _ _ hr
 | halt x w'=>exact h.elim
def Step(P:Program)(md:Region.Mode)(ops:Array Oper)(C:World->Prop)(Le:World->World->Prop)(G:Nat->Value->World->Prop)(Fin:(Nat->Value)->World->Prop)(z:Nat)(vals:Nat->Value)(j:Nat)(o:Oper)(a:Act):Prop :=
 ∀w,C w->(∀i∈depsOf md o,G i (vals i) w) ->
  if Region.wanted o (yielded ops a.tmps)=true then post P o a w (fun v w'=>if j=z then Fin vals w' else C w'/\Le w w'/\G j v w')else(if j=z then Fin vals w else G j undef w)
def Walk(P:Program)(md:Region.Mode)(ops:Array Oper)(C:World->Prop)(Le:World->World->Prop)(G:Nat->Value->World->Prop)(Fin:(Nat->Value)->World->Prop)(z:Nat)(vals:Nat->Value)(R:Act->Prop):Nat->List Oper->Act->Prop
 | _,[],a=>R a
 | j,o::rest,a=>Step P md ops C Le G Fin z vals j o a/\Walk P md ops C Le G Fin z vals R (j+1) rest (a.put o.dst (vals j))
theorem walk_step{vals:Nat->Value}{R:Act->Prop}(a0:Act):∀(l:List Oper) (k:Nat) (a:Act),(∀j,l[j]?=ops[k+j]?)->a=lay ops a0 vals (List.range k).reverse ->
  Walk P md ops C Le G Fin z vals R k l a->(∀j o,k<=j->ops[j]?=some o->Step P md ops C Le G Fin z vals j o (lay ops a0 vals (List.range j).reverse))/\R (lay ops a0 vals (List.range (k+l.length)).reverse)
 | [],k,a,hl,ha,h=>by
  refine⟨fun j o hj ho=>?_,by subst ha;exact h⟩;have:=hl (j-k);rw[show k+(j-k)=j by omega,ho]at this;simp at this
 | o::rest,k,a,hl,ha,h=>by
  have h0:ops[k]?=some o:=by simpa using(hl 0).symm
  have e:a.put o.dst (vals k)=lay ops a0 vals (List.range (k+1)).reverse:=by
   rw[List.range_succ,List.reverse_append,List.reverse_singleton,List.singleton_append];unfold lay;rw[<-ha];simp[dstOf,h0]
  obtain⟨h1,h2⟩:=walk_step a0 rest (k+1) _ (fun j=>by have:=hl (j+1);simpa[Nat.add_assoc,Nat.add_comm 1 j]using this) e h.2;refine⟨fun j o' hj ho'=>?_,by rw[List.length_cons,show k+(rest.length+1)=k+1+rest.length by omega];exact h2⟩;by_cases hjk:j=k
  ·subst hjk;rw[h0]at ho';injection ho' with ho'
   subst ho';rw[<-ha];exact h.1
  ·exact h1 j o' (by omega) ho'
theorem okB_spec(h:okB md ops z=true){j:Nat}{o:Oper}(ho:ops[j]?=some o):
  (∀i∈depsOf md o,i<j)/\(∀cs b,o.op≠ .select cs b)/\(∀t∈o.looksAt ops,∀i,dstOf ops i=some t->i∈depsOf md o)/\(∀i t,dstOf ops i=some t->dstOf ops j=some t->i=j)/\(j=z->∀i,i<ops.size->i≠j->i∈depsOf md o):=by
 have hj:j<ops.size:=(Array.getElem?_eq_some_iff.1 ho).1;unfold okB at h;rw[List.all_eq_true]at h;have h1:=h j (List.mem_range.2 hj);unfold okOp at h1;rw[ho]at h1;simp only[Bool.and_eq_true]at h1;obtain⟨⟨⟨⟨h1,h2⟩,h3⟩,h4⟩,h5⟩:=h1;have hlt:∀i t,dstOf ops i=some t->i<ops.size:=fun i t e=>by
  unfold dstOf at e;by_cases h:i<ops.size
  ·exact h
  ·rw[Array.getElem?_eq_none (by omega)]at e;cases e
 refine⟨fun i hi=>by simpa using List.all_eq_true.1 h1 i hi,fun cs b (e:o.op= .select cs b)=>(by rw[e]at h2;cases h2),fun t ht i hd=>?_,fun i t hi hj2=>?_,fun e i hi hne=>?_⟩
 ·have h6:=List.all_eq_true.1 (List.all_eq_true.1 h3 t ht) i (List.mem_range.2 (hlt i t hd));rw[hd]at h6;simpa using h6
 ·have h6:=List.all_eq_true.1 h4 i (List.mem_range.2 (hlt i t hi));rw[hi,hj2]at h6;simpa using h6
 ·rw[e]at h5;simp only[bne_self_eq_false,Bool.false_or]at h5;have h6:=List.all_eq_true.1 h5 i (List.mem_range.2 hi);have hne2:¬i=z:=fun e2=>hne (e2.trans e.symm);simpa[hne2]using h6
structure Inv(ops:Array Oper)(C:World->Prop)(G:Nat->Value->World->Prop)(Fin:(Nat->Value)->World->Prop)(z:Nat)(a0:Act)(r:List Nat)(vals:Nat->Value)(listed:Array Bool)(a:Act)(w:World):Prop where
 nodup:r.Nodup
 lt:∀i∈r,i<ops.size
 mem:∀i,i<ops.size->(listed.getD i true=true↔i∈r)
 size:listed.size=ops.size
 act:a=lay ops a0 vals r
 zall:z∈r->∀i,i<ops.size->i∈r
 open_:z∉r->C w/\ ∀i∈r,G i (vals i) w
 shut:z∈r->Fin vals w
theorem inv_wp(hok:okB md ops z=true)(hLe:∀w,Le w w)(hG:∀i v w w',G i v w->Le w w'->G i v w')(hF:∀vals vals' w,(∀i,i≠z->vals i=vals' i)->Fin vals w->Fin vals' w)(a0:Act){Q:Exit->Act->World->Prop}(Okv:(Nat->Value)->Prop)(hupd:∀vals j v w,Okv vals->(j≠z->G j v w)->Okv (fun k=>if k=j then v else vals k))
  (steps:∀vals j o,Okv vals->ops[j]?=some o->Step P md ops C Le G Fin z vals j o (lay ops a0 vals (List.range j).reverse))
  (hfin:∀vals w,Okv vals->(if z<ops.size then Fin vals w else C w/\ ∀i,i<ops.size->G i (vals i) w)->Q .normal (lay ops a0 vals (List.range ops.size).reverse) w) :
  ∀(fuel:Nat) (r:List Nat) (vals:Nat->Value) (listed:Array Bool) (a:Act) (w:World),r.length+fuel=ops.size->Okv vals->Inv ops C G Fin z a0 r vals listed a w->wpAny P md ops Q fuel listed a w:=by
 have huniq:∀t i j,dstOf ops i=some t->dstOf ops j=some t->i=j:=fun t i j hi hj=>by
  have hlt:j<ops.size:=by
   unfold dstOf at hj;by_cases h:j<ops.size
   ·exact h
   ·rw[Array.getElem?_eq_none (by omega)]at hj;cases hj
  exact(okB_spec hok (Array.getElem?_eq_getElem hlt)).2.2.2.1 i t hi hj
 have full:∀(r:List Nat) (vals:Nat->Value) (listed:Array Bool) (a:Act) (w:World),(∀i,i<ops.size->i∈r)->Okv vals->Inv ops C G Fin z a0 r vals listed a w->Q .normal a w:=fun r vals listed a w hall hO hI=>by
  rw[hI.act,lay_same ops a0 vals r (List.range ops.size).reverse huniq fun i _=>by
   rw[List.mem_reverse,List.mem_range];exact⟨hI.lt i,hall i⟩]
  refine hfin vals w hO ?_;by_cases hz:z<ops.size
  ·rw[if_pos hz];exact hI.shut (hall z hz)
  ·rw[if_neg hz];have h:=hI.open_ fun hm=>hz (hI.lt z hm);exact⟨h.1,fun i hi=>h.2 i (hall i hi)⟩
 have done:∀(r:List Nat) (vals:Nat->Value) (listed:Array Bool) (a:Act) (w:World),Region.ready md ops listed=[]->Inv ops C G Fin z a0 r vals listed a w->∀i,i<ops.size->i∈r:=fun r vals listed a w hr hI=>by
  intro i
  induction i using Nat.strongRecOn with
  | _ i ih =>
   intro hi;apply Classical.byContradiction;intro hno;have ho:ops[i]?=some ops[i]:=Array.getElem?_eq_getElem hi;have hs:=okB_spec hok ho;have:i∈Region.ready md ops listed:=mem_ready.2 ⟨by
     have h9:=hI.mem i hi;cases hc:listed.getD i true with
     | false=>rfl
     | true=>exact absurd (h9.1 hc) hno,_,ho,fun e he hb=>by
     have hdep:e.on∈depsOf md ops[i]:=List.mem_filterMap.2 ⟨e,by simpa using he,by rw[if_pos hb]⟩;have hlt:=hs.1 _ hdep;have h1:=(hI.mem e.on (by omega)).2 (ih e.on hlt (by omega));have hsz:=hI.size;have:e.on<listed.size:=by omega
     simp only[Array.getD,this,dif_pos]at h1 ⊢;exact h1⟩
   rw[hr]at this;cases this
 intro fuel
 induction fuel with
 | zero =>
  intro r vals listed a w hlen hO hI;have hall:∀i,i<ops.size->i∈r:=fun i hi=>by
   apply Classical.byContradiction;intro hno;have h1:(i::r).Nodup:=List.nodup_cons.2 ⟨hno,hI.nodup⟩;have h2:(i::r) ⊆ List.range ops.size:=fun x hx=>by
    rcases List.mem_cons.1 hx with rfl|hx
    ·exact List.mem_range.2 hi
    ·exact List.mem_range.2 (hI.lt x hx)
   have h3:=List.Nodup.length_le_of_subset h1 h2;simp at h3;omega
  refine⟨?_,full r vals listed a w hall hO hI⟩;unfold Region.ready;rw[List.filter_eq_nil_iff];intro i hi;have h1:=(hI.mem i (List.mem_range.1 hi)).2 (hall i (List.mem_range.1 hi));simp[h1]
 | succ fuel ih =>
  intro r vals listed a w hlen hO hI;refine⟨fun h0=>full r vals listed a w (done r vals listed a w h0 hI) hO hI,fun j hj=>?_⟩;obtain⟨hjun,oj,hoj,hall⟩:=mem_ready.1 hj;have hjs:j<ops.size:=(Array.getElem?_eq_some_iff.1 hoj).1;have hjr:j∉r:=fun h=>by
   have:=(hI.mem j hjs).2 h;rw[hjun]at this;cases this
  have hs:=okB_spec hok hoj;have hdeps:∀i∈depsOf md oj,i∈r:=fun i hi=>by
   obtain⟨e,he,h2⟩:=List.mem_filterMap.1 hi;by_cases hb:Region.binds md e=true
   ·rw[if_pos hb]at h2;injection h2 with h2
    subst h2;have h3:=hall e (by simpa using he) hb;have hlt:=hs.1 _ hi;have hsz:=hI.size;refine(hI.mem e.on (by omega)).1 ?_;have:e.on<listed.size:=by omega
    simp only[Array.getD,this,dif_pos]at h3 ⊢;exact h3
   ·rw[if_neg hb]at h2;cases h2
  have hzr:z∉r:=fun hz=>hjr (hI.zall hz j hjs);obtain⟨hC,hGr⟩:=hI.open_ hzr;have hst:=steps vals j oj hO hoj w hC fun i hi=>hGr i (hdeps i hi)
  have hag:∀t∈oj.looksAt ops,a.tmps[t]?=(lay ops a0 vals (List.range j).reverse).tmps[t]?:=fun t ht=>by
   rw[hI.act];refine lay_at ops a0 vals r _ t (huniq t) fun i hd=>?_;have hdi:=hs.2.2.1 t ht i hd;exact⟨fun _=>by rw[List.mem_reverse,List.mem_range];exact hs.1 i hdi,fun _=>hdeps i hdi⟩
  have hev:execOp a.eval oj=execOp (lay ops a0 vals (List.range j).reverse).eval oj:=execOp_congr oj hs.2.1 fun x hx=>by
   cases x with
   | tmp t =>
    have ht:t∈oj.looksAt ops:=List.mem_append_left _ (List.mem_filterMap.2 ⟨.tmp t,by simpa using hx,rfl⟩);have:=hag t ht;simp only[Act.eval,Array.getD_eq_getD_getElem?,this]
   | _=>rfl
  have hwa:Region.wanted oj (yielded ops a.tmps)=Region.wanted oj (yielded ops (lay ops a0 vals (List.range j).reverse).tmps):=by
   unfold Region.wanted;cases hg:oj.guard with
   | none=>rfl
   | some gw =>
    obtain⟨g,want⟩:=gw;have hy:yielded ops a.tmps g=yielded ops (lay ops a0 vals (List.range j).reverse).tmps g:=by
     unfold yielded;cases hd:(ops[g]?).bind (·.dst)with
     | none=>rfl
     | some t =>
      have ht:t∈oj.looksAt ops:=List.mem_append_right _ (by simp[hg,hd]);simp only[Option.bind_some,hag t ht]
    simp only[hy]
  have next:∀v w',(if j=z then Fin vals w' else C w'/\Le w w'/\G j v w')->wpAny P md ops Q fuel (listed.setIfInBounds j true) (a.put oj.dst v) w':=fun v w' hv=>by
   have hvr:∀i∈r,vals i=(fun k=>if k=j then v else vals k) i:=fun i hi=>by
    have:i≠j:=fun e=>hjr (e▸hi);simp[this]
   refine ih (j::r) (fun k=>if k=j then v else vals k) _ _ _ (by rw[List.length_cons];omega) (hupd vals j v w' hO fun e=>by rw[if_neg e]at hv;exact hv.2.2) ⟨List.nodup_cons.2 ⟨hjr,hI.nodup⟩,fun i hi=>?_,fun i hi=>?_,by simpa using hI.size,?_,fun hz i hi=>?_,fun hz=>?_,fun hz=>?_⟩
   ·rcases List.mem_cons.1 hi with rfl|hi
    ·exact hjs
    ·exact hI.lt i hi
   ·by_cases e:i=j
    ·subst e;have:i<listed.size:=by rw[hI.size];exact hi
     simp[Array.getD,this]
    ·rw[getD_set_ne true (fun h=>e h.symm),hI.mem i hi];simp[e]
   ·unfold lay;rw[<-lay_vals ops a0 vals _ r hvr,<-hI.act];simp[dstOf,hoj]
   ·rcases List.mem_cons.1 hz with e|hz
    ·by_cases e2:i=j
     ·subst e2;exact List.mem_cons_self
     ·exact List.mem_cons_of_mem _ (hdeps i (hs.2.2.2.2 e.symm i hi e2))
    ·exact absurd hz hzr
   ·have hjz:j≠z:=fun e=>hz (e▸List.mem_cons_self);rw[if_neg hjz]at hv;refine⟨hv.1,fun i hi=>?_⟩;rcases List.mem_cons.1 hi with rfl|hi
    ·simpa using hv.2.2
    ·show G i ((fun k=>if k=j then v else vals k) i) w';rw[<-hvr i hi];exact hG i _ _ _ (hGr i hi) hv.2.1
   ·rcases List.mem_cons.1 hz with e|hz
    ·rw[if_pos e.symm]at hv;exact hF _ _ _ (fun i hi=>by have:i≠j:=fun e2=>hi (e2.trans e.symm);simp[this]) hv
    ·exact absurd hz hzr
  unfold wpOp;simp only[hoj];rw[hwa];by_cases hw:Region.wanted oj (yielded ops (lay ops a0 vals (List.range j).reverse).tmps)=true
  ·rw[if_pos hw]at hst ⊢;refine .inl ?_;refine post_wp (R:=fun v w'=>if j=z then Fin vals w' else C w'/\Le w w'/\G j v w') ?_ next
   unfold post at hst ⊢;rw[hev];exact hst
  ·rw[if_neg hw]at hst ⊢;refine next undef w ?_
   by_cases e:j=z
   ·rw[if_pos e]at hst ⊢;exact hst
   ·rw[if_neg e]at hst ⊢;exact⟨hC,hLe w,hst⟩
end
end Rel
namespace Rel
section
variable {P:Program} {ops:Array Oper} {w0:World} {pv:List (Option Value)} {G:Nat->Value->World->Prop} {Fin:(Nat->Value)->World->Prop} {z:Nat}
def Known(pv:List (Option Value))(G:Nat->Value->World->Prop)(i:Nat)(v:Value)(w:World):Prop :=
 match pv.getD i none with
 | some V=>v=V
 | none=>G i v w
structure WalkB(P:Program)(ops:Array Oper)(w0:World)(pv:List (Option Value))(G:Nat->Value->World->Prop)(Fin:(Nat->Value)->World->Prop)(z:Nat)(vals:Nat->Value)(R:Act->Prop)(j:Nat)(l:List Oper)(a:Act):Prop where
 out:Walk P .any ops (fun w=>Below w0.heap.size w0 w) (fun w w'=>Below w.heap.size w w') (Known pv G) Fin z vals R j l a
variable {vals:Nat->Value} {R:Act->Prop} {j:Nat} {o:Oper} {rest:List Oper} {a:Act}
theorem b_end(h:R a):WalkB P ops w0 pv G Fin z vals R j [] a:=⟨h⟩
theorem b_pure(V:Value)(hp:pv.getD j none=some V)(hz:j≠z)(hvals:vals j=V)(hw:Region.wanted o (yielded ops a.tmps)=true)
  (hv:∀w,Below w0.heap.size w0 w->(∀i∈depsOf .any o,Known pv G i (vals i) w)->(execOp a.eval o).run P w= .ok (.value V) w)
  (h:WalkB P ops w0 pv G Fin z vals R (j+1) rest (a.put o.dst V)):WalkB P ops w0 pv G Fin z vals R j (o::rest) a:=by
 refine⟨⟨fun w hC hd=>?_,by rw[hvals];exact h.out⟩⟩;rw[if_pos hw];unfold post;rw[hv w hC hd];dsimp only;rw[if_neg hz];exact⟨hC,Below.refl _ _,by unfold Known;rw[hp]⟩
theorem b_rel(hp:pv.getD j none=none)(hz:j≠z)(hw:Region.wanted o (yielded ops a.tmps)=true)
  (hv:∀w,Below w0.heap.size w0 w->(∀i∈depsOf .any o,Known pv G i (vals i) w)->post P o a w fun v w'=>Below w.heap.size w w'/\G j v w')
  (h:WalkB P ops w0 pv G Fin z vals R (j+1) rest (a.put o.dst (vals j))):WalkB P ops w0 pv G Fin z vals R j (o::rest) a:=by
 refine⟨⟨fun w hC hd=>?_,h.out⟩⟩;rw[if_pos hw];have h1:=hv w hC hd;have mono:∀ {R R':Value->World->Prop},(∀v w',R v w'->R' v w')->post P o a w R->post P o a w R':=fun{R R'} hr hp=>by
  unfold post at hp ⊢;generalize (execOp a.eval o).run P w=r at *
  cases r with
  | ok n w' =>
   cases n<;>simp only at hp ⊢
   case value v=>exact hr _ _ hp
   case skip=>exact hr _ _ hp
   case enter f args=>exact Calls.mono hp fun e w'' ⟨v,he,hq⟩=>⟨v,he,hr _ _ hq⟩
  | halt x w'=>exact hp.elim
 refine mono (fun v w' h2=>?_) h1;rw[if_neg hz];exact⟨hC.trans (h2.1.mono hC.size),h2.1,by unfold Known;rw[hp];exact h2.2⟩
theorem b_last(hz:j=z)(hw:Region.wanted o (yielded ops a.tmps)=true)
  (hv:∀w,Below w0.heap.size w0 w->(∀i∈depsOf .any o,Known pv G i (vals i) w)->post P o a w fun _ w'=>Fin vals w')
  (h:WalkB P ops w0 pv G Fin z vals R (j+1) rest (a.put o.dst (vals j))):WalkB P ops w0 pv G Fin z vals R j (o::rest) a:=by
 refine⟨⟨fun w hC hd=>?_,h.out⟩⟩;rw[if_pos hw];have h1:=hv w hC hd;simp only[hz,if_true];exact h1
theorem b_region(w0:World)(pv:List (Option Value))(G:Nat->Value->World->Prop)(Fin:(Nat->Value)->World->Prop)(z:Nat){id:Nat}{Q:Exit->Act->World->Prop}{a:Act}{w:World}{l:List Oper}(hm:P.follows .mixedOrders=true)(hok:okB .any l.toArray z=true)(hpz:pv.getD z none=none)
  (hG:∀i v w w',G i v w->Below w.heap.size w w'->G i v w') (hF:∀vals vals' w,(∀i,i≠z->vals i=vals' i)->Fin vals w->Fin vals' w) (hC:Below w0.heap.size w0 w.drew)
  (h:∀vals,(∀i V,pv.getD i none=some V->vals i=V)->WalkB P l.toArray w0 pv G Fin z vals (fun a'=>∀w',(if z<l.length then Fin vals w' else Below w0.heap.size w0 w'/\ ∀i,i<l.length->Known pv G i (vals i) w')->Q .normal a' w') 0 l a) :
  (Code.region id l.toArray true).wp P Q a w:=by
 have hK:∀i v w w',Known pv G i v w->Below w.heap.size w w'->Known pv G i v w':=fun i v w w' hk hb=>by
  unfold Known at hk ⊢
  split
  ·rename_i e;rw[e]at hk;exact hk
  ·rename_i e;rw[e]at hk;exact hG _ _ _ _ hk hb
 refine wp_region_any hm ?_;refine inv_wp (md:= .any) (C:=fun w=>Below w0.heap.size w0 w) (Le:=fun w w'=>Below w.heap.size w w') (G:=Known pv G) (Fin:=Fin) (z:=z) (P:=P) (ops:=l.toArray) hok (fun w=>Below.refl _ _) hK hF a (Q:=Q) (fun vals=>∀i V,pv.getD i none=some V->vals i=V) (fun vals j v w hO hk i V hi=>?_) (fun vals j o hO hj=>?_) (fun vals w' hO hw'=>?_) _ [] (fun i=>(pv.getD i none).getD undef) _ _ _ (by simp) (fun i V hi=>by rw[hi];rfl) ⟨List.nodup_nil,fun i hi=>(nomatch hi),fun i hi=>?_,(by simp),rfl,fun hz=>(nomatch hz),fun _=>⟨hC,fun i hi=>(nomatch hi)⟩,fun hz=>(nomatch hz)⟩
 ·by_cases e:i=j
  ·subst e;have hz:i≠z:=fun e=>by rw[e,hpz]at hi;cases hi
   have h1:=hk hz;unfold Known at h1;rw[hi]at h1;simpa using h1
  ·simp only[e,if_false];exact hO i V hi
 ·exact(walk_step a l 0 a (fun j=>by simp) rfl (h vals hO).out).1 j o (Nat.zero_le _) hj
 ·have h1:=(walk_step a l 0 a (fun j=>by simp) rfl (h vals hO).out).2;simp only[Nat.zero_add]at h1;have h2:=h1 w' (by simpa using hw');simpa using h2
 ·have:i<l.length:=by simpa using hi
  simp[Array.getD,this]
end
end Rel
end Go.Proofs.Ythmkmjkbfjhffaa
