/- Facts. -/
import Derived.Deep.AppendLies
import Derived.Test.YthmkmjkbfjhffaaVNVYA
set_option maxRecDepth 100000
set_option maxHeartbeats 4000000
namespace Go.Proofs.Ythmkmjkbfjhffaa
open Go.RowKit
theorem two_boxes(w w1:World)(a b c a' b' c':Value)(t:TypeId)(hw1:w1=(w.alloc (.cells #[a,b,c] t)).alloc (.cells #[a',b',c'] t)):
  Below w.heap.size w w1/\w.heap.size+1<w1.heap.size/\ ∀W,Below w1.heap.size w1 W->(W.cell? ⟨w.heap.size,0,none⟩=some a/\W.cell? ⟨w.heap.size,1,none⟩=some b/\W.cell? ⟨w.heap.size,2,none⟩=some c) /\
   (W.cell? ⟨w.heap.size+1,0,none⟩=some a'/\W.cell? ⟨w.heap.size+1,1,none⟩=some b'/\W.cell? ⟨w.heap.size+1,2,none⟩=some c'):=by
 have hz:w.heap.size+1<w1.heap.size:=by rw[hw1];simp
 have hB:Below w.heap.size w w1:=by rw[hw1];exact((Below.refl _ w).alloc (Nat.le_refl _) _).alloc (by simp) _
 have r1:w1.heap[w.heap.size]?=some (.cells #[a,b,c] t (0,0)):=by rw[hw1,heap_alloc2_old]
 have r2:w1.heap[w.heap.size+1]?=some (.cells #[a',b',c'] t (0,0)):=by rw[hw1,heap_alloc2_new]
 refine⟨hB,hz,fun W B=>⟨⟨?_,?_,?_⟩,⟨?_,?_,?_⟩⟩⟩
 ·rw[B.cell (p:=⟨w.heap.size,0,none⟩) (by dsimp only;omega),cell_of_row _ _ _ _ _ _ r1];rfl
 ·rw[B.cell (p:=⟨w.heap.size,1,none⟩) (by dsimp only;omega),cell_of_row _ _ _ _ _ _ r1];rfl
 ·rw[B.cell (p:=⟨w.heap.size,2,none⟩) (by dsimp only;omega),cell_of_row _ _ _ _ _ _ r1];rfl
 ·rw[B.cell (p:=⟨w.heap.size+1,0,none⟩) (by dsimp only;omega),cell_of_row _ _ _ _ _ _ r2];rfl
 ·rw[B.cell (p:=⟨w.heap.size+1,1,none⟩) (by dsimp only;omega),cell_of_row _ _ _ _ _ _ r2];rfl
 ·rw[B.cell (p:=⟨w.heap.size+1,2,none⟩) (by dsimp only;omega),cell_of_row _ _ _ _ _ _ r2];rfl
def otherI(e:Ed)(i:Int):Int:=if e.src=i then e.dst else if e.dst=i then e.src else -1
theorem Other_any(e:Ed)(i:Int)(w:World):
  Calls Try.prog 13 #[e.val,.int .i64 i] w fun r w'=>r= .returned (.int .i64 (otherI e i))/\Below w.heap.size w w':=by
 have B1:Below w.heap.size w (w.alloc (.cells (edCells e) 40)):=(Below.refl _ w).alloc (Nat.le_refl _) _;unfold Ed.val;by_cases h1:e.src=i
 ·have hr:otherI e i=e.dst:=by unfold otherI;rw[if_pos h1]
  rw[hr];have t1:(i==e.src)=true:=by simp[h1]
  have h1h:=Hd h1;clear h1 hr;go_enter Try.func13,Try.ntmps13;go_wp2_with fail;go_ret;exact⟨rfl,B1⟩
 ·have t1:(i==e.src)=false:=by rw[beq_eq_false_iff_ne];exact fun h=>h1 h.symm
  by_cases h2:e.dst=i
  ·have hr:otherI e i=e.src:=by unfold otherI;rw[if_neg h1,if_pos h2]
   rw[hr];have t2:(i==e.dst)=true:=by simp[h2]
   have h2h:=Hd h2;clear h1 hr h2;go_enter Try.func13,Try.ntmps13;go_wp2_with fail;go_ret;exact⟨rfl,B1⟩
  ·have hr:otherI e i= -1:=by unfold otherI;rw[if_neg h1,if_neg h2]
   rw[hr];have t2:(i==e.dst)=false:=by rw[beq_eq_false_iff_ne];exact fun h=>h2 h.symm
   clear h1 hr h2;go_enter Try.func13,Try.ntmps13;go_wp2_with fail;go_ret;exact⟨rfl,B1⟩
def posE(ks:List Int)(x:Int):Nat:=(ks.takeWhile (fun k=>decide (k≠x))).length
def plI(ks:List Int)(x:Int):Int:=if posE ks x<ks.length then(posE ks x:Int)else -1
theorem posE_eq:∀(ks:List Int) (x:Int) (i:Nat),i<=ks.length->(∀j (h:j<ks.length),j<i->ks[j]≠x)->(∀(h:i<ks.length),ks[i]=x)->posE ks x=i:=by
 intro ks x
 induction ks with
 | nil=>intro i hi _ _;simp at hi;subst hi;rfl
 | cons k t ih =>
  intro i hi h1 h2;cases i with
  | zero =>
   have:=h2 (by simp);simp only[List.getElem_cons_zero]at this;simp[posE,this]
  | succ i =>
   have h0:=h1 0 (by simp) (by omega);simp only[List.getElem_cons_zero]at h0;have:=ih i (by simpa using hi) (fun j h hj=>by have:=h1 (j+1) (by simpa using h) (by omega);simpa using this) (fun h=>by have:=h2 (by simpa using h);simpa using this);unfold posE at this ⊢;rw[List.takeWhile_cons_of_pos (by simpa using h0),List.length_cons,this]
theorem plI_at(ks:List Int)(x:Int)(i:Nat)(hi:i<ks.length)(h1:∀j (h:j<ks.length),j<i->ks[j]≠x)(h2:ks[i]=x):plI ks x=i:=by
 have:=posE_eq ks x i (by omega) h1 (fun _=>h2);unfold plI;rw[this,if_pos hi]
theorem plI_none(ks:List Int)(x:Int)(h1:∀j (h:j<ks.length),ks[j]≠x):plI ks x= -1:=by
 have:=posE_eq ks x ks.length (Nat.le_refl _) (fun j h _=>h1 j h) (fun h=>absurd h (Nat.lt_irrefl _));unfold plI;rw[this,if_neg (Nat.lt_irrefl _)]
theorem plI_neg(ks:List Int)(x:Int):plI ks x<0↔x∉ks:=by
 constructor
 ·intro h hm;unfold plI at h
  split at h
  ·omega
  ·rename_i h2;apply h2;unfold posE;clear h h2
   induction ks with
   | nil=>simp at hm
   | cons k t ih =>
    by_cases e:k=x
    ·subst e;simp
    ·rw[List.takeWhile_cons_of_pos (by simpa using e)];simp only[List.length_cons];have:=ih ((List.mem_cons.1 hm).resolve_left (fun h=>e h.symm));omega
 ·intro h;rw[plI_none ks x (fun j hj e=>h (e▸List.getElem_mem hj))]
  decide
def keysE(l:List Ed):List Int:=l.map (·.id)
theorem keysE_at(l:List Ed)(j:Nat)(h:j<(keysE l).length):(keysE l)[j]=(l[j]'(by simpa[keysE]using h)).id:=by simp[keysE]
theorem one_box(w w1:World)(a b c:Value)(t:TypeId)(hw1:w1=w.alloc (.cells #[a,b,c] t)):
  Below w.heap.size w w1/\w.heap.size<w1.heap.size/\ ∀W,Below w1.heap.size w1 W->W.cell? ⟨w.heap.size,0,none⟩=some a/\W.cell? ⟨w.heap.size,1,none⟩=some b/\W.cell? ⟨w.heap.size,2,none⟩=some c:=by
 have hz:w.heap.size<w1.heap.size:=by rw[hw1];simp
 refine⟨by rw[hw1];exact(Below.refl _ w).alloc (Nat.le_refl _) _,hz,fun W B=>?_⟩;rw[B.cell (p:=⟨w.heap.size,0,none⟩) hz,B.cell (p:=⟨w.heap.size,1,none⟩) hz,B.cell (p:=⟨w.heap.size,2,none⟩) hz,hw1];exact⟨World.cell?_alloc_at _ _ _ _ rfl,World.cell?_alloc_at _ _ _ _ rfl,World.cell?_alloc_at _ _ _ _ rfl⟩
set_option maxHeartbeats 1000000 in
theorem PlaceR_any(v:Value)(g:Gr)(x:Int)(w:World)(hv:GV w v g)(hn:g.vs.length<=1000000000000):
  Calls Try.prog 20 #[v,.int .i64 x] w fun e w'=>e= .returned (.int .i64 (plI (keysV g.vs) x))/\Below w.heap.size w w':=by
 obtain⟨a,b,c,rfl,h1,h2,h3⟩:=hv;obtain⟨w1,hw1⟩:∃w1,w1=w.alloc (.cells #[a,b,c] 28):=⟨_,rfl⟩;obtain⟨hB,hz,hcell0⟩:=one_box w w1 a b c 28 hw1;have hcell:=Hd (hcell0 w1 (Below.refl _ _));have hB0:=Hd hB;have hv1:=h1.below hB;generalize g.vs=l at *
 obtain⟨a1,a2,rfl⟩:=h1.shape;obtain⟨b1,b2,rfl⟩:=h2.shape;obtain⟨c1,c2,rfl⟩:=h3.shape;have hw2:=Hd hw1;clear hw1 hcell0 hB h1 h2 h3;have hkl:Hid ((keysV l).length=l.length):=by show _=_;simp[keysV]
 by_cases h0:l=[]
 ·subst h0;have hr:plI (keysV []) x= -1:=plI_none _ _ (fun j h=>by simp[keysV]at h);rw[hr];clear hv1 hr;simp only[List.length_nil]at *
  go_enter Try.func20,Try.ntmps20;go_wp2_with fail;rw[<-hw2.out];obtain⟨q0,q1,q2⟩:=hcell.out
  go_loop [5] (fun i=>i= .int .i64 0) (fun _=>0)
  case atStart=>rfl
  case round =>
   obtain rfl:=hrel;go_wp2_with fail;go_ret;exact⟨rfl,hB0.out⟩
 ·obtain⟨bL,oL,cL,he,e1,e2,e3⟩:=hv1.own h0;injection he with he1 he2 he3
  subst he1 he3;obtain⟨N,hN⟩:∃N,Hid (N=l.length):=⟨_,rfl⟩;rw[<-hN.out]at hw2 hcell e1 hn ⊢;have e3h:=Hd e3;clear hv1 h0 he2 e3;go_enter Try.func20,Try.ntmps20;go_wp2_with fail;rw[<-hw2.out];obtain⟨q0,q1,q2⟩:=hcell.out
  go_loop [5] (fun i=>∃k:Nat,k<=N/\i= .int .i64 k/\Hid (∀j (h:j<(keysV l).length),j<k->(keysV l)[j]≠x)) (fun i=>N-(intOf i).toNat)
  case atStart=>exact⟨0,by omega,rfl,fun j h hj=>by omega⟩
  case round =>
   obtain⟨k,hk,rfl,hall⟩:=hrel;by_cases hlt:k<N
   ·have hkl2:k<l.length:=by rw[<-hN.out];exact hlt
    obtain⟨c0,c1⟩:=e3h.out k l[k] (List.getElem?_eq_getElem hkl2);have hkk:Hid ((keysV l)[k]'(by rw[hkl.out];exact hkl2)=l[k].id):=keysV_at l k _;have i0:(0:Int)<=(k:Int):=by omega
    have i1:(k:Int)<(N:Int):=by omega
    generalize l[k]=u at *
    by_cases hx:u.id=x
    ·have t1:(u.id==x)=true:=by simpa using hx
     have hr:Hid (plI (keysV l) x=k):=plI_at _ _ _ (by rw[hkl.out];exact hkl2) hall.out (by rw[hkk.out];exact hx);clear hx;go_wp2_with fail;go_ret;exact⟨ret_int hr.out.symm,hB0.out⟩
    ·have t1:(u.id==x)=false:=by simpa using hx
     have hnew:Hid (∀j (h:j<(keysV l).length),j<k+1->(keysV l)[j]≠x):=fun j h hj=>by
      by_cases e:j=k
      ·subst e;rw[hkk.out];exact hx
      ·exact hall.out j h (by omega)
     clear hx;go_wp2_with fail
     go_round
     case rel=>exact⟨k+1,by omega,by go_num,hnew⟩
     case measure=>simp[intOf];omega
   ·have hk2:k=N:=by omega
    have hr:Hid (plI (keysV l) x= -1):=plI_none _ _ (fun j h=>hall.out j h (by rw[hkl.out,<-hN.out]at h;omega));have i1:¬(k:Int)<(N:Int):=by omega
    clear hk2;go_wp2_with fail;go_ret;exact⟨ret_int hr.out.symm,hB0.out⟩
theorem wpList_append_runB{P:Program}{w:World}{ops:Array Oper}{rest:List Oper}{o:Oper}{a:Act}{Q:Exit->Act->World->Prop}(hgd:o.guard=none)(s x:Operand)(t:TypeId)
  (ho:o.op= .call {callee:= .builtin .append,args:= #[s,x],argTypes:= #[t,t]}) (u v:Value) (hs:a.eval s=u) (hx:a.eval x=v) (v':Value) (w':World)
  (hr:(Builtin.append_ #[t,t] o.type #[u,v]).run P w= .ok v' w') (h:wpList P ops Q rest (a.put o.dst v') w'):wpList P ops Q (o::rest) a w:=by
 refine wpList_plain hgd fun K hK=>?_;unfold Oper.wp execOp;simp only[ho,resolve,invoke,builtin,Sem.run_bind,Sem.run_pure,Result.andThen_ok,List.map_toArray,List.map_cons,List.map_nil,hs,hx,hr];exact hK _ _ h
theorem info31:(Try.prog.info? 40).map (fun i=>(i.zero,i.size,i.bytes))=some (some (.agg #[.int .i64 0,.int .i64 0,.int .i64 0,.bool false,.int .i64 0,.int .i64 0]),6,48):=by kernel_rfl
def cEd(l:List Ed):List Value:=l.flatMap fun e=>(edCells e).toList
theorem cEd_at(l:List Ed):∀(j:Nat) (e:Ed) (i:Nat),l[j]?=some e->i<6->(cEd l)[j*6+i]?=(edCells e).toList[i]?:=by
 induction l with
 | nil=>intro j e i h;simp at h
 | cons x t ih =>
  intro j e i h hi;have hx:(edCells x).toList.length=6:=rfl;cases j with
  | zero =>
   simp at h;subst h;show((edCells x).toList++cEd t)[0*6+i]?=_;rw[List.getElem?_append_left (by omega)]
   simp
  | succ j =>
   show((edCells x).toList++cEd t)[(j+1)*6+i]?=_;rw[List.getElem?_append_right (by omega),hx,show(j+1)*6+i-6=j*6+i by omega];exact ih j e i (by simpa using h) hi
def OwnEd(W:World)(base:Nat)(v:Value)(l:List Ed):Prop:=W.ownsRow base 40 6 v l.length (cEd l)
theorem OwnEd.EL{W:World}{base:Nat}{v:Value}{l:List Ed}(h:OwnEd W base v l):EL W v l:=by
 unfold OwnEd at h;rcases h.2 with⟨rfl,h0⟩|⟨g,cap,cur,rfl,hb,hg,hc,hm,hs,ht⟩
 ·exact .inl ⟨List.length_eq_zero_iff.1 h0,_,_,rfl⟩
 ·by_cases hl:l=[]
  ·subst hl;exact .inl ⟨rfl,_,_,rfl⟩
  ·refine .inr ⟨hl,g,0,cap,rfl,hc,(Array.getElem?_eq_some_iff.1 hg).1,fun j e he=>?_⟩;have hj:j<l.length:=(List.getElem?_eq_some_iff.1 he).1;have key:∀i,i<6->W.cell? ⟨g,0+j*6+i,none⟩=(edCells e).toList[i]?:=fun i hi=>by
    rw[cell_of_row _ _ _ _ _ _ hg,<-cEd_at l j e i he hi,<-ht,List.getElem?_take_of_lt (by omega)]
    simp
   exact⟨key 0 (by omega),key 1 (by omega),key 2 (by omega),key 3 (by omega),key 4 (by omega),key 5 (by omega)⟩
theorem OwnEd.base{W:World}{base:Nat}{v:Value}{l:List Ed}(h:OwnEd W base v l)(k:Nat)(hk:v.ownBlock=some k):base<=k:=by
 unfold OwnEd at h;rcases h.2 with⟨rfl,_⟩|⟨g,cap,cur,rfl,hg,_⟩
 ·simp[Value.ownBlock]at hk
 ·simp[Value.ownBlock]at hk;omega
theorem snocE(W:World)(base:Nat)(v:Value)(l:List Ed)(u:Ed)(h:OwnEd W base v l)(hl:l.length<=1000000000)(hb:base<=W.heap.size):
  ∃v' w',(Builtin.append_ #[25,25] 25 #[v,.slice (some ⟨W.heap.size,0,none⟩) 1 1]).run Try.prog (W.alloc (.cells (edCells u) 40))= .ok v' w'/\OwnEd w' base v' (l++[u])/\(∀w0:World,Below base w0 W->base<=w0.heap.size->w0.heap.size<=base->Below base w0 w'):=by
 obtain⟨i0,hi,hz0,hz1,hz2⟩:=info_parts info31;obtain⟨g,cap,w',hr,ho,hg,_,_⟩:=run_append_lies (P:=Try.prog) (W.alloc (.cells (edCells u) 40)) 25 25 base 40 i0 _ 6 48 Try.underlying25 hi hz0 hz1 hz2 rfl (by omega) v l.length (cEd l) ((show W.ownsRow base 40 6 v l.length (cEd l)from h).alloc _) ⟨W.heap.size,0,none⟩ 1 1 (edCells u).toList rfl
  (World.news_of_block (cs:=edCells u) (t:=40) (fr:=(0,0)) (heap_alloc_new W _)) (by simp[edCells,Value.oneCell']) (by omega) (by unfold maxLen;omega) (by omega) (by simp;omega) (W.heap.size+1) (by simp)
 refine⟨_,w',hr,?_,fun w0 B h1 h2=>?_⟩
 ·unfold OwnEd;rw[List.length_append,cEd,List.flatMap_append];simpa[cEd]using ho
 ·exact(B.alloc (by omega) _).grown hg (by simp;omega) (fun k hk=>by have:=h.base k hk;omega)
def atF(l:List Ed)(i:Int):List Ed:=l.filter fun e=>e.src==i||e.dst==i
theorem atF_snoc(l:List Ed)(i:Int)(k:Nat)(h:k<l.length):atF (l.take (k+1)) i=if(l[k].src==i||l[k].dst==i)=true then atF (l.take k) i++[l[k]]else atF (l.take k) i:=by
 unfold atF;rw[List.take_succ_eq_append_getElem h,List.filter_append]
 split<;>simp_all
theorem atF_len(l:List Ed)(i:Int):(atF l i).length<=l.length:=List.length_filter_le _ _
theorem At_any(v:Value)(g:Gr)(x:Int)(w:World)(hv:GV w v g)(hn:g.es.length<=1000000000):
  Calls Try.prog 12 #[v,.int .i64 x] w fun e w'=>∃r,e= .returned r/\EL w' r (atF g.es x)/\Below w.heap.size w w':=by
 obtain⟨a,b,c,rfl,h1,h2,h3⟩:=hv;obtain⟨w1,hw1⟩:∃w1,w1=w.alloc (.cells #[a,b,c] 28):=⟨_,rfl⟩;obtain⟨hB,hz,hcell0⟩:=one_box w w1 a b c 28 hw1;have hcell:=Hd hcell0;have hB0:=Hd (fun W (B:Below w1.heap.size w1 W)=>hB.trans (B.mono hB.size));have hv1:=Hd (h2.below hB);generalize g.es=l at *
 obtain⟨a1,a2,rfl⟩:=h1.shape;obtain⟨b1,b2,rfl⟩:=h2.shape;obtain⟨c1,c2,rfl⟩:=h3.shape;generalize g.vs.length=n1 at *
 generalize g.ds.length=n3 at *
 have hw2:=Hd hw1;clear hw1 hcell0 hB h1 h2 h3;have cellE:=Hd (show ∀(k:Nat) (hk:k<l.length),∃b o,b1=some ⟨b,o,none⟩/\ ∀W,Below w1.heap.size w1 W->EdAt W b (o+k*6) l[k]from fun k hk=>by
  obtain⟨b,o,c,he,e1,e2,e3⟩:=hv1.out.own (fun e=>by rw[e]at hk;simp at hk);injection he with he1 he2 he3
  exact⟨b,o,he1,fun W B=>(e3.below e2 B) k _ (List.getElem?_eq_getElem hk)⟩)
 obtain⟨N,hN⟩:∃N,Hid (N=l.length):=⟨_,rfl⟩;rw[<-hN.out]at hw2 hcell hn;clear hv1;go_enter Try.func12,Try.ntmps12;go_wp2_with fail;rw[<-hN.out,<-hw2.out];obtain⟨q0,q1,q2⟩:=hcell.out w1 (Below.refl _ _);go_wp2_with fail
 go_loopw [5,11] (fun lv i wr=>∃k:Nat,k<=N/\i= .int .i64 k/\OwnEd wr w1.heap.size lv (atF (l.take k) x)/\Below w1.heap.size w1 wr) (fun _ i _=>N-(intOf i).toNat)
 case atStart=>exact⟨0,by omega,rfl,World.ownsRow_nil _ _ _ _,Below.refl _ _⟩
 case round =>
  clear q0 q1 q2;obtain⟨k,hk,rfl,hown,B⟩:=hrel;obtain⟨q0,q1,q2⟩:=hcell.out wr B;have Bs:=B.size;by_cases hlt:k<N
  ·have hkl:k<l.length:=by rw[<-hN.out];exact hlt
   obtain⟨bv,ov,rfl,cv⟩:=cellE.out k hkl;obtain⟨d0,d1,d2,d3,d4,d5⟩:=cv wr B;have hsn:Hid (atF (l.take (k+1)) x=if(l[k].src==x||l[k].dst==x)=true then atF (l.take k) x++[l[k]]else atF (l.take k) x):=atF_snoc l x k hkl;have hlen:=atF_len (l.take k) x;have hlen2:(atF (l.take k) x).length<=1000000000:=by simp at hlen;omega
   have i0:(0:Int)<=(k:Int):=by omega
   have i1:(k:Int)<(N:Int):=by omega
   have Ba:Below w1.heap.size w1 (wr.alloc (.cells (edCells l[k]) 40)):=B.alloc Bs _;obtain⟨v',w',hr,ho,hb⟩:=snocE (wr.alloc (.cells (edCells l[k]) 40)) w1.heap.size _ (atF (l.take k) x) l[k] (show OwnEd _ _ _ _ from(show wr.ownsRow _ _ _ _ _ _ from hown).alloc _) hlen2 (by simp;omega);have hb2:=Hd (hb w1 Ba (Nat.le_refl _) (Nat.le_refl _));have ho2:=Hd ho;have hown2:=Hd hown;clear hb ho hown hlen hlen2 cv;generalize atF (l.take k) x=L at *
   generalize l[k]=u at *
   unfold edCells at hr Ba;simp only[World.size_alloc]at hr;by_cases hs:u.src=x
   ·have t1:(u.src==x)=true:=by simpa using hs
    have hnew:Hid (atF (l.take (k+1)) x=L++[u]):=by show _=_;rw[hsn.out,t1];rfl
    clear hsn hs
    go_wp2_with (at_builtin;refine wpList_append_runB rfl (.tmp 25) (.tmp 27) 25 rfl u5 (.slice (some ⟨wr.heap.size+1,0,none⟩) 1 1) rfl rfl _ _ hr ?_)
    go_roundw
    case rel=>exact⟨k+1,by omega,by go_num,by rw[hnew.out];exact ho2.out,hb2.out⟩
    case measure=>simp[intOf];omega
   ·have t1:(u.src==x)=false:=by simpa using hs
    by_cases hd:u.dst=x
    ·have t2:(u.dst==x)=true:=by simpa using hd
     have hnew:Hid (atF (l.take (k+1)) x=L++[u]):=by show _=_;rw[hsn.out,t2];simp
     clear hsn hs hd
     go_wp2_with (at_builtin;refine wpList_append_runB rfl (.tmp 25) (.tmp 27) 25 rfl u5 (.slice (some ⟨wr.heap.size+1,0,none⟩) 1 1) rfl rfl _ _ hr ?_)
     go_roundw
     case rel=>exact⟨k+1,by omega,by go_num,by rw[hnew.out];exact ho2.out,hb2.out⟩
     case measure=>simp[intOf];omega
    ·have t2:(u.dst==x)=false:=by simpa using hd
     have hnew:Hid (atF (l.take (k+1)) x=L):=by show _=_;rw[hsn.out,t1,t2];rfl
     clear hsn hs hd hr;go_wp2_with fail
     go_roundw
     case rel=>exact⟨k+1,by omega,by go_num,by rw[hnew.out];exact(show wr.ownsRow _ _ _ _ _ _ from hown2.out).alloc _,Ba⟩
     case measure=>simp[intOf];omega
  ·have hk2:k=N:=by omega
   have hfin:Hid (atF (l.take k) x=atF l x):=by show _=_;rw[List.take_of_length_le (by rw[hk2,hN.out];exact Nat.le_refl _)]
   rw[hfin.out]at hown;have hE:=Hd hown.EL;have i1:¬(k:Int)<(N:Int):=by omega
   clear hk2 hown;go_wp2_with fail;go_ret;exact⟨_,rfl,hE.out,hB0.out _ B⟩
theorem AtR_any(v:Value)(g:Gr)(x:Int)(w:World)(hv:GV w v g)(hn:g.es.length<=1000000000):
  Calls Try.prog 41 #[v,.int .i64 x] w fun e w'=>∃r,e= .returned r/\EL w' r (atF g.es x)/\Below w.heap.size w w':=by
 obtain⟨a,b,c,rfl,h1,h2,h3⟩:=hv;obtain⟨w1,hw1⟩:∃w1,w1=w.alloc (.cells #[a,b,c] 28):=⟨_,rfl⟩;obtain⟨hB,hz,hcell0⟩:=one_box w w1 a b c 28 hw1;have hcell:=Hd hcell0;have hB0:=Hd (fun W (B:Below w1.heap.size w1 W)=>hB.trans (B.mono hB.size));have hv1:=Hd (h2.below hB);generalize g.es=l at *
 obtain⟨a1,a2,rfl⟩:=h1.shape;obtain⟨b1,b2,rfl⟩:=h2.shape;obtain⟨c1,c2,rfl⟩:=h3.shape;generalize g.vs.length=n1 at *
 generalize g.ds.length=n3 at *
 have hw2:=Hd hw1;clear hw1 hcell0 hB h1 h2 h3;have cellE:=Hd (show ∀(k:Nat) (hk:k<l.length),∃b o,b1=some ⟨b,o,none⟩/\ ∀W,Below w1.heap.size w1 W->EdAt W b (o+k*6) l[k]from fun k hk=>by
  obtain⟨b,o,c,he,e1,e2,e3⟩:=hv1.out.own (fun e=>by rw[e]at hk;simp at hk);injection he with he1 he2 he3
  exact⟨b,o,he1,fun W B=>(e3.below e2 B) k _ (List.getElem?_eq_getElem hk)⟩)
 obtain⟨N,hN⟩:∃N,Hid (N=l.length):=⟨_,rfl⟩;rw[<-hN.out]at hw2 hcell hn;clear hv1;go_enter Try.func41,Try.ntmps41;go_wp2_with fail;rw[<-hN.out,<-hw2.out];obtain⟨q0,q1,q2⟩:=hcell.out w1 (Below.refl _ _);go_wp2_with fail
 go_loopw [5,6] (fun lv i wr=>∃k:Nat,k<=N/\i= .int .i64 k/\OwnEd wr w1.heap.size lv (atF (l.take k) x)/\Below w1.heap.size w1 wr) (fun _ i _=>N-(intOf i).toNat)
 case atStart=>exact⟨0,by omega,rfl,World.ownsRow_nil _ _ _ _,Below.refl _ _⟩
 case round =>
  clear q0 q1 q2;obtain⟨k,hk,rfl,hown,B⟩:=hrel;obtain⟨q0,q1,q2⟩:=hcell.out wr B;have Bs:=B.size;by_cases hlt:k<N
  ·have hkl:k<l.length:=by rw[<-hN.out];exact hlt
   obtain⟨bv,ov,rfl,cv⟩:=cellE.out k hkl;obtain⟨d0,d1,d2,d3,d4,d5⟩:=cv wr B;have hsn:Hid (atF (l.take (k+1)) x=if(l[k].src==x||l[k].dst==x)=true then atF (l.take k) x++[l[k]]else atF (l.take k) x):=atF_snoc l x k hkl;have hlen:=atF_len (l.take k) x;have hlen2:(atF (l.take k) x).length<=1000000000:=by simp at hlen;omega
   have i0:(0:Int)<=(k:Int):=by omega
   have i1:(k:Int)<(N:Int):=by omega
   have Ba:Below w1.heap.size w1 wr:=B;obtain⟨v',w',hr,ho,hb⟩:=snocE wr w1.heap.size _ (atF (l.take k) x) l[k] hown hlen2 Bs;have hb2:=Hd (hb w1 Ba (Nat.le_refl _) (Nat.le_refl _));have ho2:=Hd ho;have hown2:=Hd hown;clear hb ho hown hlen hlen2 cv;generalize atF (l.take k) x=L at *
   generalize l[k]=u at *
   unfold edCells at hr Ba;by_cases hs:u.src=x
   ·have t1:(u.src==x)=true:=by simpa using hs
    have hnew:Hid (atF (l.take (k+1)) x=L++[u]):=by show _=_;rw[hsn.out,t1];rfl
    clear hsn hs
    go_wp2_with (at_builtin;refine wpList_append_runB rfl (.tmp 32) (.tmp 38) 25 rfl u5 (.slice (some ⟨wr.heap.size,0,none⟩) 1 1) rfl rfl _ _ hr ?_)
    go_roundw
    case rel=>exact⟨k+1,by omega,by go_num,by rw[hnew.out];exact ho2.out,hb2.out⟩
    case measure=>simp[intOf];omega
   ·have t1:(u.src==x)=false:=by simpa using hs
    by_cases hd:u.dst=x
    ·have t2:(u.dst==x)=true:=by simpa using hd
     have hnew:Hid (atF (l.take (k+1)) x=L++[u]):=by show _=_;rw[hsn.out,t2];simp
     clear hsn hs hd
     go_wp2_with (at_builtin;refine wpList_append_runB rfl (.tmp 32) (.tmp 38) 25 rfl u5 (.slice (some ⟨wr.heap.size,0,none⟩) 1 1) rfl rfl _ _ hr ?_)
     go_roundw
     case rel=>exact⟨k+1,by omega,by go_num,by rw[hnew.out];exact ho2.out,hb2.out⟩
     case measure=>simp[intOf];omega
    ·have t2:(u.dst==x)=false:=by simpa using hd
     have hnew:Hid (atF (l.take (k+1)) x=L):=by show _=_;rw[hsn.out,t1,t2];rfl
     clear hsn hs hd hr;go_wp2_with fail
     go_roundw
     case rel=>exact⟨k+1,by omega,by go_num,by rw[hnew.out];exact hown2.out,Ba⟩
     case measure=>simp[intOf];omega
  ·have hk2:k=N:=by omega
   have hfin:Hid (atF (l.take k) x=atF l x):=by show _=_;rw[List.take_of_length_le (by rw[hk2,hN.out];exact Nat.le_refl _)]
   rw[hfin.out]at hown;have hE:=Hd hown.EL;have i1:¬(k:Int)<(N:Int):=by omega
   clear hk2 hown;go_wp2_with fail;go_ret;exact⟨_,rfl,hE.out,hB0.out _ B⟩
end Go.Proofs.Ythmkmjkbfjhffaa
