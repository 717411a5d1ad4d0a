/- Facts. -/
import Derived.Deep.RegionLaw
import Derived.Laws.CopyRow
import Derived.Laws.Externs
import Derived.Lib.AppendZerosOnto
import Derived.Lib.Overlaps
import Derived.Test.YthmkmjkbfjhffaaVNVYW
import Derived.Carry
import Derived.Laws.Tables
import Derived.MapKept
import Derived.Test.YthmkmjkbfjhffaaVNVYH
import Derived.Laws.StructEq
set_option maxRecDepth 100000
set_option maxHeartbeats 4000000
namespace Go.Proofs.Ythmkmjkbfjhffaa
open Go.RowKit
section
variable {P:Program}
theorem wpList_copy_runI(w:World){ops:Array Oper}{rest:List Oper}{o:Oper}{a:Act}{Q:Exit->Act->World->Prop}(hgd:o.guard=none)(d s:Operand)(t t':TypeId)
  (ho:o.op= .call {callee:= .builtin .copy,args:= #[d,s],argTypes:= #[t,t']}) (v u:Value) (hd:a.eval d=v) (hs:a.eval s=u) {v':Value} {w':World}
  (hr:(Builtin.copy_ #[t,t'] o.type #[v,u]).run P w= .ok v' w') (h:wpList P ops Q rest (a.put o.dst v') w'):wpList P ops Q (o::rest) a w:=by
 refine wpList_plain hgd fun K hK=>?_;unfold Oper.wp execOp;simp only[ho,resolve,invoke,builtin,Sem.run_bind,Sem.run_pure,Result.andThen_ok,List.map_toArray,List.map_cons,List.map_nil,hd,hs,hr];exact hK _ _ h
theorem step_copy_runI{ops:Array Oper}{o:Oper}{a:Act}{w:World}{K:Act->World->Prop}{Q:Exit->Act->World->Prop}{E:Prop}
  (hg:o.guard=none) (d x:Operand) (dT sT:TypeId) (hop:o.op=Op.call {callee:= .builtin .copy,args:= #[d,x],argTypes:= #[dT,sT]})
  (v u:Value) (hd:a.eval d=v) (hx:a.eval x=u) {v':Value} {w':World} (hr:(Builtin.copy_ #[dT,sT] o.type #[v,u]).run P w= .ok v' w') (hK:K (a.put o.dst v') w') :
  if Region.wanted o (yielded ops a.tmps)=true then Oper.wp P o a w K Q else E:=by
 have hw:Region.wanted o (yielded ops a.tmps)=true:=by simp[Region.wanted,hg]
 rw[if_pos hw];unfold Oper.wp;simp[execOp,hop,resolve,invoke,builtin,hd,hx,hr,Result.andThen];exact hK
theorem step_append_runI{ops:Array Oper}{o:Oper}{a:Act}{w:World}{K:Act->World->Prop}{Q:Exit->Act->World->Prop}{E:Prop}
  (hg:o.guard=none) (d x:Operand) (dT sT:TypeId) (hop:o.op=Op.call {callee:= .builtin .append,args:= #[d,x],argTypes:= #[dT,sT]})
  (v u:Value) (hd:a.eval d=v) (hx:a.eval x=u) {v':Value} {w':World} (hr:(Builtin.append_ #[dT,sT] o.type #[v,u]).run P w= .ok v' w') (hK:K (a.put o.dst v') w') :
  if Region.wanted o (yielded ops a.tmps)=true then Oper.wp P o a w K Q else E:=by
 have hw:Region.wanted o (yielded ops a.tmps)=true:=by simp[Region.wanted,hg]
 rw[if_pos hw];unfold Oper.wp;simp[execOp,hop,resolve,invoke,builtin,hd,hx,hr,Result.andThen];exact hK
end
def vxCells(v:Vx):Array Value:= #[.int .i64 v.id,.int .i64 v.side]
theorem info29:(Try.prog.info? 31).map (fun i=>(i.zero,i.size,i.bytes))=some (some (.agg #[.int .i64 0,.int .i64 0]),2,16):=by kernel_rfl
def cVx(l:List Vx):List Value:=l.flatMap fun e=>(vxCells e).toList
theorem cVx_at(l:List Vx):∀(j:Nat) (e:Vx) (i:Nat),l[j]?=some e->i<2->(cVx l)[j*2+i]?=(vxCells e).toList[i]?:=by
 induction l with
 | nil=>intro j e i h;simp at h
 | cons x t ih =>
  intro j e i h hi;have hx:(vxCells x).toList.length=2:=rfl;cases j with
  | zero =>
   simp at h;subst h;show((vxCells x).toList++cVx t)[0*2+i]?=_;rw[List.getElem?_append_left (by omega)]
   simp
  | succ j =>
   show((vxCells x).toList++cVx t)[(j+1)*2+i]?=_;rw[List.getElem?_append_right (by omega),hx,show(j+1)*2+i-2=j*2+i by omega];exact ih j e i (by simpa using h) hi
def OwnV(W:World)(base:Nat)(v:Value)(l:List Vx):Prop:=W.ownsRow base 31 2 v l.length (cVx l)
theorem OwnV.VL{W:World}{base:Nat}{v:Value}{l:List Vx}(h:OwnV W base v l):VL W v l:=by
 unfold OwnV at h;rcases h.2 with⟨rfl,h0⟩|⟨g,cap,cur,rfl,hb,hg,hc,hm,hs,ht⟩
 ·exact .inl ⟨List.length_eq_zero_iff.1 h0,_,_,rfl⟩
 ·by_cases hl:l=[]
  ·subst hl;exact .inl ⟨rfl,_,_,rfl⟩
  ·refine .inr ⟨hl,g,0,cap,rfl,hc,(Array.getElem?_eq_some_iff.1 hg).1,fun j e he=>?_⟩;have hj:j<l.length:=(List.getElem?_eq_some_iff.1 he).1;have key:∀i,i<2->W.cell? ⟨g,0+j*2+i,none⟩=(vxCells e).toList[i]?:=fun i hi=>by
    rw[cell_of_row _ _ _ _ _ _ hg,<-cVx_at l j e i he hi,<-ht,List.getElem?_take_of_lt (by omega)]
    simp
   exact⟨key 0 (by omega),key 1 (by omega)⟩
theorem info3:(Try.prog.info? 3).map (fun i=>(i.zero,i.size,i.bytes))=some (some (.int .i64 0),1,8):=by kernel_rfl
def cI(l:List Int):List Value:=l.map (Value.int .i64)
def OwnI(W:World)(base:Nat)(v:Value)(l:List Int):Prop:=W.ownsRow base 3 1 v l.length (cI l)
theorem OwnI.DL{W:World}{base:Nat}{v:Value}{l:List Int}(h:OwnI W base v l):DL W v l:=by
 unfold OwnI at h;rcases h.2 with⟨rfl,h0⟩|⟨g,cap,cur,rfl,hb,hg,hc,hm,hs,ht⟩
 ·exact .inl ⟨List.length_eq_zero_iff.1 h0,_,_,rfl⟩
 ·by_cases hl:l=[]
  ·subst hl;exact .inl ⟨rfl,_,_,rfl⟩
  ·refine .inr ⟨hl,g,0,cap,rfl,hc,(Array.getElem?_eq_some_iff.1 hg).1,fun j x hx=>?_⟩;have hj:j<l.length:=(List.getElem?_eq_some_iff.1 hx).1;rw[cell_of_row _ _ _ _ _ _ hg];have h2:(cI l)[0+j]?=some (.int .i64 x):=by simp[cI,hx]
   rw[<-h2,<-ht,List.getElem?_take_of_lt (by omega)]
   simp
theorem OwnI.base{W:World}{base:Nat}{v:Value}{l:List Int}(h:OwnI W base v l)(k:Nat)(hk:v.ownBlock=some k):base<=k/\k<W.heap.size:=by
 unfold OwnI at h;rcases h.2 with⟨rfl,_⟩|⟨g,cap,cur,rfl,hg,hh,_⟩
 ·simp[Value.ownBlock]at hk
 ·simp[Value.ownBlock]at hk;subst hk;exact⟨hg,(Array.getElem?_eq_some_iff.1 hh).1⟩
theorem lieD_cells{W:World}{b o:Nat}{l:List Int}(h:LieD W b o l)(j:Nat)(u:Value)(hj:(cI l)[j]?=some u):W.cell? ((⟨b,o,none⟩:Addr).add j)=some u:=by
 unfold cI at hj;rw[List.getElem?_map]at hj;cases hl:l[j]? with
 | none=>rw[hl]at hj;cases hj
 | some x=>rw[hl]at hj;cases hj;rw[Addr.add_lit];exact h j x hl
theorem cI_len(l:List Int):(cI l).length=l.length*1:=by simp[cI]
end Go.Proofs.Ythmkmjkbfjhffaa
/- Facts. -/
set_option maxRecDepth 100000
set_option maxHeartbeats 4000000
namespace Go.Proofs.Ythmkmjkbfjhffaa
open Go.RowKit
theorem own_kept{W W':World}{base n:Nat}{e:TypeId}{size:Nat}{v:Value}{xs:List Value}{r:Option Nat}(h:W.ownsRow base e size v n xs)(hg:W.grownBy W' r)(hne:∀g,r=some g->∃o,W.heap[g]?=some o/\ ∀cs,o≠ .cells cs e (0,0)):W'.ownsRow base e size v n xs:=by
 refine⟨h.1,?_⟩;rcases h.2 with h2|⟨g,cap,cur,h1,h2,h3,h4⟩
 ·exact .inl h2
 ·refine .inr ⟨g,cap,cur,h1,h2,(hg.block _ (Array.getElem?_eq_some_iff.1 h3).1 (fun e2=>?_)).trans h3,h4⟩;obtain⟨o,ho,hno⟩:=hne g e2.symm;rw[h3]at ho;injection ho with ho
  exact hno cur ho.symm
theorem own_below{W W':World}{base n:Nat}{e:TypeId}{size:Nat}{v:Value}{xs:List Value}(h:W.ownsRow base e size v n xs)(hb:Below W.heap.size W W'):W'.ownsRow base e size v n xs:=by
 refine⟨h.1,?_⟩;rcases h.2 with h2|⟨g,cap,cur,h1,h2,h3,h4⟩
 ·exact .inl h2
 ·exact .inr ⟨g,cap,cur,h1,h2,(hb.block _ (Array.getElem?_eq_some_iff.1 h3).1).trans h3,h4⟩
theorem own_row{W:World}{base n:Nat}{e:TypeId}{size:Nat}{v:Value}{xs:List Value}(h:W.ownsRow base e size v n xs)(g:Nat)(hg:v.ownBlock=some g):base<=g/\ ∃cur,W.heap[g]?=some (.cells cur e (0,0)):=by
 rcases h.2 with⟨rfl,_⟩|⟨g',cap,cur,rfl,h2,h3,h4⟩
 ·simp[Value.ownBlock]at hg
 ·simp[Value.ownBlock]at hg;subst hg;exact⟨h2,cur,h3⟩
/-! changes in memory -/
def chCells(c:Ch)(a b:Value):Array Value:= #[.int .i64 c.kind,.int .i64 c.v.id,.int .i64 c.v.side,.int .i64 c.e.id,.int .i64 c.e.src,.int .i64 c.e.dst,.bool c.e.dir,.int .i64 c.e.wt,.int .i64 c.e.cap,.int .i64 c.id,.int .i64 c.n,a,b]
def CV(W:World)(v:Value)(c:Ch):Prop:=∃a b,v= .agg (chCells c a b)/\DL W a c.ends/\DL W b c.deps
theorem CV.below{W W':World}{v:Value}{c:Ch}(h:CV W v c)(B:Below W.heap.size W W'):CV W' v c:=by
 obtain⟨a,b,h1,h2,h3⟩:=h;exact⟨a,b,h1,h2.below B,h3.below B⟩
theorem snocI(W:World)(base:Nat)(v:Value)(l:List Int)(x:Int)(h:OwnI W base v l)(hl:l.length<=1000000000)(hb:base<=W.heap.size):
  ∃v' w',(Builtin.append_ #[26,26] 26 #[v,.slice (some ⟨W.heap.size,0,none⟩) 1 1]).run Try.prog (W.alloc (.cells #[.int .i64 x] 3))= .ok v' w'/\OwnI w' base v' (l++[x])/\(∀w0:World,Below base w0 W->base<=w0.heap.size->w0.heap.size<=base->Below base w0 w') /\
   W.heap.size<=w'.heap.size/\ ∀b o u,b<W.heap.size->v.ownBlock≠some b->W.cell? ⟨b,o,none⟩=some u->w'.cell? ⟨b,o,none⟩=some u:=by
 obtain⟨i0,hi,hz0,hz1,hz2⟩:=info_parts info3;obtain⟨g,cap,w',hr,ho,hg,_,_⟩:=run_append_lies (P:=Try.prog) (W.alloc (.cells #[.int .i64 x] 3)) 26 26 base 3 i0 _ 1 8 Try.underlying26 hi hz0 hz1 hz2 rfl (by omega) v l.length (cI l) ((show W.ownsRow base 3 1 v l.length (cI l)from h).alloc _) ⟨W.heap.size,0,none⟩ 1 1 [.int .i64 x] rfl
  (World.news_of_block (cs:= #[.int .i64 x]) (t:=3) (fr:=(0,0)) (heap_alloc_new W _)) (by simp[Value.oneCell']) (by omega) (by unfold maxLen;omega) (by omega) (by simp;omega) (W.heap.size+1) (by simp)
 refine⟨_,w',hr,?_,fun w0 B h1 h2=>?_,?_,fun b o u hb2 hne hc=>?_⟩
 ·unfold OwnI;rw[List.length_append,cI,List.map_append];exact ho
 ·exact(B.alloc (by omega) _).grown hg (by simp;omega) (fun k hk=>by have:=(h.base k hk).1;omega)
 ·have:=hg.size;simp at this;omega
 ·rw[hg.cell_far _ (by simp;omega) (fun e=>hne e.symm)];rw[World.cell?_alloc_old _ _ _ (by dsimp only;omega)];exact hc
theorem DL.cut{W:World}{b o n c:Nat}{A:List Int}(h:DL W (.slice (some ⟨b,o,none⟩) n c) A)(k:Nat)(hk:k<=A.length):
  DL W (.slice (if c=k then some ⟨b,o,none⟩else some ⟨b,o+k,none⟩) (n-k) (c-k)) (A.drop k):=by
 by_cases hA:A.drop k=[]
 ·rw[hA];have hl:A.length<=k:=by simpa using hA
  have hn:n=A.length:=by obtain⟨a',c',e⟩:=h.shape;injection e
  exact .inl ⟨rfl,_,_,by rw[show n-k=0 by omega]⟩
 ·have hl:k<A.length:=by
   rcases Nat.lt_or_ge k A.length with h1|h1
   ·exact h1
   ·exact absurd (List.drop_of_length_le h1) hA
  obtain⟨b',o',c',e,e1,e2,e3⟩:=h.own (fun e=>by rw[e]at hl;simp at hl);injection e with ea en ec
  injection ea with ea
  injection ea with eb eo
  subst eb eo en ec;refine .inr ⟨hA,b,o+k,c-k,?_,by rw[List.length_drop];omega,e2,fun j x hx=>?_⟩
  ·rw[if_neg (by omega),List.length_drop]
  ·rw[Nat.add_assoc];exact e3 (k+j) x (by rw[List.getElem?_drop]at hx;exact hx)
set_option maxHeartbeats 1000000 in
theorem Index_any(v:Value)(l:List Int)(x:Int)(w:World)(hv:DL w v l)(hn:l.length<=1000000000000):
  Calls Try.prog 52 #[v,.int .i64 x] w fun e w'=>e= .returned (.int .i64 (plI l x))/\w=w':=by
 have cellL:=Hd (show ∀(k:Nat) (hk:k<l.length),∃b o,(∃c,v= .slice (some ⟨b,o,none⟩) l.length c)/\w.cell? ⟨b,o+k,none⟩=some (.int .i64 l[k])from fun k hk=>by
  obtain⟨b,o,c,he,e1,e2,e3⟩:=hv.own (fun e=>by rw[e]at hk;simp at hk);exact⟨b,o,⟨c,he⟩,e3 k _ (List.getElem?_eq_getElem hk)⟩)
 obtain⟨a,c,rfl⟩:=hv.shape;obtain⟨N,hN⟩:∃N,Hid (N=l.length):=⟨_,rfl⟩;rw[<-hN.out]at hn ⊢;clear hv;go_enter Try.func52,Try.ntmps52;go_wp2_with fail
 go_loop [8] (fun i=>∃k:Nat,k<=N/\i= .int .i64 k/\Hid (∀j (h:j<l.length),j<k->l[j]≠x)) (fun i=>N-(intOf i).toNat)
 case atStart=>exact⟨0,by omega,rfl,fun j h hj=>by omega⟩
 case round =>
  obtain⟨k,hk,rfl,hno⟩:=hrel;by_cases hlt:k<N
  ·have hkl:k<l.length:=by rw[<-hN.out];exact hlt
   obtain⟨b,o,⟨c',he⟩,c0⟩:=cellL.out k hkl;injection he with he
   subst he;have i0:(0:Int)<=(k:Int):=by omega
   have i1:(k:Int)<(N:Int):=by omega
   have hat:=Hd (plI_at l x k hkl hno.out);have hup:=Hd (fun(hne:l[k]≠x) j (h:j<l.length) (hj:j<k+1)=>show l[j]≠x from by
    rcases Nat.lt_or_ge j k with h1|h1
    ·exact hno.out j h h1
    ·have:j=k:=by omega
     subst this;exact hne)
   generalize l[k]=u at *
   by_cases hx:u=x
   ·have t1:(x==u)=true:=by simpa using hx.symm
    have hr:=Hd (hat.out hx);clear hat hup hx;go_wp2_with fail;go_ret;exact⟨ret_int hr.out.symm,rfl⟩
   ·have t1:(x==u)=false:=by simpa using fun e=>hx e.symm
    have hr:=Hd (hup.out hx);clear hat hup hx;go_wp2_with fail
    go_round
    case rel=>exact⟨k+1,by omega,by go_num,hr.out⟩
    case measure=>simp[intOf];omega
  ·have hk2:k=N:=by omega
   have hf:Hid (plI l x= -1):=plI_none l x (fun j h=>hno.out j h (by rw[hk2,hN.out];exact h));have i1:¬(k:Int)<(N:Int):=by omega
   clear hk2;go_wp2_with fail;go_ret;exact⟨ret_int hf.out.symm,rfl⟩
theorem Contains_any(v:Value)(l:List Int)(x:Int)(w:World)(hv:DL w v l)(hn:l.length<=1000000000000):
  Calls Try.prog 36 #[v,.int .i64 x] w fun e w'=>e= .returned (.bool (decide (x∈l)))/\w=w':=by
 have h:=Hd (Index_any v l x w hv hn);have hneg:=plI_neg l x;obtain⟨a,c,rfl⟩:=hv.shape;have hr:Hid (decide (x∈l)=decide (0<=plI l x)):=by
  show _=_;rw[Bool.eq_iff_iff];simp only[decide_eq_true_eq];constructor
  ·intro h1;exact Int.not_lt.1 (fun h2=>hneg.1 h2 h1)
  ·intro h1;exact Decidable.by_contra (fun h2=>by have:=hneg.2 h2;omega)
 generalize plI l x=i at *
 generalize l.length=n at *
 clear hneg hv;go_enter Try.func36,Try.ntmps36;go_wp2_with fail;refine h.out.mono ?_;rintro e w2 ⟨rfl,rfl⟩;go_wp2_with fail;go_ret;exact⟨ret_bool hr.out.symm,rfl⟩
end Go.Proofs.Ythmkmjkbfjhffaa
/- Facts. -/
set_option maxRecDepth 100000
set_option maxHeartbeats 4000000
namespace Go.Proofs.Ythmkmjkbfjhffaa
open Go.RowKit
theorem snocX(B:Nat)(T e:TypeId)(i0:TypeInfo)(z:Value)(k by_:Nat)(hT:Try.prog.underlying T=some (.slice e))(hi:Try.prog.info? e=some i0)(hz:i0.zero=some z)(hk:i0.size=k)(hby:i0.bytes=by_)(hzs:z.cells.size=k)(h0:0<k)(hb48:by_<=200)
  (W:World) (v:Value) (n:Nat) (xs:List Value) (cs:Array Value) (hcs:cs.size=k) (hall:∀u∈cs.toList,u.oneCell'=true) (hown:W.ownsRow B e k v n xs) (hn:n<=1000000) (hB:B<=W.heap.size) :
  ∃g cap w',(Builtin.append_ #[T,T] T #[v,.slice (some ⟨W.heap.size,0,none⟩) 1 1]).run Try.prog (W.alloc (.cells cs e))= .ok (.slice (some ⟨g,0,none⟩) (n+1) cap) w'/\w'.ownsRow B e k (.slice (some ⟨g,0,none⟩) (n+1) cap) (n+1) (xs++cs.toList)/\(W.alloc (.cells cs e)).grownBy w' v.ownBlock:=by
 have hmul:(n+1)*by_<=1000001*200:=Nat.mul_le_mul (by omega) hb48;obtain⟨g,cap,w',hr,ho,hg,_,_⟩:=run_append_lies (P:=Try.prog) (W.alloc (.cells cs e)) T T B e i0 z k by_ hT hi hz hk hby hzs h0 v n xs (hown.alloc _) ⟨W.heap.size,0,none⟩ 1 1 cs.toList (by simp[hcs])
  (World.news_of_block (cs:=cs) (t:=e) (fr:=(0,0)) (heap_alloc_new W _)) hall (by omega) (by unfold maxLen;omega) (by omega) (by simp;omega) (W.heap.size+1) (by simp)
 exact⟨g,cap,w',hr,ho,hg⟩
theorem grown_keep{W W':World}{o:Obj}{v:Value}{B e k n:Nat}{xs:List Value}(hg:(W.alloc o).grownBy W' v.ownBlock)(ho:W.ownsRow B e k v n xs)(j:Nat)(hj:j<W.heap.size)(hne:B<=j->∃p,W.heap[j]?=some p/\ ∀cs,p≠ .cells cs e (0,0)):W'.heap[j]?=W.heap[j]?:=by
 rw[hg.block j (by simp;omega) (fun q=>?_)]
 ·exact Below.heap_alloc _ _ _ hj
 ·obtain⟨q1,cur,q2⟩:=own_row ho j q.symm;obtain⟨p,hp,hno⟩:=hne q1;rw[q2]at hp;injection hp with hp
  exact hno cur hp.symm
theorem grown_size{W W':World}{o:Obj}{r:Option Nat}(hg:(W.alloc o).grownBy W' r):W.heap.size<=W'.heap.size:=by
 have:=((Below.refl 0 _).grown hg (Nat.zero_le _) (fun j hj=>Nat.zero_le _)).size;simp at this;omega
theorem own_grown{W W':World}{o:Obj}{v v2:Value}{B e e2 k k2 n n2:Nat}{xs ys:List Value}(hg:(W.alloc o).grownBy W' v.ownBlock)(ho:W.ownsRow B e k v n xs)(h2:W.ownsRow B e2 k2 v2 n2 ys)(hne:e≠e2):W'.ownsRow B e2 k2 v2 n2 ys:=by
 refine⟨h2.1,?_⟩;rcases h2.2 with h|⟨g,cap,cur,h1,h3,h4,h5⟩
 ·exact .inl h
 ·refine .inr ⟨g,cap,cur,h1,h3,?_,h5⟩;rw[grown_keep hg ho g (Array.getElem?_eq_some_iff.1 h4).1 (fun _=>⟨_,h4,fun cs e3=>by simp at e3;exact hne e3.2.symm⟩)];exact h4
structure MkS(w0:World)(b:Nat)(x y z:Value)(g:Gr)(W:World):Prop where
 res:W.heap[b]?=some (.cells #[.slice none 0 0,.slice none 0 0,.slice none 0 0] 28 (0,0))
 box:W.heap[b+1]?=some (.cells #[x,y,z] 28 (0,0))
 v:OwnV W (b+2) x g.vs
 e:OwnEd W (b+2) y g.es
 d:OwnI W (b+2) z g.ds
 below:Below b w0 W
 sz:b+2<=W.heap.size
theorem MkS.drew{w0 W:World}{b:Nat}{x y z:Value}{g:Gr}(h:MkS w0 b x y z g W):MkS w0 b x y z g W.drew :=
 ⟨h.res,h.box,h.v,h.e,h.d,h.below.drew,h.sz⟩
theorem MkS.same{w0 W W':World}{b:Nat}{x y z:Value}{g:Gr}(h:MkS w0 b x y z g W)(hb:Below W.heap.size W W'):MkS w0 b x y z g W' :=
 ⟨(hb.block _ (by have:=h.sz;omega)).trans h.res,(hb.block _ (by have:=h.sz;omega)).trans h.box,own_below h.v hb,own_below h.e hb,own_below h.d hb,h.below.trans (hb.mono (by have:=h.sz;omega)),Nat.le_trans h.sz hb.size⟩
theorem MkS.grown{w0 W W':World}{b:Nat}{x y z v:Value}{g:Gr}{o:Obj}{e k n:Nat}{xs:List Value}(h:MkS w0 b x y z g W)(hg:(W.alloc o).grownBy W' v.ownBlock)(ho:W.ownsRow (b+2) e k v n xs):
  W'.heap[b]?=some (.cells #[.slice none 0 0,.slice none 0 0,.slice none 0 0] 28 (0,0))/\W'.heap[b+1]?=some (.cells #[x,y,z] 28 (0,0))/\Below b w0 W'/\b+2<=W'.heap.size:=by
 have hs:=h.sz;refine⟨(grown_keep hg ho b (by omega) (fun q=>absurd q (by omega))).trans h.res,(grown_keep hg ho (b+1) (by omega) (fun q=>absurd q (by omega))).trans h.box,?_,Nat.le_trans hs (grown_size hg)⟩;exact(h.below.alloc (by omega) _).grown hg (by simp;omega) (fun j hj=>by have:=(own_row ho j hj).1;omega)
theorem own_setBox{W:World}{b i:Nat}{x y z u v:Value}{B e k n:Nat}{xs:List Value}(h:W.ownsRow B e k v n xs)(_:W.heap[b]?=some (.cells #[x,y,z] 28 (0,0)))(hlt:b<B):(W.setCell ⟨b,i,none⟩ u).ownsRow B e k v n xs :=
 ownsRow_setCell_other h (fun e2=>by have:=(own_row h b e2).1;omega) u
theorem MkS.addV{w0 W:World}{b:Nat}{x y z:Value}{g:Gr}(h:MkS w0 b x y z g W)(u:Vx)(hl:g.vs.length<=1000):
  ∃x1 x2 x3 w',(Builtin.append_ #[24,24] 24 #[x,.slice (some ⟨W.heap.size,0,none⟩) 1 1]).run Try.prog (W.alloc (.cells #[.int .i64 u.id,.int .i64 u.side] 31))= .ok (.slice x1 x2 x3) w'/\w'.heap[b+1]?=some (.cells #[x,y,z] 28 (0,0))/\MkS w0 b (.slice x1 x2 x3) y z {g with vs:=g.vs++[u]} (w'.setCell ⟨b+1,0,none⟩ (.slice x1 x2 x3))/\ ∀j,j<W.heap.size->x.ownBlock≠some j->w'.heap[j]?=W.heap[j]?:=by
 obtain⟨i0,hi,hz0,hz1,hz2⟩:=info_parts info29;obtain⟨gg,cap,w',hr,ho,hg⟩:=snocX (b+2) 24 31 i0 _ 2 16 Try.underlying24 hi hz0 hz1 hz2 rfl (by omega) (by omega) W x g.vs.length (cVx g.vs) #[.int .i64 u.id,.int .i64 u.side] rfl (by simp[Value.oneCell']) h.v (by omega) h.sz;obtain⟨k1,k2,k3,k4⟩:=h.grown hg h.v;refine⟨_,_,_,w',hr,k2,?_,fun j h1 h2=>(hg.block j (by simp;omega) (fun q=>h2 q.symm)).trans (Below.heap_alloc _ _ _ h1)⟩;have hown:OwnV w' (b+2) (.slice (some ⟨gg,0,none⟩) (g.vs.length+1) cap) (g.vs++[u]):=by
  unfold OwnV;rw[List.length_append,cVx,List.flatMap_append];simpa[cVx,vxCells]using ho
 refine⟨?_,heap_setCell_same w' (b+1) 0 _ 28 _ k2,own_setBox hown k2 (by omega),own_setBox (own_grown hg h.v h.e (by decide)) k2 (by omega),own_setBox (own_grown hg h.v h.d (by decide)) k2 (by omega),k3.setCell (by simp) _,by simp;omega⟩;rw[heap_setCell_other w' ⟨b+1,0,none⟩ b _ (by simp)];exact k1
theorem MkS.addE{w0 W:World}{b:Nat}{x y z:Value}{g:Gr}(h:MkS w0 b x y z g W)(u:Ed)(hl:g.es.length<=1000):
  ∃x1 x2 x3 w',(Builtin.append_ #[25,25] 25 #[y,.slice (some ⟨W.heap.size,0,none⟩) 1 1]).run Try.prog (W.alloc (.cells (edCells u) 40))= .ok (.slice x1 x2 x3) w'/\w'.heap[b+1]?=some (.cells #[x,y,z] 28 (0,0))/\MkS w0 b x (.slice x1 x2 x3) z {g with es:=g.es++[u]} (w'.setCell ⟨b+1,1,none⟩ (.slice x1 x2 x3))/\ ∀j,j<W.heap.size->y.ownBlock≠some j->w'.heap[j]?=W.heap[j]?:=by
 obtain⟨i0,hi,hz0,hz1,hz2⟩:=info_parts info31;obtain⟨gg,cap,w',hr,ho,hg⟩:=snocX (b+2) 25 40 i0 _ 6 48 Try.underlying25 hi hz0 hz1 hz2 rfl (by omega) (by omega) W y g.es.length (cEd g.es) (edCells u) rfl (by simp[edCells,Value.oneCell']) h.e (by omega) h.sz;obtain⟨k1,k2,k3,k4⟩:=h.grown hg h.e;refine⟨_,_,_,w',hr,k2,?_,fun j h1 h2=>(hg.block j (by simp;omega) (fun q=>h2 q.symm)).trans (Below.heap_alloc _ _ _ h1)⟩;have hown:OwnEd w' (b+2) (.slice (some ⟨gg,0,none⟩) (g.es.length+1) cap) (g.es++[u]):=by
  unfold OwnEd;rw[List.length_append,cEd,List.flatMap_append];simpa[cEd]using ho
 refine⟨?_,heap_setCell_same w' (b+1) 1 _ 28 _ k2,own_setBox (own_grown hg h.e h.v (by decide)) k2 (by omega),own_setBox hown k2 (by omega),own_setBox (own_grown hg h.e h.d (by decide)) k2 (by omega),k3.setCell (by simp) _,by simp;omega⟩;rw[heap_setCell_other w' ⟨b+1,1,none⟩ b _ (by simp)];exact k1
theorem MkS.addD{w0 W:World}{b:Nat}{x y z:Value}{g:Gr}(h:MkS w0 b x y z g W)(u:Int)(hl:g.ds.length<=1000):
  ∃x1 x2 x3 w',(Builtin.append_ #[26,26] 26 #[z,.slice (some ⟨W.heap.size,0,none⟩) 1 1]).run Try.prog (W.alloc (.cells #[.int .i64 u] 3))= .ok (.slice x1 x2 x3) w'/\w'.heap[b+1]?=some (.cells #[x,y,z] 28 (0,0))/\MkS w0 b x y (.slice x1 x2 x3) {g with ds:=g.ds++[u]} (w'.setCell ⟨b+1,2,none⟩ (.slice x1 x2 x3))/\ ∀j,j<W.heap.size->z.ownBlock≠some j->w'.heap[j]?=W.heap[j]?:=by
 obtain⟨i0,hi,hz0,hz1,hz2⟩:=info_parts info3;obtain⟨gg,cap,w',hr,ho,hg⟩:=snocX (b+2) 26 3 i0 _ 1 8 Try.underlying26 hi hz0 hz1 hz2 rfl (by omega) (by omega) W z g.ds.length (cI g.ds) #[.int .i64 u] rfl (by simp[Value.oneCell']) h.d (by omega) h.sz;obtain⟨k1,k2,k3,k4⟩:=h.grown hg h.d;refine⟨_,_,_,w',hr,k2,?_,fun j h1 h2=>(hg.block j (by simp;omega) (fun q=>h2 q.symm)).trans (Below.heap_alloc _ _ _ h1)⟩;have hown:OwnI w' (b+2) (.slice (some ⟨gg,0,none⟩) (g.ds.length+1) cap) (g.ds++[u]):=by
  unfold OwnI;rw[List.length_append,cI,List.map_append];simpa[cI]using ho
 refine⟨?_,heap_setCell_same w' (b+1) 2 _ 28 _ k2,own_setBox (own_grown hg h.d h.v (by decide)) k2 (by omega),own_setBox (own_grown hg h.d h.e (by decide)) k2 (by omega),own_setBox hown k2 (by omega),k3.setCell (by simp) _,by simp;omega⟩;rw[heap_setCell_other w' ⟨b+1,2,none⟩ b _ (by simp)];exact k1
theorem al_keep1{W:World}{k:Nat}{o p:Obj}(h:W.heap[k]?=some o):(W.alloc p).heap[k]?=some o:=by
 rw[Below.heap_alloc _ _ _ (Array.getElem?_eq_some_iff.1 h).1];exact h
end Go.Proofs.Ythmkmjkbfjhffaa
