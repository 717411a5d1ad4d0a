/- Facts. -/
import Derived.Carry
import Derived.Laws.Tables
import Derived.MapKept
import Derived.Test.YtlnbobclbaieoaaUNVYH
import Derived.Test.YtlnbobclbaieoaaUNVYR
set_option maxRecDepth 100000
set_option maxHeartbeats 4000000
namespace Go.Proofs.Ytlnbobclbaieoaa
open Go.RowKit
theorem own_kept{W W':World}{base n:Nat}{e:TypeId}{size:Nat}{v:Value}{xs:List Value}{r:Option Nat}(h:W.ownsRow base e size v n xs)(hg:W.grownBy W' r)(hne:∀g,r=some g->∃o,W.heap[g]?=some o/\ ∀cs,o≠ .cells cs e (0,0)):W'.ownsRow base e size v n xs:=by
 refine⟨h.1,?_⟩;rcases h.2 with h2|⟨g,cap,cur,h1,h2,h3,h4⟩
 ·exact .inl h2
 ·refine .inr ⟨g,cap,cur,h1,h2,(hg.block _ (Array.getElem?_eq_some_iff.1 h3).1 (fun e2=>?_)).trans h3,h4⟩;obtain⟨o,ho,hno⟩:=hne g e2.symm;rw[h3]at ho;injection ho with ho
  exact hno cur ho.symm
theorem own_below{W W':World}{base n:Nat}{e:TypeId}{size:Nat}{v:Value}{xs:List Value}(h:W.ownsRow base e size v n xs)(hb:Below W.heap.size W W'):W'.ownsRow base e size v n xs:=by
 refine⟨h.1,?_⟩;rcases h.2 with h2|⟨g,cap,cur,h1,h2,h3,h4⟩
 ·exact .inl h2
 ·exact .inr ⟨g,cap,cur,h1,h2,(hb.block _ (Array.getElem?_eq_some_iff.1 h3).1).trans h3,h4⟩
theorem own_row{W:World}{base n:Nat}{e:TypeId}{size:Nat}{v:Value}{xs:List Value}(h:W.ownsRow base e size v n xs)(g:Nat)(hg:v.ownBlock=some g):base<=g/\ ∃cur,W.heap[g]?=some (.cells cur e (0,0)):=by
 rcases h.2 with⟨rfl,_⟩|⟨g',cap,cur,rfl,h2,h3,h4⟩
 ·simp[Value.ownBlock]at hg
 ·simp[Value.ownBlock]at hg;subst hg;exact⟨h2,cur,h3⟩
/-! changes in memory -/
def chCells(c:Ch)(a b:Value):Array Value:= #[.int .i64 c.kind,.int .i64 c.v.id,.int .i64 c.v.side,.int .i64 c.e.id,.int .i64 c.e.src,.int .i64 c.e.dst,.bool c.e.dir,.int .i64 c.e.wt,.int .i64 c.e.cap,.int .i64 c.id,.int .i64 c.n,a,b]
def CV(W:World)(v:Value)(c:Ch):Prop:=∃a b,v= .agg (chCells c a b)/\DL W a c.ends/\DL W b c.deps
theorem CV.below{W W':World}{v:Value}{c:Ch}(h:CV W v c)(B:Below W.heap.size W W'):CV W' v c:=by
 obtain⟨a,b,h1,h2,h3⟩:=h;exact⟨a,b,h1,h2.below B,h3.below B⟩
theorem snocI(W:World)(base:Nat)(v:Value)(l:List Int)(x:Int)(h:OwnI W base v l)(hl:l.length<=1000000000)(hb:base<=W.heap.size):
  ∃v' w',(Builtin.append_ #[26,26] 26 #[v,.slice (some ⟨W.heap.size,0,none⟩) 1 1]).run Try.prog (W.alloc (.cells #[.int .i64 x] 3))= .ok v' w'/\OwnI w' base v' (l++[x])/\(∀w0:World,Below base w0 W->base<=w0.heap.size->w0.heap.size<=base->Below base w0 w') /\
   W.heap.size<=w'.heap.size/\ ∀b o u,b<W.heap.size->v.ownBlock≠some b->W.cell? ⟨b,o,none⟩=some u->w'.cell? ⟨b,o,none⟩=some u:=by
 obtain⟨i0,hi,hz0,hz1,hz2⟩:=info_parts info3;obtain⟨g,cap,w',hr,ho,hg,_,_⟩:=run_append_lies (P:=Try.prog) (W.alloc (.cells #[.int .i64 x] 3)) 26 26 base 3 i0 _ 1 8 Try.underlying26 hi hz0 hz1 hz2 rfl (by omega) v l.length (cI l) ((show W.ownsRow base 3 1 v l.length (cI l)from h).alloc _) ⟨W.heap.size,0,none⟩ 1 1 [.int .i64 x] rfl
  (World.news_of_block (cs:= #[.int .i64 x]) (t:=3) (fr:=(0,0)) (heap_alloc_new W _)) (by simp[Value.oneCell']) (by omega) (by unfold maxLen;omega) (by omega) (by simp;omega) (W.heap.size+1) (by simp)
 refine⟨_,w',hr,?_,fun w0 B h1 h2=>?_,?_,fun b o u hb2 hne hc=>?_⟩
 ·unfold OwnI;rw[List.length_append,cI,List.map_append];exact ho
 ·exact(B.alloc (by omega) _).grown hg (by simp;omega) (fun k hk=>by have:=(h.base k hk).1;omega)
 ·have:=hg.size;simp at this;omega
 ·rw[hg.cell_far _ (by simp;omega) (fun e=>hne e.symm)];rw[World.cell?_alloc_old _ _ _ (by dsimp only;omega)];exact hc
theorem DL.cut{W:World}{b o n c:Nat}{A:List Int}(h:DL W (.slice (some ⟨b,o,none⟩) n c) A)(k:Nat)(hk:k<=A.length):
  DL W (.slice (if c=k then some ⟨b,o,none⟩else some ⟨b,o+k,none⟩) (n-k) (c-k)) (A.drop k):=by
 by_cases hA:A.drop k=[]
 ·rw[hA];have hl:A.length<=k:=by simpa using hA
  have hn:n=A.length:=by obtain⟨a',c',e⟩:=h.shape;injection e
  exact .inl ⟨rfl,_,_,by rw[show n-k=0 by omega]⟩
 ·have hl:k<A.length:=by
   rcases Nat.lt_or_ge k A.length with h1|h1
   ·exact h1
   ·exact absurd (List.drop_of_length_le h1) hA
  obtain⟨b',o',c',e,e1,e2,e3⟩:=h.own (fun e=>by rw[e]at hl;simp at hl);injection e with ea en ec
  injection ea with ea
  injection ea with eb eo
  subst eb eo en ec;refine .inr ⟨hA,b,o+k,c-k,?_,by rw[List.length_drop];omega,e2,fun j x hx=>?_⟩
  ·rw[if_neg (by omega),List.length_drop]
  ·rw[Nat.add_assoc];exact e3 (k+j) x (by rw[List.getElem?_drop]at hx;exact hx)
set_option maxHeartbeats 1000000 in
theorem Index_any(v:Value)(l:List Int)(x:Int)(w:World)(hv:DL w v l)(hn:l.length<=1000000000000):
  Calls Try.prog 69 #[v,.int .i64 x] w fun e w'=>e= .returned (.int .i64 (plI l x))/\w=w':=by
 have cellL:=Hd (show ∀(k:Nat) (hk:k<l.length),∃b o,(∃c,v= .slice (some ⟨b,o,none⟩) l.length c)/\w.cell? ⟨b,o+k,none⟩=some (.int .i64 l[k])from fun k hk=>by
  obtain⟨b,o,c,he,e1,e2,e3⟩:=hv.own (fun e=>by rw[e]at hk;simp at hk);exact⟨b,o,⟨c,he⟩,e3 k _ (List.getElem?_eq_getElem hk)⟩)
 obtain⟨a,c,rfl⟩:=hv.shape;obtain⟨N,hN⟩:∃N,Hid (N=l.length):=⟨_,rfl⟩;rw[<-hN.out]at hn ⊢;clear hv;go_enter Try.func69,Try.ntmps69;go_wp2_with fail
 go_loop [8] (fun i=>∃k:Nat,k<=N/\i= .int .i64 k/\Hid (∀j (h:j<l.length),j<k->l[j]≠x)) (fun i=>N-(intOf i).toNat)
 case atStart=>exact⟨0,by omega,rfl,fun j h hj=>by omega⟩
 case round =>
  obtain⟨k,hk,rfl,hno⟩:=hrel;by_cases hlt:k<N
  ·have hkl:k<l.length:=by rw[<-hN.out];exact hlt
   obtain⟨b,o,⟨c',he⟩,c0⟩:=cellL.out k hkl;injection he with he
   subst he;have i0:(0:Int)<=(k:Int):=by omega
   have i1:(k:Int)<(N:Int):=by omega
   have hat:=Hd (plI_at l x k hkl hno.out);have hup:=Hd (fun(hne:l[k]≠x) j (h:j<l.length) (hj:j<k+1)=>show l[j]≠x from by
    rcases Nat.lt_or_ge j k with h1|h1
    ·exact hno.out j h h1
    ·have:j=k:=by omega
     subst this;exact hne)
   generalize l[k]=u at *
   by_cases hx:u=x
   ·have t1:(x==u)=true:=by simpa using hx.symm
    have hr:=Hd (hat.out hx);clear hat hup hx;go_wp2_with fail;go_ret;exact⟨ret_int hr.out.symm,rfl⟩
   ·have t1:(x==u)=false:=by simpa using fun e=>hx e.symm
    have hr:=Hd (hup.out hx);clear hat hup hx;go_wp2_with fail
    go_round
    case rel=>exact⟨k+1,by omega,by go_num,hr.out⟩
    case measure=>simp[intOf];omega
  ·have hk2:k=N:=by omega
   have hf:Hid (plI l x= -1):=plI_none l x (fun j h=>hno.out j h (by rw[hk2,hN.out];exact h));have i1:¬(k:Int)<(N:Int):=by omega
   clear hk2;go_wp2_with fail;go_ret;exact⟨ret_int hf.out.symm,rfl⟩
theorem Contains_any(v:Value)(l:List Int)(x:Int)(w:World)(hv:DL w v l)(hn:l.length<=1000000000000):
  Calls Try.prog 45 #[v,.int .i64 x] w fun e w'=>e= .returned (.bool (decide (x∈l)))/\w=w':=by
 have h:=Hd (Index_any v l x w hv hn);have hneg:=plI_neg l x;obtain⟨a,c,rfl⟩:=hv.shape;have hr:Hid (decide (x∈l)=decide (0<=plI l x)):=by
  show _=_;rw[Bool.eq_iff_iff];simp only[decide_eq_true_eq];constructor
  ·intro h1;exact Int.not_lt.1 (fun h2=>hneg.1 h2 h1)
  ·intro h1;exact Decidable.by_contra (fun h2=>by have:=hneg.2 h2;omega)
 generalize plI l x=i at *
 generalize l.length=n at *
 clear hneg hv;go_enter Try.func45,Try.ntmps45;go_wp2_with fail;refine h.out.mono ?_;rintro e w2 ⟨rfl,rfl⟩;go_wp2_with fail;go_ret;exact⟨ret_bool hr.out.symm,rfl⟩
end Go.Proofs.Ytlnbobclbaieoaa
