/- Facts. -/
import Derived.Defers
import Derived.Laws.Pointers
import Derived.Test.YtlaldnlgapeckaaGreatVYN
set_option linter.unusedSimpArgs false
set_option maxRecDepth 100000
set_option maxHeartbeats 4000000
namespace Go.Proofs.YtlaldnlgapeckaaGreat
open Go.RowKit
theorem rlistV(b:Nat)(s:ByteArray)(a most:Int)(w:World)(h:Rd w b s a)(hs:s.size<=maxLen)(h1 : -9223372036854775808<=a)(h2:a<=9223372036854775807)(hm:most<=1000):
  Calls Tryz.prog 99 #[.pointer (some ⟨b,0,none⟩),.int .i64 most,.func (.func 94) #[] #[]] w (LPost OwnV b s (rLst (fun m=>rV s.data.toList m) s.data.toList most a) w):=by
 have hl:s.data.toList.length=s.size:=Array.length_toList;have hs':=hs;unfold maxLen at hs';have hb:=h.lt;obtain⟨i0,hi,hz0,hz1,hz2⟩:=info_parts info29;obtain⟨R,hR⟩:∃R,Hid (R=rLst (fun m=>rV s.data.toList m) s.data.toList most a):=⟨_,rfl⟩;rw[<-hR.out];have hnone:Hid (∀v W,R=none->KR b w W->LPost OwnV b s R w (.panicked [{v:= .iface 45 (.int .i64 v),recovered:=false}]) W):=fun v W e k=>by rw[e];exact⟨⟨v,rfl⟩,k⟩
 have hsome:Hid (∀v W L m,R=some (L,m)->OwnV W w.heap.size v L->Rd W b s m->KR b w W->LPost OwnV b s R w (.returned v) W):=fun v W L m e o r k=>by rw[e];exact⟨v,rfl,o,r,k⟩
 have k1:=Hd (upTo_any b s a most w h hs h1 h2);cases e1:rU s.data.toList most a with
 | none =>
  have hRn:Hid (R=none):=by show _=_;rw[hR.out];unfold rLst;rw[e1];rfl
  rw[e1]at k1;clear e1 h hR;go_enter Tryz.func99,Tryz.ntmps99;go_wp2_with fail;with_reducible refine k1.out.mono ?_
  rintro e w1 ⟨⟨v,rfl⟩,hk⟩;have hf:=Hd (hnone.out v w1 hRn.out hk);clear hk;go_wp2_with fail;exact⟨rfl,hf.out⟩
 | some p =>
  obtain⟨n0,m0⟩:=p;have hu:=rU_ok e1;rw[hl]at hu;rw[e1]at k1;obtain⟨N,rfl⟩:∃N:Nat,n0=N:=⟨n0.toNat,by omega⟩;have hRm:Hid (R=rMany (fun m=>rV s.data.toList m) N m0):=by
   show _=_;rw[hR.out];unfold rLst;rw[e1];simp
  have hN:N<=1000:=by omega
  have hm0:m0<=s.size:=hu.1;clear e1 h hR hu;go_enter Tryz.func99,Tryz.ntmps99;go_wp2_with fail;with_reducible refine k1.out.mono ?_
  rintro e w1 ⟨rfl,hr1,hk1⟩;have hr1h:=Hd hr1;have hk1h:=Hd hk1;clear hr1 hk1 k1;go_wp2_with fail
  go_loopw [7,11] (fun lv i wr=>∃(k m:Nat) (L:List Vx),k<=N/\i= .int .i64 k/\Hid (R=(rMany (fun m=>rV s.data.toList m) (N-k) m).map fun q=>(L++q.1,q.2))/\L.length=k/\Hid (OwnV wr w.heap.size lv L)/\Hid (Rd wr b s m)/\Hid (KR b w wr)/\m<=s.size) (fun _ i _=>N-(intOf i).toNat)
  case atStart=>exact⟨0,m0,[],by omega,rfl,by show _=_;rw[hRm.out];simp,rfl,World.ownsRow_nil _ _ _ _,hr1h.out,hk1h.out,hm0⟩
  case round =>
   obtain⟨_,m,L,hk,rfl,hrun,rfl,hown,hrd,hkr,hms⟩:=hrel;obtain⟨k,hkk⟩:∃k,Hid (k=L.length):=⟨_,rfl⟩;rw[<-hkk.out]at hk hrun ⊢;by_cases hlt:k<N
   ·have i0':(0:Int)<=(k:Int):=by omega
    have i1:(k:Int)<(N:Int):=by omega
    have hst:=Hd (rMany_step (fun m=>rV s.data.toList m) N m0 k m L hlt (by rw[<-hRm.out];exact hrun.out));have kc:=Hd (rvertex_any b s m wr hrd.out hs (by omega) (by omega));obtain⟨lq1,lq2,hlv⟩:∃x y,u7= .slice x k y:=by
     rcases hown.out.2 with⟨q,hq⟩|⟨g,cap,_,q,_⟩
     ·exact⟨none,0,by rw[q,hkk.out,hq]⟩
     ·exact⟨_,_,by rw[hkk.out];exact q⟩
    subst hlv;cases eo:rV s.data.toList (m:Int)with
    | none =>
     rw[eo]at kc;have hRn:Hid (R=none):=by show _=_;rw[hRm.out];exact hst.out.1 eo
     clear eo hst;go_wp2_with fail;with_reducible refine kc.out.mono ?_
     rintro e w2 ⟨⟨v,rfl⟩,hk2⟩;have hf:=Hd (hnone.out v w2 hRn.out (hkr.out.trans hk2));clear hk2;go_wp2_with fail;exact⟨rfl,hf.out⟩
    | some p =>
     obtain⟨x,m'⟩:=p;rw[eo]at kc;have hbd:=(rV_ok eo).1;have hRs:Hid (R=(rMany (fun m=>rV s.data.toList m) (N-(k+1)) m').map fun q=>(L++[x]++q.1,q.2)):=by show _=_;rw[hRm.out];exact hst.out.2 x m' eo
     clear eo hst;go_wp2_with fail;with_reducible refine kc.out.mono ?_
     rintro e w2 ⟨rfl,hr2,hk2⟩;have hkr2:=Hd (hkr.out.trans hk2);have hwb:b<wr.heap.size:=hrd.out.lt;have hws:w.heap.size<=wr.heap.size:=hkr.out.below.size;have hws2:wr.heap.size<=w2.heap.size:=hk2.below.size;have hown2:OwnV w2 w.heap.size (.slice lq1 k lq2) L:=by
      have q:=hown.out;refine⟨q.1,?_⟩;rcases q.2 with q2|⟨g,cap,cur,q1,q2,q3,q4⟩
      ·exact .inl q2
      ·exact .inr ⟨g,cap,cur,q1,q2,(hk2.keep g (by omega) (Array.getElem?_eq_some_iff.1 q3).1).trans q3,q4⟩
     obtain⟨g,cap,w3,hrun3,ho3,hz3,hK3,hold3⟩:=snocK b w.heap.size 22 29 i0 _ 2 16 Tryz.underlying22 hi hz0 hz1 hz2 rfl (by omega) (by omega) w2 _ k (cVx L) #[.int .i64 x.id,.int .i64 x.side] rfl (by simp[Value.oneCell',cVx,vxCells]) (by have q:=hown2;unfold OwnV at q;rw[<-hkk.out]at q;exact q) (by omega) (by omega);have hf1:Hid (OwnV w3 w.heap.size (.slice (some ⟨g,0,none⟩) (k+1) cap) (L++[x])):=by
      have q:=ho3;show World.ownsRow _ _ _ _ _ _ _;rw[List.length_append,<-hkk.out];simpa[cVx,cVx,vxCells]using q
     have hf2:Hid (Rd w3 b s m'):=by
      show _=_;rw[hold3 b hb];exact hr2
     have hf3:Hid (KR b w w3):=hK3 w hb (Nat.le_refl _) hkr2.out;have hf4:m'<=s.size:=by rw[<-hl];exact hbd
     clear ho3 hK3 hold3 hown2 hr2 hk2 kc hbd
     skip
     go_wp2_with (at_builtin;refine wpList_append_runB rfl (.tmp 13) (.tmp 17) 22 rfl _ _ rfl rfl _ _ hrun3 ?_)
     go_roundw
     case rel=>exact⟨k+1,m',L++[x],by omega,by go_num,hRs,by rw[List.length_append,<-hkk.out];rfl,hf1,hf2,hf3,hf4⟩
     case measure=>simp[intOf];omega
   ·have hk2:k=N:=by omega
    have hRs:R=some (L,m):=by
     have q:=hrun.out;rw[show N-k=0 by omega]at q;rw[q];simp[rMany]
    have hf:=Hd (hsome.out _ wr L m hRs hown.out hrd.out hkr.out);have i1:¬(k:Int)<(N:Int):=by omega
    clear hRs hk2;go_wp2_with fail;go_ret;exact hf.out
theorem rlistE(b:Nat)(s:ByteArray)(a most:Int)(w:World)(h:Rd w b s a)(hs:s.size<=maxLen)(h1 : -9223372036854775808<=a)(h2:a<=9223372036854775807)(hm:most<=1000):
  Calls Tryz.prog 100 #[.pointer (some ⟨b,0,none⟩),.int .i64 most,.func (.func 95) #[] #[]] w (LPost OwnEd b s (rLst (fun m=>rE s.data.toList m) s.data.toList most a) w):=by
 have hl:s.data.toList.length=s.size:=Array.length_toList;have hs':=hs;unfold maxLen at hs';have hb:=h.lt;obtain⟨i0,hi,hz0,hz1,hz2⟩:=info_parts info31;obtain⟨R,hR⟩:∃R,Hid (R=rLst (fun m=>rE s.data.toList m) s.data.toList most a):=⟨_,rfl⟩;rw[<-hR.out];have hnone:Hid (∀v W,R=none->KR b w W->LPost OwnEd b s R w (.panicked [{v:= .iface 45 (.int .i64 v),recovered:=false}]) W):=fun v W e k=>by rw[e];exact⟨⟨v,rfl⟩,k⟩
 have hsome:Hid (∀v W L m,R=some (L,m)->OwnEd W w.heap.size v L->Rd W b s m->KR b w W->LPost OwnEd b s R w (.returned v) W):=fun v W L m e o r k=>by rw[e];exact⟨v,rfl,o,r,k⟩
 have k1:=Hd (upTo_any b s a most w h hs h1 h2);cases e1:rU s.data.toList most a with
 | none =>
  have hRn:Hid (R=none):=by show _=_;rw[hR.out];unfold rLst;rw[e1];rfl
  rw[e1]at k1;clear e1 h hR;go_enter Tryz.func100,Tryz.ntmps100;go_wp2_with fail;with_reducible refine k1.out.mono ?_
  rintro e w1 ⟨⟨v,rfl⟩,hk⟩;have hf:=Hd (hnone.out v w1 hRn.out hk);clear hk;go_wp2_with fail;exact⟨rfl,hf.out⟩
 | some p =>
  obtain⟨n0,m0⟩:=p;have hu:=rU_ok e1;rw[hl]at hu;rw[e1]at k1;obtain⟨N,rfl⟩:∃N:Nat,n0=N:=⟨n0.toNat,by omega⟩;have hRm:Hid (R=rMany (fun m=>rE s.data.toList m) N m0):=by
   show _=_;rw[hR.out];unfold rLst;rw[e1];simp
  have hN:N<=1000:=by omega
  have hm0:m0<=s.size:=hu.1;clear e1 h hR hu;go_enter Tryz.func100,Tryz.ntmps100;go_wp2_with fail;with_reducible refine k1.out.mono ?_
  rintro e w1 ⟨rfl,hr1,hk1⟩;have hr1h:=Hd hr1;have hk1h:=Hd hk1;clear hr1 hk1 k1;go_wp2_with fail
  go_loopw [7,11] (fun lv i wr=>∃(k m:Nat) (L:List Ed),k<=N/\i= .int .i64 k/\Hid (R=(rMany (fun m=>rE s.data.toList m) (N-k) m).map fun q=>(L++q.1,q.2))/\L.length=k/\Hid (OwnEd wr w.heap.size lv L)/\Hid (Rd wr b s m)/\Hid (KR b w wr)/\m<=s.size) (fun _ i _=>N-(intOf i).toNat)
  case atStart=>exact⟨0,m0,[],by omega,rfl,by show _=_;rw[hRm.out];simp,rfl,World.ownsRow_nil _ _ _ _,hr1h.out,hk1h.out,hm0⟩
  case round =>
   obtain⟨_,m,L,hk,rfl,hrun,rfl,hown,hrd,hkr,hms⟩:=hrel;obtain⟨k,hkk⟩:∃k,Hid (k=L.length):=⟨_,rfl⟩;rw[<-hkk.out]at hk hrun ⊢;by_cases hlt:k<N
   ·have i0':(0:Int)<=(k:Int):=by omega
    have i1:(k:Int)<(N:Int):=by omega
    have hst:=Hd (rMany_step (fun m=>rE s.data.toList m) N m0 k m L hlt (by rw[<-hRm.out];exact hrun.out));have kc:=Hd (redge_any b s m wr hrd.out hs (by omega) (by omega));obtain⟨lq1,lq2,hlv⟩:∃x y,u7= .slice x k y:=by
     rcases hown.out.2 with⟨q,hq⟩|⟨g,cap,_,q,_⟩
     ·exact⟨none,0,by rw[q,hkk.out,hq]⟩
     ·exact⟨_,_,by rw[hkk.out];exact q⟩
    subst hlv;cases eo:rE s.data.toList (m:Int)with
    | none =>
     rw[eo]at kc;have hRn:Hid (R=none):=by show _=_;rw[hRm.out];exact hst.out.1 eo
     clear eo hst;go_wp2_with fail;with_reducible refine kc.out.mono ?_
     rintro e w2 ⟨⟨v,rfl⟩,hk2⟩;have hf:=Hd (hnone.out v w2 hRn.out (hkr.out.trans hk2));clear hk2;go_wp2_with fail;exact⟨rfl,hf.out⟩
    | some p =>
     obtain⟨x,m'⟩:=p;rw[eo]at kc;unfold edCells at kc;have hbd:=(rE_ok eo);have hRs:Hid (R=(rMany (fun m=>rE s.data.toList m) (N-(k+1)) m').map fun q=>(L++[x]++q.1,q.2)):=by show _=_;rw[hRm.out];exact hst.out.2 x m' eo
     clear eo hst;go_wp2_with fail;with_reducible refine kc.out.mono ?_
     rintro e w2 ⟨rfl,hr2,hk2⟩;have hkr2:=Hd (hkr.out.trans hk2);have hwb:b<wr.heap.size:=hrd.out.lt;have hws:w.heap.size<=wr.heap.size:=hkr.out.below.size;have hws2:wr.heap.size<=w2.heap.size:=hk2.below.size;have hown2:OwnEd w2 w.heap.size (.slice lq1 k lq2) L:=by
      have q:=hown.out;refine⟨q.1,?_⟩;rcases q.2 with q2|⟨g,cap,cur,q1,q2,q3,q4⟩
      ·exact .inl q2
      ·exact .inr ⟨g,cap,cur,q1,q2,(hk2.keep g (by omega) (Array.getElem?_eq_some_iff.1 q3).1).trans q3,q4⟩
     obtain⟨g,cap,w3,hrun3,ho3,hz3,hK3,hold3⟩:=snocK b w.heap.size 23 31 i0 _ 6 48 Tryz.underlying23 hi hz0 hz1 hz2 rfl (by omega) (by omega) w2 _ k (cEd L) #[.int .i64 x.id,.int .i64 x.src,.int .i64 x.dst,.bool x.dir,.int .i64 x.wt,.int .i64 x.cap] rfl (by simp[Value.oneCell',cEd,edCells]) (by have q:=hown2;unfold OwnEd at q;rw[<-hkk.out]at q;exact q) (by omega) (by omega);have hf1:Hid (OwnEd w3 w.heap.size (.slice (some ⟨g,0,none⟩) (k+1) cap) (L++[x])):=by
      have q:=ho3;show World.ownsRow _ _ _ _ _ _ _;rw[List.length_append,<-hkk.out];simpa[cEd,cEd,edCells]using q
     have hf2:Hid (Rd w3 b s m'):=by
      show _=_;rw[hold3 b hb];exact hr2
     have hf3:Hid (KR b w w3):=hK3 w hb (Nat.le_refl _) hkr2.out;have hf4:m'<=s.size:=by rw[<-hl];exact hbd
     clear ho3 hK3 hold3 hown2 hr2 hk2 kc hbd
     go_wp2_with (at_builtin;refine wpList_append_runB rfl (.tmp 13) (.tmp 17) 23 rfl _ _ rfl rfl _ _ hrun3 ?_)
     go_roundw
     case rel=>exact⟨k+1,m',L++[x],by omega,by go_num,hRs,by rw[List.length_append,<-hkk.out];rfl,hf1,hf2,hf3,hf4⟩
     case measure=>simp[intOf];omega
   ·have hk2:k=N:=by omega
    have hRs:R=some (L,m):=by
     have q:=hrun.out;rw[show N-k=0 by omega]at q;rw[q];simp[rMany]
    have hf:=Hd (hsome.out _ wr L m hRs hown.out hrd.out hkr.out);have i1:¬(k:Int)<(N:Int):=by omega
    clear hRs hk2;go_wp2_with fail;go_ret;exact hf.out
theorem catch98(p:Addr)(x:Int)(u:TypeId)(pv:Value)(older:List PanicEntry)(w:World)(hc:w.cell? p=some (.int .i64 x))(hz:w.frozen? p=false):
  CallsD Tryz.prog 98 #[.pointer (some p)] (.panicking ({v:= .iface u pv,recovered:=false}::older)) w fun e u' w' =>
   e= .returned (.tuple #[])/\u'= .panicking ({v:= .iface u pv,recovered:=true}::older)/\w'=w.setCell p (.int .i64 30):=by
 refine callsD_of_wpS Tryz.func98 rfl fun c₀ cs hu=>?_;apply wpS_seq;apply wpS_region;simp[wpOpsS,go_sem,recoverD,hu,Tryz.ntmps98,Exit.thenS];refine wpS_cond (t:=true) (by simp[Act.eval,Array.replicate]) ?_;simp only[if_true];apply wpS_region;simp[wpOpsS,go_sem,hc,hz,bodyPostS,results,Tryz.results98]
theorem idle98(p:Addr)(w:World):
  CallsD Tryz.prog 98 #[.pointer (some p)] .returning w fun e u' w'=>e= .returned (.tuple #[])/\u'= .returning/\w'=w:=by
 refine callsD_of_wpS Tryz.func98 rfl fun c₀ cs hu=>?_;apply wpS_seq;apply wpS_region;simp[wpOpsS,go_sem,recoverD,hu,Tryz.ntmps98,Exit.thenS];refine wpS_cond (t:=false) (by simp[Act.eval,Array.replicate]) ?_;simp only[Bool.false_eq_true,if_false];refine wpS_of_wp (wp_skip ?_);cases c₀
 simp_all[bodyPostS,results,Tryz.results98]
theorem rMany_ok{α:Type}(one:Nat->Option (α × Nat))(len:Nat)(h:∀a p,one a=some p->p.2<=len):∀(n a:Nat) (q:List α × Nat),a<=len->rMany one n a=some q->q.2<=len/\q.1.length=n:=by
 intro n
 induction n with
 | zero=>intro a q ha e;simp only[rMany,Option.some.injEq]at e;subst e;exact⟨ha,rfl⟩
 | succ k ih =>
  intro a q ha e;unfold rMany at e;cases e1:one a with
  | none=>rw[e1]at e;cases e
  | some p =>
   rw[e1]at e;simp only[Option.bind_some]at e;cases e2:rMany one k p.2 with
   | none=>rw[e2]at e;cases e
   | some r =>
    rw[e2]at e;simp only[Option.map_some,Option.some.injEq]at e;subst e;have:=ih p.2 r (h a p e1) e2;exact⟨this.1,by simp[this.2]⟩
theorem rLst_ok{α:Type}(one:Nat->Option (α × Nat))(l:List UInt8)(most a:Int)(q:List α × Nat)(h:∀a p,one a=some p->p.2<=l.length)(hm:most<=1000)(e:rLst one l most a=some q):q.2<=l.length/\q.1.length<=1000:=by
 unfold rLst at e;cases e1:rU l most a with
 | none=>rw[e1]at e;cases e
 | some p =>
  rw[e1]at e;simp only[Option.bind_some]at e;have hu:=rU_ok (n:=p.1) (m:=p.2) e1;have:=rMany_ok one l.length h _ _ q hu.1 e;exact⟨this.1,by rw[this.2];omega⟩
theorem own_KR{W W':World}{B b n:Nat}{e:TypeId}{size:Nat}{v:Value}{xs:List Value}(h:W.ownsRow B e size v n xs)(k:KR b W W')(hb:b<B):W'.ownsRow B e size v n xs:=by
 refine⟨h.1,?_⟩;rcases h.2 with q2|⟨g,cap,cur,q1,q2,q3,q4⟩
 ·exact .inl q2
 ·exact .inr ⟨g,cap,cur,q1,q2,(k.keep g (by omega) (Array.getElem?_eq_some_iff.1 q3).1).trans q3,q4⟩
def rGr(l:List UInt8)(a:Int):Option (Gr × Nat) :=
 (rLst (fun m=>rV l m) l 24 a).bind fun p=>(rLst (fun m=>rE l m) l 40 p.2).bind fun q=>(rLst (fun m=>rdI l m) l 3 q.2).bind fun r=>if(⟨p.1,q.1,r.1⟩:Gr).ok=true then some (⟨p.1,q.1,r.1⟩,r.2)else none
def GPost(b:Nat)(s:ByteArray)(r:Option (Gr × Nat))(w:World)(e:Ending)(w':World):Prop :=
 match r with
 | none=>(∃v,e= .panicked [{v:= .iface 45 (.int .i64 v),recovered:=false}])/\KR b w w'
 | some (g,m)=>∃x y z,e= .returned (.agg #[x,y,z])/\OwnV w' w.heap.size x g.vs/\OwnEd w' w.heap.size y g.es/\OwnI w' w.heap.size z g.ds/\Rd w' b s m/\KR b w w'
theorem rgraph_any(b:Nat)(s:ByteArray)(a:Int)(w:World)(h:Rd w b s a)(hs:s.size<=maxLen)(h1 : -9223372036854775808<=a)(h2:a<=9223372036854775807):
  Calls Tryz.prog 75 #[.pointer (some ⟨b,0,none⟩)] w (GPost b s (rGr s.data.toList a) w):=by
 have hl:s.data.toList.length=s.size:=Array.length_toList;have hs':=hs;unfold maxLen at hs';have hb:=h.lt;obtain⟨R,hR⟩:∃R,Hid (R=rGr s.data.toList a):=⟨_,rfl⟩;rw[<-hR.out];have hnone:Hid (∀v W,R=none->KR b w W->GPost b s R w (.panicked [{v:= .iface 45 (.int .i64 v),recovered:=false}]) W):=fun v W e k=>by rw[e];exact⟨⟨v,rfl⟩,k⟩
 obtain⟨w0,hw0⟩:∃w0,w0=w.alloc (.cells zG 26):=⟨_,rfl⟩;have hB0:Below w.heap.size w w0:=by rw[hw0];exact(Below.refl _ _).alloc (Nat.le_refl _) _
 have r0:=h.below hB0;have hk0:=Hd (KR.of hB0 (by omega):KR b w w0);have hsz:w0.heap.size=w.heap.size+1:=by rw[hw0];simp
 have hbx0:=Hd (show w0.heap[w.heap.size]?=some (.cells zG 26 (0,0))by rw[hw0];exact heap_alloc_new w _);have hw0h:=Hd hw0;unfold zG nilS at hw0h;have k1:=Hd (rlistV b s a 24 w0 r0 hs h1 h2 (by omega));have kk0:=Hd (KR.refl b w0);clear hw0 h;cases e1:rLst (fun m=>rV s.data.toList m) s.data.toList 24 a with
 | none =>
  rw[e1]at k1;have hRn:=Hd (show R=none by rw[hR.out];simp[rGr,e1]);clear e1 hR;go_enter Tryz.func75,Tryz.ntmps75;go_wp2_with fail;rw[<-hw0h.out];with_reducible refine k1.out.mono ?_
  rintro e wq ⟨⟨v,rfl⟩,q2⟩;have hq:=Hd (hnone.out v wq hRn.out (hk0.out.trans q2));clear q2;go_wp2_with fail;exact⟨rfl,hq.out⟩
 | some p =>
  obtain⟨L1,m1⟩:=p;rw[e1]at k1;have b1:=rLst_ok _ _ _ _ _ (fun a p e=>(rV_ok e).1) (by omega) e1;rw[hl]at b1;simp only at b1;have e1h:=Hd e1;clear e1;go_enter Tryz.func75,Tryz.ntmps75;go_wp2_with fail;rw[<-hw0h.out];with_reducible refine k1.out.mono ?_
  rintro e w1 ⟨v1,rfl,o1,r1,q⟩;have e1:=e1h.out;clear e1h;have s1:=q.below.size;have hk1:=Hd ((hk0.out).trans q);have kk1:=Hd (kk0.out.trans q);have O1:=Hd (show OwnV w1 (w.heap.size+1) v1 L1 from own_le o1 (by omega));obtain⟨x1,y1,rfl⟩:=o1.VL.shape;have k2:=Hd (rlistE b s m1 40 w1 r1 hs (by omega) (by omega) (by omega));clear q o1 k1;cases e2:rLst (fun m=>rE s.data.toList m) s.data.toList 40 m1 with
  | none =>
   rw[e2]at k2;have hRn:=Hd (show R=none by rw[hR.out];simp[rGr,e1,e2]);clear e1 e2 hR;go_wp2_with fail;with_reducible refine k2.out.mono ?_
   rintro e wq ⟨⟨v,rfl⟩,q2⟩;have hq:=Hd (hnone.out v wq hRn.out (hk1.out.trans q2));clear q2;go_wp2_with fail;exact⟨rfl,hq.out⟩
  | some p =>
   obtain⟨L2,m2⟩:=p;rw[e2]at k2;have b2:=rLst_ok _ _ _ _ _ (fun a p e=>(rE_ok e)) (by omega) e2;rw[hl]at b2;simp only at b2;have e1h:=Hd e1;have e2h:=Hd e2;clear e1 e2;go_wp2_with fail;with_reducible refine k2.out.mono ?_
   rintro e w2 ⟨v2,rfl,o2,r2,q⟩;have e1:=e1h.out;clear e1h;have e2:=e2h.out;clear e2h;have s2:=q.below.size;have hk2:=Hd ((hk1.out).trans q);have kk2:=Hd (kk1.out.trans q);have O1:=Hd (own_KR O1.out q (by omega));have O2:=Hd (show OwnEd w2 (w.heap.size+1) v2 L2 from own_le o2 (by omega));obtain⟨x2,y2,rfl⟩:=o2.EL.shape;have k3:=Hd (rlistI b s m2 3 w2 r2 hs (by omega) (by omega) (by omega));clear q o2 k2;cases e3:rLst (fun m=>rdI s.data.toList m) s.data.toList 3 m2 with
   | none =>
    rw[e3]at k3;have hRn:=Hd (show R=none by rw[hR.out];simp[rGr,e1,e2,e3]);clear e1 e2 e3 hR;go_wp2_with fail;with_reducible refine k3.out.mono ?_
    rintro e wq ⟨⟨v,rfl⟩,q2⟩;have hq:=Hd (hnone.out v wq hRn.out (hk2.out.trans q2));clear q2;go_wp2_with fail;exact⟨rfl,hq.out⟩
   | some p =>
    obtain⟨L3,m3⟩:=p;rw[e3]at k3;have b3:=rLst_ok _ _ _ _ _ (fun a p e=>(rdI_ok (n:=p.1) (m:=p.2) e).1) (by omega) e3;rw[hl]at b3;simp only at b3;have e1h:=Hd e1;have e2h:=Hd e2;have e3h:=Hd e3;clear e1 e2 e3;go_wp2_with fail;with_reducible refine k3.out.mono ?_
    rintro e w3 ⟨v3,rfl,o3,r3,q⟩;have e1:=e1h.out;clear e1h;have e2:=e2h.out;clear e2h;have e3:=e3h.out;clear e3h;have s3:=q.below.size;have hk3:=Hd ((hk2.out).trans q);have kk3:=Hd (kk2.out.trans q);have O1:=Hd (own_KR O1.out q (by omega));have O2:=Hd (own_KR O2.out q (by omega));have O3:=Hd (show OwnI w3 (w.heap.size+1) v3 L3 from own_le o3 (by omega));obtain⟨x3,y3,rfl⟩:=o3.DL.shape;have hRs:R=if(⟨L1,L2,L3⟩:Gr).ok=true then some (⟨L1,L2,L3⟩,m3)else none:=by rw[hR.out];simp[rGr,e1,e2,e3]
    obtain⟨g,hg⟩:∃g:Gr,Hid (g=⟨L1,L2,L3⟩):=⟨_,rfl⟩;rw[<-hg.out]at hRs;have O1:=Hd (show OwnV w3 (w.heap.size+1) (.slice x1 L1.length y1) g.vs by rw[hg.out];exact O1.out);have O2:=Hd (show OwnEd w3 (w.heap.size+1) (.slice x2 L2.length y2) g.es by rw[hg.out];exact O2.out);have O3:=Hd (show OwnI w3 (w.heap.size+1) (.slice x3 L3.length y3) g.ds by rw[hg.out];exact O3.out);have hsm:g.small:=by rw[hg.out];unfold Gr.small;exact⟨by simp only;omega,by simp only;omega,by simp only;omega⟩
    obtain⟨w4,hw4⟩:∃w4,w4=w3.alloc (.cells #[.slice x1 L1.length y1,.slice x2 L2.length y2,.slice x3 L3.length y3] 26):=⟨_,rfl⟩;have B4:Below w3.heap.size w3 w4:=by rw[hw4];exact(Below.refl _ _).alloc (Nat.le_refl _) _
    have kV:=Hd (Valid_any (.agg #[.slice x1 L1.length y1,.slice x2 L2.length y2,.slice x3 L3.length y3]) g w4 ⟨_,_,_,rfl,(show OwnV w4 _ _ _ from own_below O1.out B4).VL,(show OwnEd w4 _ _ _ from own_below O2.out B4).EL,(show OwnI w4 _ _ _ from own_below O3.out B4).DL⟩ hsm);have hrd4:=Hd (r3.below B4);have hk4:=Hd (hk3.out.trans (KR.of B4 (by have:=r3.lt;omega)));have g4:=Hd (show w4.heap[w3.heap.size]?=some (.cells #[.slice x1 L1.length y1,.slice x2 L2.length y2,.slice x3 L3.length y3] 26 (0,0))by rw[hw4];exact heap_alloc_new w3 _);have z4:w4.heap.size=w3.heap.size+1:=by rw[hw4];simp
    have hbx4:=(B4.block w.heap.size (by omega)).trans ((kk3.out.keep w.heap.size (by omega) (by omega)).trans hbx0.out);have hbx4h:=Hd hbx4;have O1b:=Hd (own_le (own_below O1.out B4) (by omega):OwnV w4 w.heap.size _ g.vs);have O2b:=Hd (own_le (own_below O2.out B4) (by omega):OwnEd w4 w.heap.size _ g.es);have O3b:=Hd (own_le (own_below O3.out B4) (by omega):OwnI w4 w.heap.size _ g.ds);have hfin:=Hd (fun(W:World) (B:Below w4.heap.size w4 W) (hok:g.ok=true)=>show GPost b s R w (.returned (.agg #[.slice x1 L1.length y1,.slice x2 L2.length y2,.slice x3 L3.length y3])) (W.setRow w.heap.size #[.slice x1 L1.length y1,.slice x2 L2.length y2,.slice x3 L3.length y3])from by
     have hx:=(B.block w.heap.size (by omega)).trans hbx4h.out;rw[hRs,if_pos hok];exact⟨_,_,_,rfl,own_row26 (own_below O1b.out B) (by decide) hx _,own_row26 (own_below O2b.out B) (by decide) hx _,own_row26 (own_below O3b.out B) (by decide) hx _,(hrd4.out.below B |>.row (by omega) _).1,(KR.of B (by omega):KR b w4 W).row hk4.out hb (Nat.le_refl _) _⟩)
    have hbad:=Hd (fun(W:World) (v:Int) (B:Below w4.heap.size w4 W) (hok:g.ok=false)=>hnone.out v W (by rw[hRs,hok];rfl) (hk4.out.trans (KR.of B (by omega))));have hw4h:=Hd hw4;clear hRs e1 e2 e3 hw4 B4 q o3 k3 hR hsm r3 hbx4 r0 hB0 hnone;generalize L1.length=n1 at *
    generalize L2.length=n2 at *
    generalize L3.length=n3 at *
    go_wp2_with fail;rw[<-hw4h.out];with_reducible refine kV.out.mono ?_
    rintro e w5 ⟨rfl,hb5⟩;have hb5h:=Hd hb5;have g5:=(hb5.block w3.heap.size (by omega)).trans g4.out;have c0:w5.cell? ⟨w3.heap.size,0,none⟩=some (.slice x1 n1 y1):=by rw[cell_of_row _ _ _ _ _ _ g5];rfl
    have c1:w5.cell? ⟨w3.heap.size,1,none⟩=some (.slice x2 n2 y2):=by rw[cell_of_row _ _ _ _ _ _ g5];rfl
    have c2:w5.cell? ⟨w3.heap.size,2,none⟩=some (.slice x3 n3 y3):=by rw[cell_of_row _ _ _ _ _ _ g5];rfl
    have hx5:=(hb5.block w.heap.size (by omega)).trans hbx4h.out;clear hb5 kV;cases hok:g.ok with
    | true =>
     have hf:=Hd (hfin.out w5 hb5h.out hok);clear hok
     go_wp2_with (refine wpList_store_row rfl 26 (.tmp 2) (.tmp 15) rfl w.heap.size #[.slice x1 n1 y1,.slice x2 n2 y2,.slice x3 n3 y3] rfl rfl 26 _ hx5 size26 rfl (by simp[Value.oneCell']) ?_)
     refine bodyPost_ret (results_cell_row (fn:=Tryz.f75) rfl _ _ w.heap.size 26 #[.slice x1 n1 y1,.slice x2 n2 y2,.slice x3 n3 y3] (0,0) _ rfl (setRow_heap _ _ _ _ _ _ hx5) Tryz.underlying26 rfl size26) rfl ?_;exact hf.out
    | false =>
     have hf:=Hd (fun v=>hbad.out w5 v hb5h.out hok);clear hok;go_wp2_with fail;exact⟨rfl,hf.out _⟩
end Go.Proofs.YtlaldnlgapeckaaGreat
