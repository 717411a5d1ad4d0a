/- Facts. -/
import Derived.Test.YtlaldnlgapeckaaGreatVYRk7
set_option maxHeartbeats 4000000
set_option linter.unusedSimpArgs false
set_option maxRecDepth 100000
namespace Go.Proofs.YtlaldnlgapeckaaGreat
open Go.RowKit
theorem endV_iff(es:List Ed)(h:Asc (keysE es))(a n:Int)(ha:0<=a)(hpos:∀e∈es,0<=e.id):endV es n=a↔n∈endsF es a:=by
 rw[mem_endsF];unfold endV;by_cases h0:n<0
 ·rw[if_pos h0];exact⟨fun e=>by omega,by rintro⟨e,he,(⟨_,e1⟩|⟨_,e1⟩)⟩<;>have:=hpos e he<;>omega⟩
 rw[if_neg h0];by_cases hk:n / 2∈keysE es
 ·rw[if_pos hk];obtain⟨g1,g2⟩:=getE_mem es _ hk;constructor
  ·intro e;refine⟨_,g1,?_⟩
   split at e
   ·exact .inl ⟨e,by omega⟩
   ·exact .inr ⟨e,by omega⟩
  ·rintro⟨x,hx,(⟨e1,e2⟩|⟨e1,e2⟩)⟩
   ·rw[show n / 2=x.id by omega,getE_of es h x hx,if_pos (by omega)];exact e1
   ·rw[show n / 2=x.id by omega,getE_of es h x hx,if_neg (by omega)];exact e1
 ·rw[if_neg hk];exact⟨fun e=>by omega,by
   rintro⟨x,hx,(⟨_,e2⟩|⟨_,e2⟩)⟩
   ·exact absurd (mem_keysE.2 ⟨x,hx,by omega⟩) hk
   ·exact absurd (mem_keysE.2 ⟨x,hx,by omega⟩) hk⟩
theorem Ok.id0{g:Gr}(h:Ok g){a:Int}(ha:a∈keysV g.vs):0<=a:=by
 obtain⟨v,hv,rfl⟩:=mem_keysV.1 ha;have:=h.vok v hv;unfold Vx.ok at this;simp only[Bool.and_eq_true,inB_iff]at this;exact this.1.1
theorem Ok.eid0{g:Gr}(h:Ok g):∀e∈g.es,0<=e.id:=fun e he=>((Ed.okIn_iff _ _).1 (h.eok e he)).1.1
theorem act8_no(g:Gr)(c:Ch)(hok:Ok g)(j:Nat)(hj:j<c.ends.length)(h:endV g.es c.ends[j]≠c.id\/ ∃h0:0<j,¬c.ends[j-1]<c.ends[j]):act8 g c=none:=by
 unfold act8;rw[if_neg];intro hc;simp only[Bool.and_eq_true,List.all_eq_true,decide_eq_true_eq,ascI]at hc;obtain⟨⟨hm,_⟩,ha,hall⟩:=hc;rcases h with h|⟨h0,h⟩
 ·exact h ((endV_iff _ hok.easc _ _ (hok.id0 hm) hok.eid0).2 (hall _ (List.getElem_mem hj)))
 ·exact h (List.pairwise_iff_getElem.1 ha (j-1) j (by omega) hj (by omega))
theorem act8_pass(g:Gr)(c:Ch)(hok:Ok g)(hm:c.id∈keysV g.vs)(h:∀j (hj:j<c.ends.length),endV g.es c.ends[j]=c.id/\ ∀h0:0<j,c.ends[j-1]<c.ends[j]):(ascI c.ends&&c.ends.all fun n=>decide (n∈endsF g.es c.id))=true:=by
 simp only[Bool.and_eq_true,List.all_eq_true,decide_eq_true_eq,ascI];constructor
 ·refine List.pairwise_iff_getElem.2 fun i j hi hj hij=>?_;clear hm
  induction j with
  | zero=>omega
  | succ j ih =>
   have h1:=(h (j+1) hj).2 (by omega);by_cases e:i=j
   ·subst e;exact h1
   ·have:=ih (by omega) (by omega);have h2:c.ends[j+1-1]=c.ends[j]:=rfl;rw[h2]at h1;omega
 ·intro n hn;obtain⟨j,hj,rfl⟩:=List.getElem_of_mem hn;exact(endV_iff _ hok.easc _ _ (hok.id0 hm) hok.eid0).1 (h j hj).1
theorem mv_step(es:List Ed)(h:Asc (keysE es))(t:List Int)(n y:Int)(p:Nat)(hp:p<es.length)(hid:es[p].id=n / 2):es.map (mvE (t++[n]) y)=(es.map (mvE t y)).set p (if n%2=0 then{mvE t y es[p]with src:=y}else{mvE t y es[p]with dst:=y}):=by
 apply List.ext_getElem (by simp);intro j h1 h2;have hj:j<es.length:=by simpa using h1
 simp only[List.getElem_map,List.getElem_set];by_cases e:p=j
 ·subst e;rw[if_pos rfl];by_cases e2:n%2=0
  ·rw[if_pos e2];have a1:2*es[p].id=n:=by omega
   have a2:¬n+1=n:=by omega
   simp[mvE,a1,a2]
  ·rw[if_neg e2];have a1:¬ 2*es[p].id=n:=by omega
   have a2:2*es[p].id+1=n:=by omega
   simp[mvE,a1,a2]
 ·rw[if_neg e];have hne:es[j].id≠n / 2:=fun e1=>by
   have lp:p<(keysE es).length:=by simpa[keysE]using hp
   have lj:j<(keysE es).length:=by simpa[keysE]using hj
   have k1:(keysE es)[p]=es[p].id:=by simp only[keysE,List.getElem_map]
   have k2:(keysE es)[j]=es[j].id:=by simp only[keysE,List.getElem_map]
   rcases Nat.lt_or_gt_of_ne e with hl|hl
   ·have:=List.pairwise_iff_getElem.1 h p j lp lj hl;omega
   ·have:=List.pairwise_iff_getElem.1 h j p lj lp hl;omega
  have a1:¬ 2*es[j].id=n:=by omega
  have a2:¬ 2*es[j].id+1=n:=by omega
  simp[mvE,a1,a2]
structure EdW(wb:World)(gb B0:Nat)(w0:World)(L:List Ed)(W:World):Prop where
 row:L≠[]-> ∃cur,W.heap[gb]?=some (.cells cur 31 (0,0))
 lie:LieE W gb 0 L
 oth:∀j,j<wb.heap.size->j≠gb->W.heap[j]?=wb.heap[j]?
 size:wb.heap.size<=W.heap.size
 bel:Below B0 w0 W
theorem EdS.wide{wb w0 W:World}{gb B0:Nat}{L:List Ed}(h:EdS wb gb B0 w0 L W):EdW wb gb B0 w0 L W:=⟨h.row,h.lie,fun j _ hj=>h.oth j hj,by rw[h.size];exact Nat.le_refl _,h.bel⟩
theorem EdW.below{wb w0 W W':World}{gb B0:Nat}{L:List Ed}(h:EdW wb gb B0 w0 L W)(hb:Below W.heap.size W W')(hB:B0<=wb.heap.size):EdW wb gb B0 w0 L W':=by
 refine⟨fun e=>?_,?_,fun j hj hjb=>(hb.block j (Nat.lt_of_lt_of_le hj h.size)).trans (h.oth j hj hjb),Nat.le_trans h.size hb.size,h.bel.trans (hb.mono (Nat.le_trans hB h.size))⟩
 ·obtain⟨cur,hc⟩:=h.row e;exact⟨cur,(hb.block gb (Array.getElem?_eq_some_iff.1 hc).1).trans hc⟩
 ·by_cases e:L=[]
  ·subst e;intro j x hx;simp at hx
  ·obtain⟨cur,hc⟩:=h.row e;exact LieE.below h.lie (Array.getElem?_eq_some_iff.1 hc).1 hb
theorem EdW.drew{wb w0 W:World}{gb B0:Nat}{L:List Ed}(h:EdW wb gb B0 w0 L W):EdW wb gb B0 w0 L W.drew:=⟨h.row,h.lie,h.oth,h.size,h.bel.drew⟩
theorem EdW.set{wb w0 W:World}{gb B0:Nat}{L:List Ed}(h:EdW wb gb B0 w0 L W)(hB:B0<=gb)(p:Nat)(hp:p<L.length)(i:Nat)(hi:i<6)(u:Value)(e':Ed)(hc:edCells e'=(edCells L[p]).setIfInBounds i u):EdW wb gb B0 w0 (L.set p e') (W.setCell ⟨gb,p*6+i,none⟩ u):=by
 have h1:=lieE_set h.lie p hp i hi u e' hc;simp only[Nat.zero_add]at h1;refine⟨fun _=>?_,h1,fun j hj hjb=>(heap_setCell_other W _ j _ hjb).trans (h.oth j hj hjb),by simpa using h.size,h.bel.setCell (by exact hB) _⟩;obtain⟨cur,hcur⟩:=h.row (fun e=>by rw[e]at hp;simp at hp);exact⟨_,heap_setCell_same W gb _ _ 31 _ hcur⟩
theorem EdW.cells{wb w0 W:World}{gb B0 p:Nat}{L:List Ed}(h:EdW wb gb B0 w0 L W)(hp:p<L.length):EdAt W gb (p*6) L[p]:=by
 have:=h.lie p _ (List.getElem?_eq_getElem hp);simpa using this
theorem edW_start{w w0:World}{B0 n c:Nat}{b1:Option Addr}{l:List Ed}(h:OwnEd w B0 (.slice b1 n c) l)(hn:n=l.length)(hb:Below B0 w0 w)(hB:B0<=w.heap.size):
  ∃gb,B0<=gb/\(l≠[]->b1=some ⟨gb,0,none⟩/\gb<w.heap.size)/\(l=[]->gb=w.heap.size)/\(∀j cur t,w.heap[j]?=some (.cells cur t (0,0))->t≠31->j≠gb)/\EdW w gb B0 w0 l w/\(∀W L,L.length=n->EdW w gb B0 w0 L W->EL W (.slice b1 n c) L):=by
 by_cases hl:l=[]
 ·subst hl;refine⟨w.heap.size,hB,fun h=>absurd rfl h,fun _=>rfl,fun j cur t h _ e=>?_,⟨fun h=>absurd rfl h,fun j x hx=>by simp at hx,fun _ _ _=>rfl,Nat.le_refl _,hb⟩,fun W L hL _=>?_⟩
  ·subst e;simp at h
  ·have:L=[]:=List.length_eq_zero_iff.1 (by rw[hL,hn];rfl);subst this;exact .inl ⟨rfl,_,_,by rw[hn];rfl⟩
 ·obtain⟨gb,cur,hab,hbb,hcur,hlie⟩:=h.at hl;have hlt:gb<w.heap.size:=(Array.getElem?_eq_some_iff.1 hcur).1;refine⟨gb,hbb,fun _=>⟨hab,hlt⟩,fun e=>absurd e hl,fun j cur2 t h2 ht e=>?_,⟨fun _=>⟨_,hcur⟩,hlie,fun _ _ _=>rfl,Nat.le_refl _,hb⟩,fun W L hL hS=>?_⟩
  ·subst e;rw[hcur]at h2;simp at h2;exact ht h2.2.symm
  ·have hL0:L≠[]:=fun e=>hl (List.length_eq_zero_iff.1 (by rw[<-hn,<-hL,e];rfl));have hcap:n<=c:=by
    obtain⟨_,_,_,e,h,_⟩:=h.EL.own hl;injection e with _ _ e
    rw[e,hn];exact h
   exact .inr ⟨hL0,gb,0,_,by rw[hab,hL],by rw[hL];exact hcap,Nat.lt_of_lt_of_le hlt hS.size,hS.lie⟩
theorem DL.at'{w:World}{a:Option Addr}{n k:Nat}{l:List Int}(h:DL w (.slice a n k) l)(hl:l≠[]):∃eb eo,a=some ⟨eb,eo,none⟩/\eb<w.heap.size/\ ∀W,Below w.heap.size w W-> ∀j (hj:j<l.length),W.cell? ⟨eb,eo+j,none⟩=some (.int .i64 l[j]):=by
 rcases h with⟨h,_⟩|⟨h0,b,o,c',e,h2,h3,h4⟩
 ·exact absurd h hl
 ·injection e with e _ _
  exact⟨b,o,e,h3,fun W BB j hj=>(keep_cell (BB.block b h3)).trans (h4 j _ (List.getElem?_eq_getElem hj))⟩
theorem mv_nil(es:List Ed)(y:Int):es.map (mvE [] y)=es:=by
 have:mvE [] y=id:=by funext e;simp[mvE]
 rw[this,List.map_id]
theorem mv_find(es:List Ed)(a n:Int)(hpos:∀e∈es,0<=e.id)(hn:n∈endsF es a):0<=n/\ ∃(p:Nat) (hp:p<es.length),plI (keysE es) (n / 2)=p/\es[p].id=n / 2:=by
 obtain⟨e,he,h1⟩:=(mem_endsF _ _ _).1 hn;have h0:=hpos e he;have h2:e.id=n / 2:=by rcases h1 with⟨_,h1⟩|⟨_,h1⟩<;>omega
 have hk:n / 2∈keysE es:=mem_keysE.2 ⟨e,he,h2⟩;obtain⟨p,hp,e1,e2⟩:=plI_mem es _ hk;exact⟨by rcases h1 with⟨_,h1⟩|⟨_,h1⟩<;>omega,p,hp,e1,by rw[e2];exact(getE_mem es _ hk).2⟩
theorem actR_8(va vb vc ca cb:Value)(g:Gr)(c:Ch)(B0:Nat)(w0:World)(h1:OwnV w0 B0 va g.vs)(h2:OwnEd w0 B0 vb g.es)(h3:OwnI w0 B0 vc g.ds)(h4:DL w0 ca c.ends)(h5:DL w0 cb c.deps)(hok:Ok g)(hB0:B0<=w0.heap.size)(hl:c.ends.length<=100000/\c.deps.length<=100000)(hk:c.kind=8)(hr:∀n∈c.ends,-9223372036854775808<=n/\n<=9223372036854775807)(hx:∀eb eo n d,ca= .slice (some ⟨eb,eo,none⟩) n d->c.ends≠[]->eb<B0):
  Calls Tryz.prog 58 #[.agg #[va,vb,vc],.agg (chCells c ca cb)] w0 (ActR g c B0 w0):=by
 obtain⟨a1,a2,rfl⟩:=h1.VL.shape;obtain⟨b1,b2,rfl⟩:=h2.EL.shape;obtain⟨c1,c2,rfl⟩:=h3.DL.shape;obtain⟨e1,e2,rfl⟩:=h4.shape;obtain⟨f1,f2,rfl⟩:=h5.shape;have hrh:=Hd hr;have hxh:=Hd (show ∀eb eo,e1=some ⟨eb,eo,none⟩->c.ends≠[]->eb<B0 from fun eb eo h=>hx eb eo _ _ (by rw[h]));clear hr hx;obtain⟨N1,hN1⟩:∃N,Hid (N=g.vs.length):=⟨_,rfl⟩;obtain⟨N2,hN2⟩:∃N,Hid (N=g.es.length):=⟨_,rfl⟩;obtain⟨N3,hN3⟩:∃N,Hid (N=g.ds.length):=⟨_,rfl⟩;obtain⟨m1,hm1⟩:∃N,Hid (N=c.ends.length):=⟨_,rfl⟩;obtain⟨m2,hm2⟩:∃N,Hid (N=c.deps.length):=⟨_,rfl⟩;have z1:=hok.vlen;have z2:=hok.elen;have z3:=hok.dlen;obtain⟨l1,l2⟩:=hl;rw[<-hN1.out]at h1 z1 ⊢;rw[<-hN2.out]at h2 z2 ⊢;rw[<-hN3.out]at h3 z3 ⊢;rw[<-hm1.out]at h4 l1 ⊢;rw[<-hm2.out]at h5 l2 ⊢;unfold chCells;rw[hk];obtain⟨B,w1,hB,hwh,hsz,hB0,hBw,hbox,hcbx,hres,hO1,hO2,hO3,hL4,hL5,hgv,hbase,hT,hR,cP,cF,hlow,hlow3⟩:=act_pre 8 h1 h2 h3 h4 h5 hN1.out hN2.out z1 z2 hB0;have hokh:=Hd hok;have hkh:=Hd hk;have hact:=Hd (show actK g c=act8 g c by unfold actK;simp[hk]);obtain⟨⟨t0,t1,t2⟩,p0,p1,p2,p3,p4,p5,p6,p7,p8,p9,pA,pB,pC⟩:=hT.out w1 (Below.refl _ _);try dsimp only at p0 p1 p2 p3 p4 p5 p6 p7 p8 p9 pA
 clear h1 h2 h3 h4 h5 hok hk;go_enter Tryz.func58,Tryz.ntmps58;go_wp2_with fail;rw[<-hwh.out,<-hB.out];with_reducible refine(cP.out w1 (Below.refl _ _)).mono ?_
 rintro e w2 ⟨rfl,k2⟩;have K2:=Hd k2;clear k2 t0 t1 t2 p0 p1 p2 p3 p4 p5 p6 p7 p8 p9 pA pB pC;obtain⟨⟨t0,t1,t2⟩,p0,p1,p2,p3,p4,p5,p6,p7,p8,p9,pA,pB,pC⟩:=hT.out w2 K2.out;try dsimp only at p0 p1 p2 p3 p4 p5 p6 p7 p8 p9 pA
 go_wp2_with fail;with_reducible refine(cF.out w2 K2.out).mono ?_
 rintro e w3 ⟨rfl,k3⟩;have K3:=Hd (K2.out.trans (k3.mono K2.out.size));clear k3 K2 t0 t1 t2 p0 p1 p2 p3 p4 p5 p6 p7 p8 p9 pA pB pC;obtain⟨⟨t0,t1,t2⟩,p0,p1,p2,p3,p4,p5,p6,p7,p8,p9,pA,pB,pC⟩:=hT.out w3 K3.out;try dsimp only at p0 p1 p2 p3 p4 p5 p6 p7 p8 p9 pA
 have hnoB:=Hd (show ∀W,Below w1.heap.size w1 W->BelK B0 w0 (W.setRow (B+2) #[.slice a1 N1 a2,.slice b1 N2 b2,.slice c1 N3 c2])from fun W BB=>belK_no hBw.out hB.out hB0 (by omega) BB _);generalize plI (keysE g.es) c.id=P2 at *
 have hEC:=Hd (show c.ends≠[]-> ∃eb eo,e1=some ⟨eb,eo,none⟩/\ ∀W,Below w1.heap.size w1 W-> ∀j (hj:j<c.ends.length),W.cell? ⟨eb,eo+j,none⟩=some (.int .i64 c.ends[j])from fun h=>by
  obtain⟨eb,eo,h1,_,h2⟩:=(hL4.out w1 (Below.refl _ _)).at' h;exact⟨eb,eo,h1,h2⟩)
 have cE:=Hd (show ∀W n,n∈c.ends->Below w1.heap.size w1 W->Calls Tryz.prog 48 #[.agg #[.slice a1 N1 a2,.slice b1 N2 b2,.slice c1 N3 c2],.int .i64 n] W fun e w'=>e= .returned (.int .i64 (endV g.es n))/\Below w1.heap.size w1 w' from fun W n hn BB=>(EndR_any _ g n W (hgv.out W BB) (by rw[<-hN2.out];omega) (hrh.out n hn).1 (hrh.out n hn).2).mono fun e w' h=>⟨h.1,BB.trans (h.2.mono BB.size)⟩);obtain⟨P1,hP1⟩:∃P,Hid (P=plI (keysV g.vs) c.id):=⟨_,rfl⟩;rw[<-hP1.out];go_wp2_with fail
 go_loopw [12] (fun i wr=>∃k:Nat,k<=m1/\i= .int .i64 k/\Hid (Below w1.heap.size w1 wr)/\Hid (∀j (hj:j<c.ends.length),j<k->endV g.es c.ends[j]=c.id/\ ∀h0:0<j,c.ends[j-1]<c.ends[j])) (fun i _=>m1-(intOf i).toNat)
 case atStart=>exact⟨0,by omega,rfl,K3.out,fun j _ h=>by omega⟩
 case round =>
 clear t0 t1 t2 p0 p1 p2 p3 p4 p5 p6 p7 p8 p9 pA pB pC;obtain⟨k,hk,rfl,kr,hpass⟩:=hrel;have k0:(0:Int)<=(k:Int):=by omega
 by_cases hlt:k<m1
 ·have k1:(k:Int)<(m1:Int):=by omega
  have hlE:k<c.ends.length:=by rw[<-hm1.out];exact hlt
  obtain⟨eb,eo,he1,hcl⟩:=hEC.out (fun e=>by rw[e]at hlE;simp at hlE);obtain⟨x,hx,cx,cEx⟩:∃x,Hid (∀hk:k<c.ends.length,c.ends[k]=x)/\Hid (∀W,Below w1.heap.size w1 W->W.cell? ⟨eb,eo+k,none⟩=some (.int .i64 x))/\Hid (∀W,Below w1.heap.size w1 W->Calls Tryz.prog 48 #[.agg #[.slice a1 N1 a2,.slice b1 N2 b2,.slice c1 N3 c2],.int .i64 x] W fun e w'=>e= .returned (.int .i64 (endV g.es x))/\Below w1.heap.size w1 w') :=
   ⟨c.ends[k],fun _=>rfl,fun W BB=>hcl W BB k hlE,fun W BB=>cE.out W _ (List.getElem_mem hlE) BB⟩
  subst he1;have hlEh:=Hd hlE;by_cases hv:endV g.es x=c.id;rotate_left
  ·have hno:Hid (act8 g c=none):=act8_no g c hokh.out k hlE (.inl (by rw[hx.out];exact hv));obtain⟨V,hV⟩:∃V,Hid (V=endV g.es x):=⟨_,rfl⟩;rw[<-hV.out]at cEx hv;have q1:(V==c.id)=false:=by simpa using hv
   have q2:(V != c.id)=true:=by simpa using hv
   have q3:decide (V=c.id)=false:=decide_eq_false hv;clear hcl hv hlE hlt;obtain⟨⟨t0,t1,t2⟩,p0,p1,p2,p3,p4,p5,p6,p7,p8,p9,pA,pB,pC⟩:=hT.out wr kr.out;try dsimp only at p0 p1 p2 p3 p4 p5 p6 p7 p8 p9 pA
   go_upto_region 49 with(fail);clear t0 t1 t2 p0 p1 p2 p3 p4 p5 p6 p7 p8 p9 pA pB pC;refine q_region (fun W=>Below w1.heap.size w1 W) (by kernel_rfl) (by kernel_rfl) (kr.out.drew) ?_;iterate 6 (refine q_take (v:=?_) (by rfl) ?_ ?_;rotate_left;(first|((intro w h;go_simp)<;>with_reducible rfl)|((intro w h;obtain⟨⟨t0,t1,t2⟩,p0,p1,p2,p3,p4,p5,p6,p7,p8,p9,pA,pB,pC⟩:=hT.out w h;(try dsimp only at p9);have cx1:=cx.out w h;go_simp)<;>with_reducible rfl));try simp only[Act.put,zT,z0,zS])
   refine q_call (v:= .int .i64 V) Tryz.f48 (by rfl) rfl Tryz.func48 (by kernel_rfl) (by kernel_rfl) #[.agg #[.slice a1 N1 a2,.slice b1 N2 b2,.slice c1 N3 c2],.int .i64 x] (by simp[Act.eval]) (fun w hSw=>cEx.out w hSw) ?_;try simp only[Act.put,zT,z0,zS]
   refine q_take (v:=?_) (by rfl) ?_ ?_;rotate_left
   ·((intro w hSw;go_simp)<;>with_reducible rfl)
   try simp only[Act.put,zT,z0,zS]
   refine q_take (v:=?_) (by rfl) ?_ ?_;rotate_left
   ·((intro w hSw;obtain⟨⟨t0,t1,t2⟩,p0,p1,p2,p3,p4,p5,p6,p7,p8,p9,pA,pB,pC⟩:=hT.out w hSw;(try dsimp only at p9);have cx1:=cx.out w hSw;go_simp)<;>with_reducible rfl)
   try simp only[Act.put,zT,z0,zS]
   refine q_take (v:= .bool true) (by rfl) (fun w hSw=>?_) ?_
   ·first|(go_simp;done)|(go_simp<;>go_num)|(go_simp;rw[q4])|(go_simp;rw[q4];go_simp)|(go_simp;simp[q4])|(go_simp;exact IntWalk.i64_in _ (by omega))
   try simp only[Act.put,zT,z0,zS]
   iterate 17 (first|(refine q_skip (by rfl) ?_;try simp only[Act.put,zT,z0,zS])|(refine q_take (v:=?_) (by rfl) ?_ ?_;rotate_left;(first|((intro w h;go_simp)<;>with_reducible rfl));try simp only[Act.put,zT,z0,zS]))
   refine q_take (v:= .bool true) (by rfl) (fun w hSw=>?_) ?_
   ·first|(go_simp;done)|(go_simp<;>go_num)|(go_simp;rw[q4])|(go_simp;rw[q4];go_simp)|(go_simp;simp[q4])|(go_simp;exact IntWalk.i64_in _ (by omega))
   try simp only[Act.put,zT,z0,zS]
   refine q_nil ?_;intro wq kq;have kq1:=Hd kq;clear kq;obtain⟨⟨t0,t1,t2⟩,p0,p1,p2,p3,p4,p5,p6,p7,p8,p9,pA,pB,pC⟩:=hT.out wq kq1.out;try dsimp only at p0 p1 p2 p3 p4 p5 p6 p7 p8 p9 pA
   have r8:=Hd (hR.out wq kq1.out);have hf:=Hd (hnoB.out wq kq1.out);go_upto_region 50 with(fail)
   go_wp2_with (refine wpList_store_row rfl 26 (.tmp 4) (.tmp 288) rfl (B+2) #[.slice a1 N1 a2,.slice b1 N2 b2,.slice c1 N3 c2] rfl rfl 26 _ r8.out (size26b _ _ _) rfl (by simp[Value.oneCell']) ?_)
   refine bodyPost_ret (results_cell_tmp_row (fn:=Tryz.f58) rfl _ _ (B+2) 26 #[.slice a1 N1 a2,.slice b1 N2 b2,.slice c1 N3 c2] (0,0) _ _ rfl rfl (setRow_heap _ _ _ _ _ _ r8.out) Tryz.underlying26 rfl (size26b _ _ _)) rfl ?_;exact ActR.no (by rw[hact.out];exact hno.out) rfl hf.out
  ·rw[hv]at cEx;by_cases hk0:0<k;rotate_left
   ·have q2:¬(0:Int)<(k:Int):=by omega
    have q3:decide ((0:Int)<(k:Int))=false:=decide_eq_false q2;have hp2:Hid (∀j (hj:j<c.ends.length),j<k+1->endV g.es c.ends[j]=c.id/\ ∀h0:0<j,c.ends[j-1]<c.ends[j]):=fun j hj hjk=>by
     have:j=k:=by omega
     subst this;exact⟨by rw[hx.out];exact hv,fun h0=>absurd h0 hk0⟩
    clear hcl hv hlE hk0;obtain⟨⟨t0,t1,t2⟩,p0,p1,p2,p3,p4,p5,p6,p7,p8,p9,pA,pB,pC⟩:=hT.out wr kr.out;try dsimp only at p0 p1 p2 p3 p4 p5 p6 p7 p8 p9 pA
    go_upto_region 49 with(fail);clear t0 t1 t2 p0 p1 p2 p3 p4 p5 p6 p7 p8 p9 pA pB pC;refine q_region (fun W=>Below w1.heap.size w1 W) (by kernel_rfl) (by kernel_rfl) (kr.out.drew) ?_;iterate 6 (refine q_take (v:=?_) (by rfl) ?_ ?_;rotate_left;(first|((intro w h;go_simp)<;>with_reducible rfl)|((intro w h;obtain⟨⟨t0,t1,t2⟩,p0,p1,p2,p3,p4,p5,p6,p7,p8,p9,pA,pB,pC⟩:=hT.out w h;(try dsimp only at p9);have cx1:=cx.out w h;go_simp)<;>with_reducible rfl));try simp only[Act.put,zT,z0,zS])
    refine q_call (v:= .int .i64 c.id) Tryz.f48 (by rfl) rfl Tryz.func48 (by kernel_rfl) (by kernel_rfl) #[.agg #[.slice a1 N1 a2,.slice b1 N2 b2,.slice c1 N3 c2],.int .i64 x] (by simp[Act.eval]) (fun w hSw=>cEx.out w hSw) ?_;try simp only[Act.put,zT,z0,zS]
    refine q_take (v:=?_) (by rfl) ?_ ?_;rotate_left
    ·((intro w hSw;go_simp)<;>with_reducible rfl)
    try simp only[Act.put,zT,z0,zS]
    refine q_take (v:=?_) (by rfl) ?_ ?_;rotate_left
    ·((intro w hSw;obtain⟨⟨t0,t1,t2⟩,p0,p1,p2,p3,p4,p5,p6,p7,p8,p9,pA,pB,pC⟩:=hT.out w hSw;(try dsimp only at p9);have cx1:=cx.out w hSw;go_simp)<;>with_reducible rfl)
    try simp only[Act.put,zT,z0,zS]
    refine q_take (v:= .bool false) (by rfl) (fun w hSw=>?_) ?_
    ·first|(go_simp;done)|(go_simp<;>go_num)|(go_simp;rw[q4])|(go_simp;rw[q4];go_simp)|(go_simp;simp[q4])|(go_simp;exact IntWalk.i64_in _ (by omega))
    try simp only[Act.put,zT,z0,zS]
    refine q_take (v:=?_) (by rfl) ?_ ?_;rotate_left
    ·((intro w hSw;go_simp)<;>with_reducible rfl)
    try simp only[Act.put,zT,z0,zS]
    refine q_take (v:=?_) (by rfl) ?_ ?_;rotate_left
    ·((intro w hSw;go_simp)<;>with_reducible rfl)
    try simp only[Act.put,zT,z0,zS]
    refine q_take (v:= .bool false) (by rfl) (fun w hSw=>?_) ?_
    ·first|(go_simp;done)|(go_simp<;>go_num)|(go_simp;rw[q4])|(go_simp;rw[q4];go_simp)|(go_simp;simp[q4])|(go_simp;exact IntWalk.i64_in _ (by omega))
    try simp only[Act.put,zT,z0,zS]
    iterate 13 (first|(refine q_skip (by rfl) ?_;try simp only[Act.put,zT,z0,zS])|(refine q_take (v:=?_) (by rfl) ?_ ?_;rotate_left;(first|((intro w h;go_simp)<;>with_reducible rfl));try simp only[Act.put,zT,z0,zS]))
    refine q_take (v:= .bool false) (by rfl) (fun w hSw=>?_) ?_
    ·first|(go_simp;done)|(go_simp<;>go_num)|(go_simp;rw[q4])|(go_simp;rw[q4];go_simp)|(go_simp;simp[q4])|(go_simp;exact IntWalk.i64_in _ (by omega))
    try simp only[Act.put,zT,z0,zS]
    refine q_take (v:= .bool false) (by rfl) (fun w hSw=>?_) ?_
    ·first|(go_simp;done)|(go_simp<;>go_num)|(go_simp;rw[q4])|(go_simp;rw[q4];go_simp)|(go_simp;simp[q4])|(go_simp;exact IntWalk.i64_in _ (by omega))
    try simp only[Act.put,zT,z0,zS]
    refine q_nil ?_;intro wq kq;have kq1:=Hd kq;clear kq;go_wp2_with fail
    go_roundw
    case rel=>exact⟨k+1,by omega,by go_num,kq1.out,hp2.out⟩
    case measure=>simp[intOf];omega
   ·obtain⟨kp,hkp⟩:∃kp,Hid (k=kp+1):=⟨k-1,Hd (by omega)⟩;obtain⟨y,hy,cy⟩:∃y,Hid (∀hk:k-1<c.ends.length,c.ends[k-1]=y)/\Hid (∀W,Below w1.heap.size w1 W->W.cell? ⟨eb,eo+kp,none⟩=some (.int .i64 y)) :=
     ⟨c.ends[k-1],fun _=>rfl,fun W BB=>by have h:=hcl W BB (k-1) (by omega);rw[show kp=k-1 by have:=hkp.out;omega];exact h⟩
    have q2:(0:Int)<(k:Int):=by omega
    have q3:decide ((0:Int)<(k:Int))=true:=decide_eq_true q2;have q4:(k:Int)-1=(kp:Int):=by have:=hkp.out;omega
    have q5:(0:Int)<=(kp:Int):=by omega
    have q6:(kp:Int)<(m1:Int):=by omega
    by_cases hle:x<=y
    ·have hno:Hid (act8 g c=none):=act8_no g c hokh.out k hlE (.inr ⟨hk0,by rw[hx.out,hy.out];omega⟩);have q7:decide (x<=y)=true:=decide_eq_true hle;clear hcl hv hlE hk0;obtain⟨⟨t0,t1,t2⟩,p0,p1,p2,p3,p4,p5,p6,p7,p8,p9,pA,pB,pC⟩:=hT.out wr kr.out;try dsimp only at p0 p1 p2 p3 p4 p5 p6 p7 p8 p9 pA
     go_upto_region 49 with(fail);clear t0 t1 t2 p0 p1 p2 p3 p4 p5 p6 p7 p8 p9 pA pB pC;refine q_region (fun W=>Below w1.heap.size w1 W) (by kernel_rfl) (by kernel_rfl) (kr.out.drew) ?_;iterate 6 (refine q_take (v:=?_) (by rfl) ?_ ?_;rotate_left;(first|((intro w h;go_simp)<;>with_reducible rfl)|((intro w h;obtain⟨⟨t0,t1,t2⟩,p0,p1,p2,p3,p4,p5,p6,p7,p8,p9,pA,pB,pC⟩:=hT.out w h;(try dsimp only at p9);have cx1:=cx.out w h;have cy1:=cy.out w h;go_simp)<;>with_reducible rfl));try simp only[Act.put,zT,z0,zS])
     refine q_call (v:= .int .i64 c.id) Tryz.f48 (by rfl) rfl Tryz.func48 (by kernel_rfl) (by kernel_rfl) #[.agg #[.slice a1 N1 a2,.slice b1 N2 b2,.slice c1 N3 c2],.int .i64 x] (by simp[Act.eval]) (fun w hSw=>cEx.out w hSw) ?_;try simp only[Act.put,zT,z0,zS]
     refine q_take (v:=?_) (by rfl) ?_ ?_;rotate_left
     ·((intro w hSw;go_simp)<;>with_reducible rfl)
     try simp only[Act.put,zT,z0,zS]
     refine q_take (v:=?_) (by rfl) ?_ ?_;rotate_left
     ·((intro w hSw;obtain⟨⟨t0,t1,t2⟩,p0,p1,p2,p3,p4,p5,p6,p7,p8,p9,pA,pB,pC⟩:=hT.out w hSw;(try dsimp only at p9);have cx1:=cx.out w hSw;have cy1:=cy.out w hSw;go_simp)<;>with_reducible rfl)
     try simp only[Act.put,zT,z0,zS]
     refine q_take (v:= .bool false) (by rfl) (fun w hSw=>?_) ?_
     ·first|(go_simp;done)|(go_simp<;>go_num)|(go_simp;rw[q4])|(go_simp;rw[q4];go_simp)|(go_simp;simp[q4])|(go_simp;exact IntWalk.i64_in _ (by omega))
     try simp only[Act.put,zT,z0,zS]
     refine q_take (v:=?_) (by rfl) ?_ ?_;rotate_left
     ·((intro w hSw;go_simp)<;>with_reducible rfl)
     try simp only[Act.put,zT,z0,zS]
     refine q_take (v:=?_) (by rfl) ?_ ?_;rotate_left
     ·((intro w hSw;go_simp)<;>with_reducible rfl)
     try simp only[Act.put,zT,z0,zS]
     refine q_take (v:= .bool true) (by rfl) (fun w hSw=>?_) ?_
     ·first|(go_simp;done)|(go_simp<;>go_num)|(go_simp;rw[q4])|(go_simp;rw[q4];go_simp)|(go_simp;simp[q4])|(go_simp;exact IntWalk.i64_in _ (by omega))
     try simp only[Act.put,zT,z0,zS]
     iterate 9 (refine q_take (v:=?_) (by rfl) ?_ ?_;rotate_left;(first|((intro w h;go_simp)<;>with_reducible rfl)|((intro w h;obtain⟨⟨t0,t1,t2⟩,p0,p1,p2,p3,p4,p5,p6,p7,p8,p9,pA,pB,pC⟩:=hT.out w h;(try dsimp only at p9);have cx1:=cx.out w h;have cy1:=cy.out w h;go_simp)<;>with_reducible rfl));try simp only[Act.put,zT,z0,zS])
     refine q_take (v:= .int .i64 (kp:Int)) (by rfl) (fun w hSw=>?_) ?_
     ·first|(go_simp;done)|(go_simp<;>go_num)|(go_simp;rw[q4])|(go_simp;rw[q4];go_simp)|(go_simp;simp[q4])|(go_simp;exact IntWalk.i64_in _ (by omega))
     try simp only[Act.put,zT,z0,zS]
     iterate 5 (refine q_take (v:=?_) (by rfl) ?_ ?_;rotate_left;(first|((intro w h;go_simp)<;>with_reducible rfl)|((intro w h;obtain⟨⟨t0,t1,t2⟩,p0,p1,p2,p3,p4,p5,p6,p7,p8,p9,pA,pB,pC⟩:=hT.out w h;(try dsimp only at p9);have cx1:=cx.out w h;have cy1:=cy.out w h;go_simp)<;>with_reducible rfl));try simp only[Act.put,zT,z0,zS])
     refine q_nil ?_;intro wq kq;have kq1:=Hd kq;clear kq;obtain⟨⟨t0,t1,t2⟩,p0,p1,p2,p3,p4,p5,p6,p7,p8,p9,pA,pB,pC⟩:=hT.out wq kq1.out;try dsimp only at p0 p1 p2 p3 p4 p5 p6 p7 p8 p9 pA
     have r8:=Hd (hR.out wq kq1.out);have hf:=Hd (hnoB.out wq kq1.out);go_upto_region 50 with(fail)
     go_wp2_with (refine wpList_store_row rfl 26 (.tmp 4) (.tmp 288) rfl (B+2) #[.slice a1 N1 a2,.slice b1 N2 b2,.slice c1 N3 c2] rfl rfl 26 _ r8.out (size26b _ _ _) rfl (by simp[Value.oneCell']) ?_)
     refine bodyPost_ret (results_cell_tmp_row (fn:=Tryz.f58) rfl _ _ (B+2) 26 #[.slice a1 N1 a2,.slice b1 N2 b2,.slice c1 N3 c2] (0,0) _ _ rfl rfl (setRow_heap _ _ _ _ _ _ r8.out) Tryz.underlying26 rfl (size26b _ _ _)) rfl ?_;exact ActR.no (by rw[hact.out];exact hno.out) rfl hf.out
    ·have q7:decide (x<=y)=false:=decide_eq_false hle;have hp2:Hid (∀j (hj:j<c.ends.length),j<k+1->endV g.es c.ends[j]=c.id/\ ∀h0:0<j,c.ends[j-1]<c.ends[j]):=fun j hj hjk=>by
      by_cases e:j=k
      ·subst e;exact⟨by rw[hx.out];exact hv,fun h0=>by rw[hx.out,hy.out];omega⟩
      ·exact hpass.out j hj (by omega)
     clear hcl hv hlE hk0;obtain⟨⟨t0,t1,t2⟩,p0,p1,p2,p3,p4,p5,p6,p7,p8,p9,pA,pB,pC⟩:=hT.out wr kr.out;try dsimp only at p0 p1 p2 p3 p4 p5 p6 p7 p8 p9 pA
     go_upto_region 49 with(fail);clear t0 t1 t2 p0 p1 p2 p3 p4 p5 p6 p7 p8 p9 pA pB pC;refine q_region (fun W=>Below w1.heap.size w1 W) (by kernel_rfl) (by kernel_rfl) (kr.out.drew) ?_;iterate 6 (refine q_take (v:=?_) (by rfl) ?_ ?_;rotate_left;(first|((intro w h;go_simp)<;>with_reducible rfl)|((intro w h;obtain⟨⟨t0,t1,t2⟩,p0,p1,p2,p3,p4,p5,p6,p7,p8,p9,pA,pB,pC⟩:=hT.out w h;(try dsimp only at p9);have cx1:=cx.out w h;have cy1:=cy.out w h;go_simp)<;>with_reducible rfl));try simp only[Act.put,zT,z0,zS])
     refine q_call (v:= .int .i64 c.id) Tryz.f48 (by rfl) rfl Tryz.func48 (by kernel_rfl) (by kernel_rfl) #[.agg #[.slice a1 N1 a2,.slice b1 N2 b2,.slice c1 N3 c2],.int .i64 x] (by simp[Act.eval]) (fun w hSw=>cEx.out w hSw) ?_;try simp only[Act.put,zT,z0,zS]
     refine q_take (v:=?_) (by rfl) ?_ ?_;rotate_left
     ·((intro w hSw;go_simp)<;>with_reducible rfl)
     try simp only[Act.put,zT,z0,zS]
     refine q_take (v:=?_) (by rfl) ?_ ?_;rotate_left
     ·((intro w hSw;obtain⟨⟨t0,t1,t2⟩,p0,p1,p2,p3,p4,p5,p6,p7,p8,p9,pA,pB,pC⟩:=hT.out w hSw;(try dsimp only at p9);have cx1:=cx.out w hSw;have cy1:=cy.out w hSw;go_simp)<;>with_reducible rfl)
     try simp only[Act.put,zT,z0,zS]
     refine q_take (v:= .bool false) (by rfl) (fun w hSw=>?_) ?_
     ·first|(go_simp;done)|(go_simp<;>go_num)|(go_simp;rw[q4])|(go_simp;rw[q4];go_simp)|(go_simp;simp[q4])|(go_simp;exact IntWalk.i64_in _ (by omega))
     try simp only[Act.put,zT,z0,zS]
     refine q_take (v:=?_) (by rfl) ?_ ?_;rotate_left
     ·((intro w hSw;go_simp)<;>with_reducible rfl)
     try simp only[Act.put,zT,z0,zS]
     refine q_take (v:=?_) (by rfl) ?_ ?_;rotate_left
     ·((intro w hSw;go_simp)<;>with_reducible rfl)
     try simp only[Act.put,zT,z0,zS]
     refine q_take (v:= .bool true) (by rfl) (fun w hSw=>?_) ?_
     ·first|(go_simp;done)|(go_simp<;>go_num)|(go_simp;rw[q4])|(go_simp;rw[q4];go_simp)|(go_simp;simp[q4])|(go_simp;exact IntWalk.i64_in _ (by omega))
     try simp only[Act.put,zT,z0,zS]
     iterate 9 (refine q_take (v:=?_) (by rfl) ?_ ?_;rotate_left;(first|((intro w h;go_simp)<;>with_reducible rfl)|((intro w h;obtain⟨⟨t0,t1,t2⟩,p0,p1,p2,p3,p4,p5,p6,p7,p8,p9,pA,pB,pC⟩:=hT.out w h;(try dsimp only at p9);have cx1:=cx.out w h;have cy1:=cy.out w h;go_simp)<;>with_reducible rfl));try simp only[Act.put,zT,z0,zS])
     refine q_take (v:= .int .i64 (kp:Int)) (by rfl) (fun w hSw=>?_) ?_
     ·first|(go_simp;done)|(go_simp<;>go_num)|(go_simp;rw[q4])|(go_simp;rw[q4];go_simp)|(go_simp;simp[q4])|(go_simp;exact IntWalk.i64_in _ (by omega))
     try simp only[Act.put,zT,z0,zS]
     iterate 5 (refine q_take (v:=?_) (by rfl) ?_ ?_;rotate_left;(first|((intro w h;go_simp)<;>with_reducible rfl)|((intro w h;obtain⟨⟨t0,t1,t2⟩,p0,p1,p2,p3,p4,p5,p6,p7,p8,p9,pA,pB,pC⟩:=hT.out w h;(try dsimp only at p9);have cx1:=cx.out w h;have cy1:=cy.out w h;go_simp)<;>with_reducible rfl));try simp only[Act.put,zT,z0,zS])
     refine q_nil ?_;intro wq kq;have kq1:=Hd kq;clear kq;go_wp2_with fail
     go_roundw
     case rel=>exact⟨k+1,by omega,by go_num,kq1.out,hp2.out⟩
     case measure=>simp[intOf];omega
 ·have hk2:k=m1:=by omega
  subst hk2;have k1:¬((k:Nat):Int)<(k:Int):=by omega
  have hall:=Hd (show ∀j (hj:j<c.ends.length),endV g.es c.ends[j]=c.id/\ ∀h0:0<j,c.ends[j-1]<c.ends[j]from fun j hj=>hpass.out j hj (by rw[hm1.out];exact hj));clear hpass;have cW:=Hd (withVertexR_own (.slice a1 N1 a2) (.slice b1 N2 b2) (.slice c1 N3 c2) g c.v wr (OwnV.VL (hO1.out wr kr.out)) (OwnEd.EL (hO2.out wr kr.out)) (OwnI.DL (hO3.out wr kr.out)) hokh.out.vasc (by rw[<-hN1.out];omega));obtain⟨⟨t0,t1,t2⟩,p0,p1,p2,p3,p4,p5,p6,p7,p8,p9,pA,pB,pC⟩:=hT.out wr kr.out;try dsimp only at p0 p1 p2 p3 p4 p5 p6 p7 p8 p9 pA
  go_wp2_with fail;with_reducible refine cW.out.mono ?_
  rintro e w4 ⟨xv,hcond,⟨x1,y1,x2,rfl⟩,b4⟩;have K4:=Hd (kr.out.trans (b4.mono kr.out.size));have K4s:=K4.out.size;have hwr4:wr.heap.size<=w4.heap.size:=b4.size;clear b4 cW;clear t0 t1 t2 p0 p1 p2 p3 p4 p5 p6 p7 p8 p9 pA pB pC;by_cases hc:(c.v.ok&&!decide (c.v.id∈keysV g.vs))=true;rotate_left
  ·rw[if_neg hc]at hcond;subst hcond;have hno:=Hd (show act8 g c=none by
    unfold act8;rw[if_neg];intro h;rw[Bool.and_eq_true,Bool.and_eq_true]at h;exact hc h.1.2)
   clear hc;go_upto_region 52 with(fail);obtain⟨w5,hw5⟩:∃W,W=w4.alloc (.cells #[.slice x1 y1 x2,.slice b1 N2 b2,.slice c1 N3 c2] 26):=⟨_,rfl⟩;rw[<-hw5];obtain⟨bb,hpw0⟩:=box_new hw5;have hpw:=Hd hpw0;have K5:=Hd (K4.out.trans (bb.mono K4s));have K5s:=K5.out.size;have hw45:w4.heap.size<w5.heap.size:=by rw[hw5];simp
   have bbh:=Hd bb;clear hw5 hpw0 bb;obtain⟨⟨t0,t1,t2⟩,p0,p1,p2,p3,p4,p5,p6,p7,p8,p9,pA,pB,pC⟩:=hT.out w5 K5.out;try dsimp only at p0 p1 p2 p3 p4 p5 p6 p7 p8 p9 pA
   have r8:=Hd (hR.out w5 K5.out);have hf:=Hd (hnoB.out w5 K5.out);by_cases hm:P1<0
   ·have s1:decide (P1<0)=true:=decide_eq_true hm;go_upto_region 53 with(fail)
    go_wp2_with (refine wpList_store_row rfl 26 (.tmp 4) (.tmp 302) rfl (B+2) #[.slice a1 N1 a2,.slice b1 N2 b2,.slice c1 N3 c2] rfl rfl 26 _ r8.out (size26b _ _ _) rfl (by simp[Value.oneCell']) ?_)
    refine bodyPost_ret (results_cell_tmp_row (fn:=Tryz.f58) rfl _ _ (B+2) 26 #[.slice a1 N1 a2,.slice b1 N2 b2,.slice c1 N3 c2] (0,0) _ _ rfl rfl (setRow_heap _ _ _ _ _ _ r8.out) Tryz.underlying26 rfl (size26b _ _ _)) rfl ?_;exact ActR.no (by rw[hact.out];exact hno.out) rfl hf.out
   ·have s1:decide (P1<0)=false:=decide_eq_false hm;go_upto_region 53 with(fail)
    go_wp2_with (refine wpList_store_row rfl 26 (.tmp 4) (.tmp 302) rfl (B+2) #[.slice a1 N1 a2,.slice b1 N2 b2,.slice c1 N3 c2] rfl rfl 26 _ r8.out (size26b _ _ _) rfl (by simp[Value.oneCell']) ?_)
    refine bodyPost_ret (results_cell_tmp_row (fn:=Tryz.f58) rfl _ _ (B+2) 26 #[.slice a1 N1 a2,.slice b1 N2 b2,.slice c1 N3 c2] (0,0) _ _ rfl rfl (setRow_heap _ _ _ _ _ _ r8.out) Tryz.underlying26 rfl (size26b _ _ _)) rfl ?_;exact ActR.no (by rw[hact.out];exact hno.out) rfl hf.out
  ·rw[if_pos hc]at hcond;obtain⟨rfl,hxv,hxo⟩:=hcond;have hxvh:=Hd hxv;have hxoh:=Hd hxo;have hge:=Hd (show RowGe B0 (.slice x1 y1 x2)/\RowGe B0 (.slice b1 N2 b2)/\RowGe B0 (.slice c1 N3 c2)from⟨fun j hj=>by have:=hxo j hj;have:=kr.out.size;have:=hBw.out.size;omega,own_ge (hO2.out w1 (Below.refl _ _)),own_ge (hO3.out w1 (Below.refl _ _))⟩);have hch:=Hd hc;clear hxv hxo hc;go_upto_region 52 with(fail);obtain⟨w5,hw5⟩:∃W,W=w4.alloc (.cells #[.slice x1 y1 x2,.slice b1 N2 b2,.slice c1 N3 c2] 26):=⟨_,rfl⟩;rw[<-hw5];obtain⟨bb,hpw0⟩:=box_new hw5;have hpw:=Hd hpw0;have K5:=Hd (K4.out.trans (bb.mono K4s));have K5s:=K5.out.size;have hw45:w4.heap.size<w5.heap.size:=by rw[hw5];simp
   have bbh:=Hd bb;clear hw5 hpw0 bb;obtain⟨⟨t0,t1,t2⟩,p0,p1,p2,p3,p4,p5,p6,p7,p8,p9,pA,pB,pC⟩:=hT.out w5 K5.out;try dsimp only at p0 p1 p2 p3 p4 p5 p6 p7 p8 p9 pA
   have r8:=Hd (hR.out w5 K5.out);have hf:=Hd (hnoB.out w5 K5.out);by_cases hm:c.id∈keysV g.vs;rotate_left
   ·have hno:=Hd (show act8 g c=none by unfold act8;simp[hm]);have hm1':P1= -1:=by rw[hP1.out];exact plI_no _ _ hm
    have hm2':P1<0:=by omega
    have s1:decide (P1<0)=true:=decide_eq_true hm2';clear hm hm1' ;go_upto_region 53 with(fail)
    go_wp2_with (refine wpList_store_row rfl 26 (.tmp 4) (.tmp 302) rfl (B+2) #[.slice a1 N1 a2,.slice b1 N2 b2,.slice c1 N3 c2] rfl rfl 26 _ r8.out (size26b _ _ _) rfl (by simp[Value.oneCell']) ?_)
    refine bodyPost_ret (results_cell_tmp_row (fn:=Tryz.f58) rfl _ _ (B+2) 26 #[.slice a1 N1 a2,.slice b1 N2 b2,.slice c1 N3 c2] (0,0) _ _ rfl rfl (setRow_heap _ _ _ _ _ _ r8.out) Tryz.underlying26 rfl (size26b _ _ _)) rfl ?_;exact ActR.no (by rw[hact.out];exact hno.out) rfl hf.out
   ·have hends:=Hd (act8_pass g c hokh.out hm hall.out);have hyes:=Hd (show(act8 g c).map (·.1)=some {g with vs:=insV g.vs c.v,es:=g.es.map (mvE c.ends c.v.id)}by
     unfold act8;rw[if_pos (by rw[Bool.and_eq_true,Bool.and_eq_true];exact⟨⟨by simpa using hm,hch.out⟩,hends.out⟩)];rfl)
    have hin:=Hd (show ∀n∈c.ends,n∈endsF g.es c.id by
     have h:=hends.out;rw[Bool.and_eq_true,List.all_eq_true]at h;exact fun n hn=>by simpa using h.2 n hn)
    have hmp:¬P1<0:=by
     obtain⟨p,_,hpe,_⟩:=plV_mem g.vs c.id hm;rw[hP1.out,hpe];omega
    have s1:decide (P1<0)=false:=decide_eq_false hmp;obtain⟨gb,hgb,hb1,hb0,hgne,hS0,hSE⟩:=edW_start (hO2.out w5 K5.out) hN2.out (hbase.out w5 K5.out) (by have:=hBw.out.size;omega);have hn26:=Hd (show ∀cs,w5.heap[gb]?≠some (.cells cs 26 (0,0))from fun cs e=>hgne _ _ _ e (by decide) rfl);have nB:B≠gb:=hgne _ _ _ ((K5.out.block B (by omega)).trans hbox.out) (by decide);have nC:B+1≠gb:=hgne _ _ _ ((K5.out.block (B+1) (by omega)).trans hcbx.out) (by decide);have nR:B+2≠gb:=hgne _ _ _ (hR.out w5 K5.out) (by decide);have nQ:w4.heap.size≠gb:=hgne _ _ _ (hpw.out w5 (Below.refl _ _)) (by decide);have hB5:B0<=w5.heap.size:=by have:=hBw.out.size;omega
    have hSh:=Hd hS0;have hEh:=Hd hSE;have hTS:=Hd (show ∀W L,EdW w5 gb B0 w0 L W->_/\_ from fun W L h=>And.intro (box3 ((h.oth w4.heap.size (by omega) nQ).trans (hpw.out w5 (Below.refl _ _)))) (ch_cells (c:={c with kind:=8}) (a:= .slice e1 k e2) (b:= .slice f1 m2 f2) ((h.oth (B+1) (by omega) nC).trans ((K5.out.block (B+1) (by omega)).trans hcbx.out))));have hRS:=Hd (show ∀W L,EdW w5 gb B0 w0 L W->W.heap[B+2]?=some (.cells #[.slice none 0 0,.slice none 0 0,.slice none 0 0] 26 (0,0))from fun W L h=>(h.oth (B+2) (by omega) nR).trans (hR.out w5 K5.out));have hgbl:gb<wr.heap.size\/gb=w5.heap.size:=by
     by_cases e:g.es=[]
     ·exact .inr (hb0 e)
     ·left
      have:=hlow.out.2 gb (by rw[(hb1 e).1];simp[Value.ownBlock]);have:=kr.out.size;omega
    have hVS:=Hd (show ∀W L,EdW w5 gb B0 w0 L W->VL W (.slice x1 y1 x2) (insV g.vs c.v)/\DL W (.slice c1 N3 c2) g.ds from fun W L h=>by
     have o3:=hO3.out w5 K5.out;refine⟨VL.keep (hxvh.out.below bbh.out) (fun j hj hjs=>h.oth j hjs (by have:=hxoh.out j hj;omega)) h.size,OwnI.DL (own_same o3 fun j hj=>?_)⟩;obtain⟨_,cur,hc⟩:=own_row o3 j hj;exact h.oth j (Array.getElem?_eq_some_iff.1 hc).1 (hgne _ _ _ hc (by decide)))
    have hES:=Hd (show ∀W L,EdW w5 gb B0 w0 L W-> ∀j (hj:j<c.ends.length),∃eb eo,e1=some ⟨eb,eo,none⟩/\W.cell? ⟨eb,eo+j,none⟩=some (.int .i64 c.ends[j])from fun W L h j hj=>by
     have hne:c.ends≠[]:=fun e=>by rw[e]at hj;simp at hj
     obtain⟨eb,eo,he1,hcl⟩:=hEC.out hne;have:=hxh.out eb eo he1 hne;exact⟨eb,eo,he1,(keep_cell (h.oth eb (by omega) (by omega))).trans (hcl w5 K5.out j hj)⟩)
    have hb1h:=Hd hb1;have hmh:=Hd hm;clear hS0 hSE hgne hb1 hb0 hm hgbl;go_wp2_with fail;clear t0 t1 t2 p0 p1 p2 p3 p4 p5 p6 p7 p8 p9 pA pB pC
    go_loopw [15,16] (fun i _ W=>∃q:Nat,q<=k/\i= .int .i64 q/\Hid (EdW w5 gb B0 w0 (g.es.map (mvE (c.ends.take q) c.v.id)) W)) (fun i _ _=>k-(intOf i).toNat)
    case atStart=>exact⟨0,by omega,rfl,Hd (by rw[List.take_zero,mv_nil];exact hSh.out)⟩
    case round =>
    obtain⟨q,hq,rfl,kq⟩:=hrel;have k0q:(0:Int)<=(q:Int):=by omega
    by_cases hlt:q<k
    ·have k1q:(q:Int)<(k:Int):=by omega
     have hlE:q<c.ends.length:=by rw[<-hm1.out];exact hlt
     obtain⟨h0,p,hp,hpe,hpi⟩:=mv_find g.es c.id c.ends[q] hokh.out.eid0 (hin.out _ (List.getElem_mem hlE));have hne:g.es≠[]:=fun e=>by rw[e]at hp;simp at hp
     have hne2:c.ends≠[]:=fun e=>by rw[e]at hlE;simp at hlE
     obtain⟨hb2,hgbl⟩:=hb1h.out hne;obtain⟨eb,eo,he1,hcl⟩:=hEC.out hne2;have hebB:=hxh.out eb eo he1 hne2;obtain⟨L,hL⟩:∃L,Hid (L=g.es.map (mvE (c.ends.take q) c.v.id)):=⟨_,rfl⟩;have hLl:=Hd (show L.length=N2 by rw[hL.out,List.length_map,hN2.out]);have hpL:p<L.length:=by rw[hL.out,List.length_map];exact hp
     have hpN:p<N2:=by rw[<-hLl.out];exact hpL
     have hpLh:=Hd hpL;have hKy:=Hd (show keysE L=keysE g.es by rw[hL.out];exact keys_map _ _ (fun _=>rfl));obtain⟨x,hx0,hx9,hcx,hpx,hidx,htk⟩:∃x,0<=x/\x<=9223372036854775807/\Hid (∀W L,EdW w5 gb B0 w0 L W->W.cell? ⟨eb,eo+q,none⟩=some (.int .i64 x))/\plI (keysE g.es) (x / 2)=p/\g.es[p].id=x / 2/\c.ends.take (q+1)=c.ends.take q++[x] :=
      ⟨c.ends[q],h0,(hrh.out _ (List.getElem_mem hlE)).2,fun W L h=>(keep_cell (h.oth eb (by omega) (by omega))).trans (hcl w5 K5.out q hlE),hpe,hpi,List.take_succ_eq_append_getElem hlE⟩
     obtain⟨u,hu⟩:∃u,Hid (∀h:p<L.length,L[p]=u):=⟨L[p],fun _=>rfl⟩;have hst:=Hd (show g.es.map (mvE (c.ends.take (q+1)) c.v.id)=L.set p (if x%2=0 then{u with src:=c.v.id}else{u with dst:=c.v.id})by
      have e:=hu.out hpL;subst e;rw[htk,mv_step g.es hokh.out.easc _ x c.v.id p hp hidx];simp only[hL.out,List.getElem_map])
     have q8:IntKind.i64.wrap (x.tdiv 2)=x / 2:=by rw[Int.tdiv_eq_ediv_of_nonneg hx0,IntWalk.i64_in _ (by omega)]
     have cF:=Hd (show ∀W,EdW w5 gb B0 w0 L W->Calls Tryz.prog 42 #[.agg #[.slice x1 y1 x2,.slice b1 N2 b2,.slice c1 N3 c2],.int .i64 (x / 2)] W fun e w'=>e= .returned (.int .i64 (p:Int))/\EdW w5 gb B0 w0 L w' from fun W h=>(FindR_any _ {g with vs:=insV g.vs c.v,es:=L} (x / 2) W ⟨_,_,_,rfl,(hVS.out W L h).1,hEh.out W L hLl.out h,(hVS.out W L h).2⟩ (by show L.length<=_;rw[hLl.out];omega)).mono fun e w' hh=>⟨by rw[hh.1];show Ending.returned (.int .i64 (plI (keysE L) (x / 2)))=_;rw[hKy.out,hpx],h.below hh.2 hB5⟩);have kL:=Hd (show EdW w5 gb B0 w0 L _ by have h:=kq.out;rw[<-hL.out]at h;exact h);have i0:(0:Int)<=(p:Int):=by omega
     have i1:(p:Int)<(N2:Int):=by omega
     subst hb2 he1;clear kq hL hcl h0 hpe hpi hne hne2 hebB hidx hpx htk hlE hpL hlt hp;obtain⟨⟨t0,t1,t2⟩,p0,p1,p2,p3,p4,p5,p6,p7,p8,p9,pA,pB,pC⟩:=hTS.out _ _ kL.out;try dsimp only at p0 p1 p2 p3 p4 p5 p6 p7 p8 p9 pA
     go_upto_region 57 with(fail);clear t0 t1 t2 p0 p1 p2 p3 p4 p5 p6 p7 p8 p9 pA pB pC;refine q_region (fun W=>EdW w5 gb B0 w0 L W) (by kernel_rfl) (by kernel_rfl) (kL.out.drew) ?_;iterate 7 (refine q_take (v:=?_) (by rfl) ?_ ?_;rotate_left;(first|((intro w h;go_simp)<;>with_reducible rfl)|((intro w h;obtain⟨⟨t0,t1,t2⟩,p0,p1,p2,p3,p4,p5,p6,p7,p8,p9,pA,pB,pC⟩:=hTS.out w _ h;have cx1:=hcx.out w _ h;go_simp)<;>with_reducible rfl));try simp only[Act.put,zT,z0,zS])
     refine q_call (v:= .int .i64 (p:Int)) Tryz.f42 (by rfl) rfl Tryz.func42 (by kernel_rfl) (by kernel_rfl) #[.agg #[.slice x1 y1 x2,.slice (some ⟨gb,0,none⟩) N2 b2,.slice c1 N3 c2],.int .i64 (x / 2)] (by simp[Act.eval]) (fun w hSw=>cF.out w hSw) ?_;try simp only[Act.put,zT,z0,zS]
     refine q_take (v:=?_) (by rfl) ?_ ?_;rotate_left
     ·((intro w hSw;go_simp)<;>with_reducible rfl)
     try simp only[Act.put,zT,z0,zS]
     refine q_nil ?_;intro wq kq0;have kq1:=Hd kq0;clear kq0 kL;by_cases hpar:x%2=0
     ·have q9:(x%2==0)=true:=by simpa using hpar
      obtain⟨⟨t0,t1,t2⟩,p0,p1,p2,p3,p4,p5,p6,p7,p8,p9,pA,pB,pC⟩:=hTS.out _ _ kq1.out;try dsimp only at p0 p1 p2 p3 p4 p5 p6 p7 p8 p9 pA
      have cx1:=hcx.out _ _ kq1.out;obtain⟨cur,hcur⟩:=kq1.out.row (fun e=>by have:=hpLh.out;rw[e]at this;simp at this);have fr:=free_of_block (i:=p*6+1) hcur;obtain⟨d0,d1,d2,d3,d4,d5⟩:=kq1.out.cells hpLh.out;go_upto_region 56 with(fail);clear t0 t1 t2 p0 p1 p2 p3 p4 p5 p6 p7 p8 p9 pA pB pC;clear cx1 hcur fr d0 d1 d2 d3 d4 d5;obtain⟨wz,hwz⟩:∃W,W=wq.setCell ⟨gb,p*6+1,none⟩ (.int .i64 c.v.id):=⟨_,rfl⟩;rw[<-hwz];have hE:=Hd (show EdW w5 gb B0 w0 (g.es.map (mvE (c.ends.take (q+1)) c.v.id)) wz by
       rw[hst.out,if_pos hpar,hwz];exact kq1.out.set hgb p hpLh.out 1 (by omega) _ _ (by rw[hu.out hpLh.out];rfl))
      clear hwz hpar q9;go_wp2_with fail
      go_roundw
      case rel=>exact⟨q+1,by omega,by go_num,hE⟩
      case measure=>simp[intOf];omega
     ·have q9:(x%2==0)=false:=by simpa using hpar
      obtain⟨⟨t0,t1,t2⟩,p0,p1,p2,p3,p4,p5,p6,p7,p8,p9,pA,pB,pC⟩:=hTS.out _ _ kq1.out;try dsimp only at p0 p1 p2 p3 p4 p5 p6 p7 p8 p9 pA
      have cx1:=hcx.out _ _ kq1.out;obtain⟨cur,hcur⟩:=kq1.out.row (fun e=>by have:=hpLh.out;rw[e]at this;simp at this);have fr:=free_of_block (i:=p*6+2) hcur;obtain⟨d0,d1,d2,d3,d4,d5⟩:=kq1.out.cells hpLh.out;go_upto_region 56 with(fail);clear t0 t1 t2 p0 p1 p2 p3 p4 p5 p6 p7 p8 p9 pA pB pC;clear cx1 hcur fr d0 d1 d2 d3 d4 d5;obtain⟨wz,hwz⟩:∃W,W=wq.setCell ⟨gb,p*6+2,none⟩ (.int .i64 c.v.id):=⟨_,rfl⟩;rw[<-hwz];have hE:=Hd (show EdW w5 gb B0 w0 (g.es.map (mvE (c.ends.take (q+1)) c.v.id)) wz by
       rw[hst.out,if_neg hpar,hwz];exact kq1.out.set hgb p hpLh.out 2 (by omega) _ _ (by rw[hu.out hpLh.out];rfl))
      clear hwz hpar q9;go_wp2_with fail
      go_roundw
      case rel=>exact⟨q+1,by omega,by go_num,hE⟩
      case measure=>simp[intOf];omega
    ·have hq2:q=k:=by omega
     have k1q:¬(q:Int)<(k:Int):=by omega
     have hfu:=Hd (show EdW w5 gb B0 w0 (g.es.map (mvE c.ends c.v.id)) _ by have h:=kq.out;rw[List.take_of_length_le (by rw[hq2,hm1.out];exact Nat.le_refl _)]at h;exact h);clear hq2 kq;have hgf:=Hd (show GV _ (.agg #[.slice x1 y1 x2,.slice b1 N2 b2,.slice c1 N3 c2]) {g with vs:=insV g.vs c.v,es:=g.es.map (mvE c.ends c.v.id)}from⟨_,_,_,rfl,(hVS.out _ _ hfu.out).1,hEh.out _ _ (by rw[List.length_map,hN2.out]) hfu.out,(hVS.out _ _ hfu.out).2⟩);have r8:=Hd (hRS.out _ _ hfu.out);have hf:=Hd (belK_at (hBw.out.trans (K5.out.mono (show B<=w1.heap.size by omega))) hB.out hB0 hfu.out.bel hn26.out hfu.out.oth #[.slice x1 y1 x2,.slice b1 N2 b2,.slice c1 N3 c2]);obtain⟨⟨t0,t1,t2⟩,p0,p1,p2,p3,p4,p5,p6,p7,p8,p9,pA,pB,pC⟩:=hTS.out _ _ hfu.out;try dsimp only at p0 p1 p2 p3 p4 p5 p6 p7 p8 p9 pA
     go_upto_region 61 with(fail)
     go_wp2_with (refine wpList_store_row rfl 26 (.tmp 4) (.tmp 341) rfl (B+2) #[.slice x1 y1 x2,.slice b1 N2 b2,.slice c1 N3 c2] rfl rfl 26 _ r8.out (size26b _ _ _) rfl (by simp[Value.oneCell']) ?_)
     refine bodyPost_ret (results_cell_tmp_row (fn:=Tryz.f58) rfl _ _ (B+2) 26 #[.slice x1 y1 x2,.slice b1 N2 b2,.slice c1 N3 c2] (0,0) _ _ rfl rfl (setRow_heap _ _ _ _ _ _ r8.out) Tryz.underlying26 rfl (size26b _ _ _)) rfl ?_;exact ActR.yesM (by rw[hact.out];exact hyes.out) rfl (GV.shut0 hgf.out r8.out _) hge.out hf.out
end Go.Proofs.YtlaldnlgapeckaaGreat
