/- Facts. -/
import Derived.Test.YtlaldnlgapeckaaGreatVYRe2
set_option linter.unusedSimpArgs false
set_option maxRecDepth 100000
set_option maxHeartbeats 4000000
namespace Go.Proofs.YtlaldnlgapeckaaGreat
open Go.RowKit
structure EdS(wb:World)(gb B0:Nat)(w0:World)(L:List Ed)(W:World):Prop where
 row:L≠[]-> ∃cur,W.heap[gb]?=some (.cells cur 31 (0,0))
 lie:LieE W gb 0 L
 oth:∀j,j≠gb->W.heap[j]?=wb.heap[j]?
 size:W.heap.size=wb.heap.size
 bel:Below B0 w0 W
theorem EdS.drew{wb w0 W:World}{gb B0:Nat}{L:List Ed}(h:EdS wb gb B0 w0 L W):EdS wb gb B0 w0 L W.drew:=⟨h.row,h.lie,h.oth,h.size,h.bel.drew⟩
theorem EdS.set{wb w0 W:World}{gb B0:Nat}{L:List Ed}(h:EdS wb gb B0 w0 L W)(hB:B0<=gb)(p:Nat)(hp:p<L.length)(i:Nat)(hi:i<6)(u:Value)(e':Ed)(hc:edCells e'=(edCells L[p]).setIfInBounds i u):EdS wb gb B0 w0 (L.set p e') (W.setCell ⟨gb,0+p*6+i,none⟩ u):=by
 refine⟨fun _=>?_,lieE_set h.lie p hp i hi u e' hc,fun j hj=>(heap_setCell_other W _ j _ hj).trans (h.oth j hj),by simpa using h.size,h.bel.setCell (by exact hB) _⟩;obtain⟨cur,hcur⟩:=h.row (fun e=>by rw[e]at hp;simp at hp);exact⟨_,heap_setCell_same W gb _ _ 31 _ hcur⟩
theorem own_same{W W':World}{v:Value}{B e k n:Nat}{xs:List Value}(h:W.ownsRow B e k v n xs)(hs:∀j,v.ownBlock=some j->W'.heap[j]?=W.heap[j]?):W'.ownsRow B e k v n xs:=by
 refine⟨h.1,?_⟩;rcases h.2 with h2|⟨g,cap,cur,h1,h3,h4,h5⟩
 ·exact .inl h2
 ·exact .inr ⟨g,cap,cur,h1,h3,by rw[hs g (by rw[h1];rfl)];exact h4,h5⟩
def mixE(es:List Ed)(f:Ed->Ed)(k:Nat):List Ed:=(es.take k).map f++es.drop k
theorem mixE_len(es:List Ed)(f:Ed->Ed)(k:Nat):(mixE es f k).length=es.length:=by
 unfold mixE;rw[List.length_append,List.length_map,<-List.length_append,List.take_append_drop]
theorem mixE_at(es:List Ed)(f:Ed->Ed)(k:Nat)(hk:k<es.length):(mixE es f k)[k]'(by rw[mixE_len];exact hk)=es[k]:=by
 unfold mixE;rw[List.getElem_append_right (by simp;omega)];simp[Nat.min_eq_left (Nat.le_of_lt hk)]
theorem mixE_succ(es:List Ed)(f:Ed->Ed)(k:Nat)(hk:k<es.length):mixE es f (k+1)=(mixE es f k).set k (f es[k]):=by
 unfold mixE;rw[List.set_append_right _ _ (by simp;omega),List.take_succ_eq_append_getElem hk,List.map_append,List.append_assoc];congr 1;rw[List.drop_eq_getElem_cons hk];simp only[List.length_map,List.length_take,Nat.min_eq_left (Nat.le_of_lt hk),Nat.sub_self,List.set_cons_zero,List.map_cons,List.map_nil,List.singleton_append]
theorem mixE_all(es:List Ed)(f:Ed->Ed):mixE es f es.length=es.map f:=by unfold mixE;simp
theorem mixE_zero(es:List Ed)(f:Ed->Ed):mixE es f 0=es:=by unfold mixE;simp
theorem EdS.cells{wb w0 W:World}{gb B0 k:Nat}{L:List Ed}{u:Ed}(h:EdS wb gb B0 w0 (L.set k u) W)(hk:k<L.length):EdAt W gb (k*6) u:=by
 have:=h.lie k u (by rw[List.getElem?_set_self hk]);simpa using this
theorem EdS.put{wb w0 W:World}{gb B0 k:Nat}{L:List Ed}{u:Ed}(h:EdS wb gb B0 w0 (L.set k u) W)(hk:k<L.length)(hB:B0<=gb)(i:Nat)(hi:i<6)(v:Value)(u':Ed)(hc:edCells u'=(edCells u).setIfInBounds i v):EdS wb gb B0 w0 (L.set k u') (W.setCell ⟨gb,k*6+i,none⟩ v):=by
 have h1:=h.set hB k (by rw[List.length_set];exact hk) i hi v u' (by rw[List.getElem_set_self];exact hc);rw[List.set_set]at h1;simpa using h1
theorem EdS.cur{wb w0 W:World}{gb B0 k:Nat}{L:List Ed}{u:Ed}(h:EdS wb gb B0 w0 (L.set k u) W)(hk:k<L.length):∃cur,W.heap[gb]?=some (.cells cur 31 (0,0)) :=
 h.row (fun e=>by rw[List.set_eq_nil_iff]at e;rw[e]at hk;simp at hk)
theorem edS_start{w w0:World}{B0 n c:Nat}{b1:Option Addr}{l:List Ed}(h:OwnEd w B0 (.slice b1 n c) l)(hn:n=l.length)(hb:Below B0 w0 w)(hB:B0<=w.heap.size):
  ∃gb,B0<=gb/\(l≠[]->b1=some ⟨gb,0,none⟩)/\(∀j cur t,w.heap[j]?=some (.cells cur t (0,0))->t≠31->j≠gb)/\EdS w gb B0 w0 l w/\(∀W L,L.length=n->EdS w gb B0 w0 L W->EL W (.slice b1 n c) L):=by
 by_cases hl:l=[]
 ·subst hl;refine⟨w.heap.size,hB,fun h=>absurd rfl h,fun j cur t h _ e=>?_,⟨fun h=>absurd rfl h,fun j x hx=>by simp at hx,fun _ _=>rfl,rfl,hb⟩,fun W L hL _=>?_⟩
  ·subst e;simp at h
  ·have:L=[]:=List.length_eq_zero_iff.1 (by rw[hL,hn];rfl);subst this;exact .inl ⟨rfl,_,_,by rw[hn];rfl⟩
 ·obtain⟨gb,cur,hab,hbb,hcur,hlie⟩:=h.at hl;refine⟨gb,hbb,fun _=>hab,fun j cur2 t h2 ht e=>?_,⟨fun _=>⟨_,hcur⟩,hlie,fun _ _=>rfl,rfl,hb⟩,fun W L hL hS=>?_⟩
  ·subst e;rw[hcur]at h2;simp at h2;exact ht h2.2.symm
  ·have hL0:L≠[]:=fun e=>hl (List.length_eq_zero_iff.1 (by rw[<-hn,<-hL,e];rfl));have hcap:n<=c:=by
    obtain⟨_,_,_,e,h,_⟩:=h.EL.own hl;injection e with _ _ e
    rw[e,hn];exact h
   have hlt:gb<w.heap.size:=(Array.getElem?_eq_some_iff.1 hcur).1;exact .inr ⟨hL0,gb,0,_,by rw[hab,hL],by rw[hL];exact hcap,by rw[hS.size];exact hlt,hS.lie⟩
theorem actR_7(va vb vc ca cb:Value)(g:Gr)(c:Ch)(B0:Nat)(w0:World)(h1:OwnV w0 B0 va g.vs)(h2:OwnEd w0 B0 vb g.es)(h3:OwnI w0 B0 vc g.ds)(h4:DL w0 ca c.ends)(h5:DL w0 cb c.deps)(hok:Ok g)(hB0:B0<=w0.heap.size)(hl:c.ends.length<=100000/\c.deps.length<=100000)(hk:c.kind=7):
  Calls Tryz.prog 58 #[.agg #[va,vb,vc],.agg (chCells c ca cb)] w0 (ActR g c B0 w0):=by
 obtain⟨a1,a2,rfl⟩:=h1.VL.shape;obtain⟨b1,b2,rfl⟩:=h2.EL.shape;obtain⟨c1,c2,rfl⟩:=h3.DL.shape;obtain⟨e1,e2,rfl⟩:=h4.shape;obtain⟨f1,f2,rfl⟩:=h5.shape;obtain⟨N1,hN1⟩:∃N,Hid (N=g.vs.length):=⟨_,rfl⟩;obtain⟨N2,hN2⟩:∃N,Hid (N=g.es.length):=⟨_,rfl⟩;obtain⟨N3,hN3⟩:∃N,Hid (N=g.ds.length):=⟨_,rfl⟩;obtain⟨m1,hm1⟩:∃N,Hid (N=c.ends.length):=⟨_,rfl⟩;obtain⟨m2,hm2⟩:∃N,Hid (N=c.deps.length):=⟨_,rfl⟩;have z1:=hok.vlen;have z2:=hok.elen;have z3:=hok.dlen;obtain⟨l1,l2⟩:=hl;rw[<-hN1.out]at h1 z1 ⊢;rw[<-hN2.out]at h2 z2 ⊢;rw[<-hN3.out]at h3 z3 ⊢;rw[<-hm1.out]at h4 l1 ⊢;rw[<-hm2.out]at h5 l2 ⊢;unfold chCells;rw[hk];obtain⟨B,w1,hB,hwh,hsz,hB0,hBw,hbox,hcbx,hres,hO1,hO2,hO3,hL4,hL5,hgv,hbase,hT,hR,cP,cF,hlow,hlow3⟩:=act_pre 7 h1 h2 h3 h4 h5 hN1.out hN2.out z1 z2 hB0;have hokh:=Hd hok;have hkh:=Hd hk;have hact:=Hd (show actK g c=act7 g c by unfold actK;simp[hk]);obtain⟨⟨t0,t1,t2⟩,p0,p1,p2,p3,p4,p5,p6,p7,p8,p9,pA,pB,pC⟩:=hT.out w1 (Below.refl _ _);try dsimp only at p0 p1 p2 p3 p4 p5 p6 p7 p8 p9 pA
 clear h1 h2 h3 h4 h5 hok hk;go_enter Tryz.func58,Tryz.ntmps58;go_wp2_with fail;rw[<-hwh.out,<-hB.out];with_reducible refine(cP.out w1 (Below.refl _ _)).mono ?_
 rintro e w2 ⟨rfl,k2⟩;have K2:=Hd k2;clear k2 t0 t1 t2 p0 p1 p2 p3 p4 p5 p6 p7 p8 p9 pA pB pC;obtain⟨⟨t0,t1,t2⟩,p0,p1,p2,p3,p4,p5,p6,p7,p8,p9,pA,pB,pC⟩:=hT.out w2 K2.out;try dsimp only at p0 p1 p2 p3 p4 p5 p6 p7 p8 p9 pA
 go_wp2_with fail;with_reducible refine(cF.out w2 K2.out).mono ?_
 rintro e w3 ⟨rfl,k3⟩;have K3:=Hd (K2.out.trans (k3.mono K2.out.size));clear k3 K2 t0 t1 t2 p0 p1 p2 p3 p4 p5 p6 p7 p8 p9 pA pB pC;obtain⟨⟨t0,t1,t2⟩,p0,p1,p2,p3,p4,p5,p6,p7,p8,p9,pA,pB,pC⟩:=hT.out w3 K3.out;try dsimp only at p0 p1 p2 p3 p4 p5 p6 p7 p8 p9 pA
 have hnoB:=Hd (show ∀W,Below w1.heap.size w1 W->BelK B0 w0 (W.setRow (B+2) #[.slice a1 N1 a2,.slice b1 N2 b2,.slice c1 N3 c2])from fun W BB=>belK_no hBw.out hB.out hB0 (by omega) BB _);generalize plI (keysE g.es) c.id=P2 at *
 have cN:=Hd (PlaceR_any (.agg #[.slice a1 N1 a2,.slice b1 N2 b2,.slice c1 N3 c2]) g c.n w3 (hgv.out w3 K3.out) (by rw[<-hN1.out];omega));by_cases hm:c.id∈keysV g.vs;rotate_left
 ·rw[plI_no _ _ hm];have hno:=Hd (show act7 g c=none by unfold act7;simp[hm]);clear hm cN;have r8:=Hd (hR.out w3 K3.out);have hf:=Hd (hnoB.out w3 K3.out);go_upto_region 36 with(fail)
  go_wp2_with (refine wpList_store_row rfl 26 (.tmp 4) (.tmp 208) rfl (B+2) #[.slice a1 N1 a2,.slice b1 N2 b2,.slice c1 N3 c2] rfl rfl 26 _ r8.out (size26b _ _ _) rfl (by simp[Value.oneCell']) ?_)
  refine bodyPost_ret (results_cell_tmp_row (fn:=Tryz.f58) rfl _ _ (B+2) 26 #[.slice a1 N1 a2,.slice b1 N2 b2,.slice c1 N3 c2] (0,0) _ _ rfl rfl (setRow_heap _ _ _ _ _ _ r8.out) Tryz.underlying26 rfl (size26b _ _ _)) rfl ?_;exact ActR.no (by rw[hact.out];exact hno.out) rfl hf.out
 ·obtain⟨p,hp,hpe,hpv⟩:=plV_mem g.vs c.id hm;have hpi:g.vs[p].id=c.id:=by
   rw[hpv];obtain⟨hq,hqx⟩:=posV_lt g.vs c.id hokh.out.vasc hm;rw[getV_eq g.vs c.id hokh.out.vasc hq hqx];exact hqx
  rw[hpe];have i0:(0:Int)<=(p:Int):=by omega
  have i00:¬(p:Int)<0:=by omega
  have hmh:=Hd hm;have hph:=Hd hp;have hdel:=Hd (pos_del g.vs c.id hokh.out.vasc p hp hpi);clear hm hp hpe hpv hpi;go_wp2_with fail;with_reducible refine cN.out.mono ?_
  rintro e w4 ⟨rfl,b4⟩;have K4:=Hd (K3.out.trans (b4.mono K3.out.size));clear b4 cN;clear t0 t1 t2 p0 p1 p2 p3 p4 p5 p6 p7 p8 p9 pA pB pC;obtain⟨⟨t0,t1,t2⟩,p0,p1,p2,p3,p4,p5,p6,p7,p8,p9,pA,pB,pC⟩:=hT.out w4 K4.out;try dsimp only at p0 p1 p2 p3 p4 p5 p6 p7 p8 p9 pA
  by_cases hn:c.n∈keysV g.vs;rotate_left
  ·rw[plI_no _ _ hn];have hno:=Hd (show act7 g c=none by unfold act7;simp[hn]);clear hn;have r8:=Hd (hR.out w4 K4.out);have hf:=Hd (hnoB.out w4 K4.out);go_upto_region 36 with(fail)
   go_wp2_with (refine wpList_store_row rfl 26 (.tmp 4) (.tmp 208) rfl (B+2) #[.slice a1 N1 a2,.slice b1 N2 b2,.slice c1 N3 c2] rfl rfl 26 _ r8.out (size26b _ _ _) rfl (by simp[Value.oneCell']) ?_)
   refine bodyPost_ret (results_cell_tmp_row (fn:=Tryz.f58) rfl _ _ (B+2) 26 #[.slice a1 N1 a2,.slice b1 N2 b2,.slice c1 N3 c2] (0,0) _ _ rfl rfl (setRow_heap _ _ _ _ _ _ r8.out) Tryz.underlying26 rfl (size26b _ _ _)) rfl ?_;exact ActR.no (by rw[hact.out];exact hno.out) rfl hf.out
  ·obtain⟨pn,_,hne,_⟩:=plV_mem g.vs c.n hn;rw[hne];have j0:(0:Int)<=(pn:Int):=by omega
   have j00:¬(pn:Int)<0:=by omega
   have hnh:=Hd hn;clear hne hn;by_cases he:c.id=c.n
   ·have hno:=Hd (show act7 g c=none by unfold act7;simp[he]);have q:(c.id==c.n)=true:=by simpa using he
    clear he;have r8:=Hd (hR.out w4 K4.out);have hf:=Hd (hnoB.out w4 K4.out);go_upto_region 36 with(fail)
    go_wp2_with (refine wpList_store_row rfl 26 (.tmp 4) (.tmp 208) rfl (B+2) #[.slice a1 N1 a2,.slice b1 N2 b2,.slice c1 N3 c2] rfl rfl 26 _ r8.out (size26b _ _ _) rfl (by simp[Value.oneCell']) ?_)
    refine bodyPost_ret (results_cell_tmp_row (fn:=Tryz.f58) rfl _ _ (B+2) 26 #[.slice a1 N1 a2,.slice b1 N2 b2,.slice c1 N3 c2] (0,0) _ _ rfl rfl (setRow_heap _ _ _ _ _ _ r8.out) Tryz.underlying26 rfl (size26b _ _ _)) rfl ?_;exact ActR.no (by rw[hact.out];exact hno.out) rfl hf.out
   ·have q:(c.id==c.n)=false:=by simpa using he
    have heh:=Hd he;have cH:=Hd (hasR_any (.slice c1 N3 c2) g.ds c.id w4 (OwnI.DL (hO3.out w4 K4.out)) (by rw[<-hN3.out];omega));clear he;go_wp2_with fail;with_reducible refine cH.out.mono ?_
    rintro e w5 ⟨rfl,rfl⟩;clear cH;by_cases hd:c.id∈g.ds
    ·have hno:=Hd (show act7 g c=none by unfold act7;simp[hd]);rw[decide_eq_true hd];clear hd;have r8:=Hd (hR.out w4 K4.out);have hf:=Hd (hnoB.out w4 K4.out);go_upto_region 36 with(fail)
     go_wp2_with (refine wpList_store_row rfl 26 (.tmp 4) (.tmp 208) rfl (B+2) #[.slice a1 N1 a2,.slice b1 N2 b2,.slice c1 N3 c2] rfl rfl 26 _ r8.out (size26b _ _ _) rfl (by simp[Value.oneCell']) ?_)
     refine bodyPost_ret (results_cell_tmp_row (fn:=Tryz.f58) rfl _ _ (B+2) 26 #[.slice a1 N1 a2,.slice b1 N2 b2,.slice c1 N3 c2] (0,0) _ _ rfl rfl (setRow_heap _ _ _ _ _ _ r8.out) Tryz.underlying26 rfl (size26b _ _ _)) rfl ?_;exact ActR.no (by rw[hact.out];exact hno.out) rfl hf.out
    ·have hyes:=Hd (show(act7 g c).map (·.1)=some {g with vs:=delV g.vs c.id,es:=g.es.map (ctE c.id c.n)}by unfold act7;simp[hd,heh.out,hnh.out,hmh.out]);rw[decide_eq_false hd];clear hd;obtain⟨gb,hgb,hb1,hgne,hS0,hSE⟩:=edS_start (hO2.out w4 K4.out) hN2.out (hbase.out w4 K4.out) (by have:=hBw.out.size;have:=K4.out.size;omega);have hn26:=Hd (show ∀cs,w4.heap[gb]?≠some (.cells cs 26 (0,0))from fun cs e=>hgne _ _ _ e (by decide) rfl);have nB:B≠gb:=hgne _ _ _ ((K4.out.block B (by omega)).trans hbox.out) (by decide);have nC:B+1≠gb:=hgne _ _ _ ((K4.out.block (B+1) (by omega)).trans hcbx.out) (by decide);have nR:B+2≠gb:=hgne _ _ _ (hR.out w4 K4.out) (by decide);have hSh:=Hd hS0;have hEh:=Hd hSE;have hTS:=Hd (show ∀W L,EdS w4 gb B0 w0 L W->(W.cell? ⟨B,0,none⟩=some (.slice a1 N1 a2)/\W.cell? ⟨B,1,none⟩=some (.slice b1 N2 b2)/\W.cell? ⟨B,2,none⟩=some (.slice c1 N3 c2))/\W.cell? ⟨B+1,9,none⟩=some (.int .i64 c.id)/\W.cell? ⟨B+1,10,none⟩=some (.int .i64 c.n)from fun W L h=>by
      obtain⟨_,p0,p1,p2,p3,p4,p5,p6,p7,p8,p9,pA,pB,pC⟩:=hT.out w4 K4.out;exact⟨box3 ((h.oth B nB).trans ((K4.out.block B (by omega)).trans hbox.out)),(keep_cell (h.oth (B+1) nC)).trans p9,(keep_cell (h.oth (B+1) nC)).trans pA⟩)
     have hRS:=Hd (show ∀W L,EdS w4 gb B0 w0 L W->W.heap[B+2]?=some (.cells #[.slice none 0 0,.slice none 0 0,.slice none 0 0] 26 (0,0))from fun W L h=>(h.oth (B+2) nR).trans (hR.out w4 K4.out));have hVS:=Hd (show ∀W L,EdS w4 gb B0 w0 L W->VL W (.slice a1 N1 a2) g.vs/\DL W (.slice c1 N3 c2) g.ds from fun W L h=>by
      have o1:=hO1.out w4 K4.out;have o3:=hO3.out w4 K4.out;exact⟨OwnV.VL (own_same o1 fun j hj=>by obtain⟨_,cur,hc⟩:=own_row o1 j hj;exact h.oth j (hgne _ _ _ hc (by decide))),OwnI.DL (own_same o3 fun j hj=>by obtain⟨_,cur,hc⟩:=own_row o3 j hj;exact h.oth j (hgne _ _ _ hc (by decide)))⟩)
     have hb1h:=Hd hb1;clear hS0 hSE hgne hb1 q;have K4s:=K4.out.size;go_wp2_with fail;clear t0 t1 t2 p0 p1 p2 p3 p4 p5 p6 p7 p8 p9 pA pB pC
     go_loopw [11] (fun i wr=>∃k:Nat,k<=N2/\i= .int .i64 k/\Hid (EdS w4 gb B0 w0 (mixE g.es (ctE c.id c.n) k) wr)) (fun i _=>N2-(intOf i).toNat)
     case atStart=>exact⟨0,by omega,rfl,Hd (by rw[mixE_zero];exact hSh.out)⟩
     case round =>
     obtain⟨k,hk,rfl,kr⟩:=hrel;have k0:(0:Int)<=(k:Int):=by omega
     by_cases hlt:k<N2
     ·have k1:(k:Int)<(N2:Int):=by omega
      have hlL:k<(mixE g.es (ctE c.id c.n) k).length:=by rw[mixE_len,<-hN2.out];exact hlt
      have hlE:k<g.es.length:=by rw[<-hN2.out];exact hlt
      obtain⟨y,hsuc,hS1⟩:∃y,Hid (mixE g.es (ctE c.id c.n) (k+1)=(mixE g.es (ctE c.id c.n) k).set k (ctE c.id c.n y))/\Hid (EdS w4 gb B0 w0 ((mixE g.es (ctE c.id c.n) k).set k y) wr) :=
       ⟨g.es[k],Hd (mixE_succ _ _ _ hlE),Hd (by rw[<-mixE_at g.es (ctE c.id c.n) k hlE,List.set_getElem_self];exact kr.out)⟩
      have hb2:=hb1h.out (fun e=>by rw[e]at hlE;simp at hlE);obtain⟨L,hL⟩:∃L,Hid (L=mixE g.es (ctE c.id c.n) k):=⟨_,rfl⟩;rw[<-hL.out]at hS1 hsuc hlL;have hlh:=Hd hlL;clear hlL hlE kr;subst hb2;obtain⟨⟨t0,t1,t2⟩,p9,pA⟩:=hTS.out wr _ hS1.out;go_upto_region 40 with(fail);clear t0 t1 t2 p9 pA;refine q_region (fun W=>EdS w4 gb B0 w0 (L.set k y) W) (by kernel_rfl) (by kernel_rfl) (hS1.out.drew) ?_;iterate 9 (refine q_take (v:=?_) (by rfl) ?_ ?_;rotate_left;(first|((intro w h;go_simp)<;>with_reducible rfl)|((intro w h;obtain⟨⟨t0,t1,t2⟩,p9,pA⟩:=hTS.out w _ h;obtain⟨d0,d1,d2,d3,d4,d5⟩:=h.cells hlh.out;go_simp)<;>with_reducible rfl));try simp only[Act.put,zT,z0,zS])
      refine q_nil ?_;intro wq hS20;have hS2:=Hd hS20;clear hS20;obtain⟨⟨t0,t1,t2⟩,p9,pA⟩:=hTS.out wq _ hS2.out;by_cases s1:y.src=c.id
      ·have q1:(y.src==c.id)=true:=by simpa using s1
       obtain⟨cur,hcur⟩:=hS2.out.cur hlh.out;have fr:=free_of_block (i:=k*6+1) hcur;obtain⟨d0,d1,d2,d3,d4,d5⟩:=hS2.out.cells hlh.out;try dsimp only at d0 d1 d2 d3 d4 d5
       go_upto_region 42 with(fail);clear t0 t1 t2 p9 pA fr hcur d0 d1 d2 d3 d4 d5;obtain⟨wz,hwz⟩:∃W,W=wq.setCell ⟨gb,k*6+1,none⟩ (.int .i64 c.n):=⟨_,rfl⟩;rw[<-hwz];have hS3:=Hd (show EdS w4 gb B0 w0 (L.set k ({y with src:=c.n}:Ed)) wz by rw[hwz];exact hS2.out.put hlh.out hgb 1 (by omega) _ _ rfl);clear hwz;obtain⟨⟨t0,t1,t2⟩,p9,pA⟩:=hTS.out wz _ hS3.out;go_upto_region 42 with(fail);clear t0 t1 t2 p9 pA;refine q_region (fun W=>EdS w4 gb B0 w0 (L.set k ({y with src:=c.n}:Ed)) W) (by kernel_rfl) (by kernel_rfl) (hS3.out.drew) ?_;iterate 9 (refine q_take (v:=?_) (by rfl) ?_ ?_;rotate_left;(first|((intro w h;go_simp)<;>with_reducible rfl)|((intro w h;obtain⟨⟨t0,t1,t2⟩,p9,pA⟩:=hTS.out w _ h;obtain⟨d0,d1,d2,d3,d4,d5⟩:=h.cells hlh.out;go_simp)<;>with_reducible rfl));try simp only[Act.put,zT,z0,zS])
       refine q_nil ?_;intro wp hS40;have hS4:=Hd hS40;clear hS40;obtain⟨⟨t0,t1,t2⟩,p9,pA⟩:=hTS.out wp _ hS4.out;by_cases s2:y.dst=c.id
       ·have q2:(y.dst==c.id)=true:=by simpa using s2
        obtain⟨cur,hcur⟩:=hS4.out.cur hlh.out;have fr:=free_of_block (i:=k*6+2) hcur;obtain⟨d0,d1,d2,d3,d4,d5⟩:=hS4.out.cells hlh.out;try dsimp only at d0 d1 d2 d3 d4 d5
        go_upto_region 39 with(fail);clear t0 t1 t2 p9 pA fr hcur d0 d1 d2 d3 d4 d5;obtain⟨wv,hwv⟩:∃W,W=wp.setCell ⟨gb,k*6+2,none⟩ (.int .i64 c.n):=⟨_,rfl⟩;rw[<-hwv];have hS5:=Hd (show EdS w4 gb B0 w0 (L.set k ({y with src:=c.n,dst:=c.n}:Ed)) wv by rw[hwv];exact hS4.out.put hlh.out hgb 2 (by omega) _ _ rfl);clear hwv;obtain⟨⟨t0,t1,t2⟩,p9,pA⟩:=hTS.out wv _ hS5.out;have hU:({y with src:=c.n,dst:=c.n}:Ed)=ctE c.id c.n y:=by unfold ctE;simp[s1,s2]
        have hE:=Hd (show EdS w4 gb B0 w0 (mixE g.es (ctE c.id c.n) (k+1)) wv by rw[hsuc.out,<-hU];exact hS5.out);clear hU s1 s2 q1 q2 t0 t1 t2 p9 pA;go_wp2_with fail
        go_roundw
        case rel=>exact⟨k+1,by omega,by go_num,hE⟩
        case measure=>simp[intOf];omega
       ·have q2:(y.dst==c.id)=false:=by simpa using s2
        go_upto_region 39 with(fail);have hU:({y with src:=c.n}:Ed)=ctE c.id c.n y:=by unfold ctE;simp[s1,s2]
        have hE:=Hd (show EdS w4 gb B0 w0 (mixE g.es (ctE c.id c.n) (k+1)) wp by rw[hsuc.out,<-hU];exact hS4.out);clear hU s1 s2 q1 q2 t0 t1 t2 p9 pA;go_wp2_with fail
        go_roundw
        case rel=>exact⟨k+1,by omega,by go_num,hE⟩
        case measure=>simp[intOf];omega
      ·have q1:(y.src==c.id)=false:=by simpa using s1
       go_upto_region 42 with(fail);clear t0 t1 t2 p9 pA;refine q_region (fun W=>EdS w4 gb B0 w0 (L.set k y) W) (by kernel_rfl) (by kernel_rfl) (hS2.out.drew) ?_;iterate 9 (refine q_take (v:=?_) (by rfl) ?_ ?_;rotate_left;(first|((intro w h;go_simp)<;>with_reducible rfl)|((intro w h;obtain⟨⟨t0,t1,t2⟩,p9,pA⟩:=hTS.out w _ h;obtain⟨d0,d1,d2,d3,d4,d5⟩:=h.cells hlh.out;go_simp)<;>with_reducible rfl));try simp only[Act.put,zT,z0,zS])
       refine q_nil ?_;intro wp hS40;have hS4:=Hd hS40;clear hS40;obtain⟨⟨t0,t1,t2⟩,p9,pA⟩:=hTS.out wp _ hS4.out;by_cases s2:y.dst=c.id
       ·have q2:(y.dst==c.id)=true:=by simpa using s2
        obtain⟨cur,hcur⟩:=hS4.out.cur hlh.out;have fr:=free_of_block (i:=k*6+2) hcur;obtain⟨d0,d1,d2,d3,d4,d5⟩:=hS4.out.cells hlh.out;try dsimp only at d0 d1 d2 d3 d4 d5
        go_upto_region 39 with(fail);clear t0 t1 t2 p9 pA fr hcur d0 d1 d2 d3 d4 d5;obtain⟨wv,hwv⟩:∃W,W=wp.setCell ⟨gb,k*6+2,none⟩ (.int .i64 c.n):=⟨_,rfl⟩;rw[<-hwv];have hS5:=Hd (show EdS w4 gb B0 w0 (L.set k ({y with dst:=c.n}:Ed)) wv by rw[hwv];exact hS4.out.put hlh.out hgb 2 (by omega) _ _ rfl);clear hwv;obtain⟨⟨t0,t1,t2⟩,p9,pA⟩:=hTS.out wv _ hS5.out;have hU:({y with dst:=c.n}:Ed)=ctE c.id c.n y:=by unfold ctE;simp[s1,s2]
        have hE:=Hd (show EdS w4 gb B0 w0 (mixE g.es (ctE c.id c.n) (k+1)) wv by rw[hsuc.out,<-hU];exact hS5.out);clear hU s1 s2 q1 q2 t0 t1 t2 p9 pA;go_wp2_with fail
        go_roundw
        case rel=>exact⟨k+1,by omega,by go_num,hE⟩
        case measure=>simp[intOf];omega
       ·have q2:(y.dst==c.id)=false:=by simpa using s2
        go_upto_region 39 with(fail);have hU:y=ctE c.id c.n y:=by unfold ctE;simp[s1,s2]
        have hE:=Hd (show EdS w4 gb B0 w0 (mixE g.es (ctE c.id c.n) (k+1)) wp by rw[hsuc.out,<-hU];exact hS4.out);clear hU s1 s2 q1 q2 t0 t1 t2 p9 pA;go_wp2_with fail
        go_roundw
        case rel=>exact⟨k+1,by omega,by go_num,hE⟩
        case measure=>simp[intOf];omega
     ·have hk2:k=N2:=by omega
      subst hk2;have k1:¬((k:Nat):Int)<(k:Int):=by omega
      obtain⟨⟨t0,t1,t2⟩,p9,pA⟩:=hTS.out wr _ kr.out;have hk3:=Hd (show EdS w4 gb B0 w0 (g.es.map (ctE c.id c.n)) wr by have h:=kr.out;rw[hN2.out,mixE_all]at h;exact h);have hgm:=Hd (show GV wr (.agg #[.slice a1 N1 a2,.slice b1 k b2,.slice c1 N3 c2]) {g with es:=g.es.map (ctE c.id c.n)}from⟨_,_,_,rfl,(hVS.out wr _ hk3.out).1,hEh.out wr _ (by rw[List.length_map,<-hN2.out]) hk3.out,(hVS.out wr _ hk3.out).2⟩);have hW:=Hd (withoutR_own (.slice a1 N1 a2) (.slice b1 k b2) (.slice c1 N3 c2) {g with es:=g.es.map (ctE c.id c.n)} p wr (hVS.out wr _ hk3.out).1 (hEh.out wr _ (by rw[List.length_map,<-hN2.out]) hk3.out) (hVS.out wr _ hk3.out).2 (by show g.vs.length<=_;rw[<-hN1.out];omega) hph.out);clear kr;go_wp2_with fail;with_reducible refine hW.out.mono ?_
      rintro e w5 ⟨r,rfl,hgr,hob,b5⟩;try dsimp only at hgr
      rw[hdel.out]at hgr;obtain⟨g1,g2,g3⟩:=hgr;obtain⟨y1,y2,rfl⟩:=g1.shape;have hge:=Hd (show RowGe B0 (.slice y1 (delV g.vs c.id).length y2)from fun j hj=>(hob j hj).elim (fun h=>own_ge (hO1.out w4 K4.out) j h) (fun h=>by have:=hk3.out.size;have:=hBw.out.size;omega));clear hob;have hgh:=Hd (show GV w5 (.agg #[.slice y1 (delV g.vs c.id).length y2,.slice b1 k b2,.slice c1 N3 c2]) {g with vs:=delV g.vs c.id,es:=g.es.map (ctE c.id c.n)}from⟨_,_,_,rfl,g1,g2,g3⟩);obtain⟨M1,hM1⟩:∃M,Hid (M=(delV g.vs c.id).length):=⟨_,rfl⟩;rw[<-hM1.out]at hgh ⊢;have hrs:wr.heap.size=w4.heap.size:=hk3.out.size;have r8:=Hd ((b5.block (B+2) (by omega)).trans (hRS.out wr _ hk3.out));have hf:=Hd (belK_at (hBw.out.trans (K4.out.mono (show B<=w1.heap.size by omega))) hB.out hB0 (hk3.out.bel.trans (b5.mono (by omega))) hn26.out (fun j hj hg=>(b5.block j (by omega)).trans (hk3.out.oth j hg)) #[.slice y1 M1 y2,.slice b1 k b2,.slice c1 N3 c2]);clear b5 g1 g2 g3 hW t0 t1 t2 p9 pA
      go_wp2_with (refine wpList_store_row rfl 26 (.tmp 4) (.tmp 250) rfl (B+2) #[.slice y1 M1 y2,.slice b1 k b2,.slice c1 N3 c2] rfl rfl 26 _ r8.out (size26b _ _ _) rfl (by simp[Value.oneCell']) ?_)
      refine bodyPost_ret (results_cell_tmp_row (fn:=Tryz.f58) rfl _ _ (B+2) 26 #[.slice y1 M1 y2,.slice b1 k b2,.slice c1 N3 c2] (0,0) _ _ rfl rfl (setRow_heap _ _ _ _ _ _ r8.out) Tryz.underlying26 rfl (size26b _ _ _)) rfl ?_;exact ActR.yesM (by rw[hact.out];exact hyes.out) rfl (GV.shut0 hgh.out r8.out _) ⟨fun j hj=>hge.out j (by cases y1 with|none=>exact hj|some a=>exact hj),own_ge (hO2.out w4 K4.out),own_ge (hO3.out w4 K4.out)⟩ hf.out
end Go.Proofs.YtlaldnlgapeckaaGreat
