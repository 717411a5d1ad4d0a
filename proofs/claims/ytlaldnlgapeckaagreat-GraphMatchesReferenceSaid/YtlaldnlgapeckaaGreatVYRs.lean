/- Facts. -/
import Derived.Test.YtlaldnlgapeckaaGreatVYRa
set_option linter.unusedSimpArgs false
set_option maxRecDepth 100000
set_option maxHeartbeats 4000000
namespace Go.Proofs.YtlaldnlgapeckaaGreat
open Go.RowKit
theorem OwnV.at{W:World}{B n c:Nat}{a:Option Addr}{l:List Vx}(h:OwnV W B (.slice a n c) l)(hl:l≠[]):∃gb cur,a=some ⟨gb,0,none⟩/\B<=gb/\W.heap[gb]?=some (.cells cur 29 (0,0))/\LieV W gb 0 l:=by
 obtain⟨b,o,c',e,_,_,h4⟩:=h.VL.own hl;unfold OwnV at h;rcases h.2 with⟨e2,h0⟩|⟨g,cap,cur,e2,hb,hg,_⟩
 ·exact absurd (List.length_eq_zero_iff.1 h0) hl
 ·injection e2 with e2 _ _
  injection e with e _ _
  rw[e2]at e;injection e with e
  injection e with e e3 _
  subst e e3;exact⟨g,cur,e2,hb,hg,h4⟩
theorem OwnEd.at{W:World}{B n c:Nat}{a:Option Addr}{l:List Ed}(h:OwnEd W B (.slice a n c) l)(hl:l≠[]):∃gb cur,a=some ⟨gb,0,none⟩/\B<=gb/\W.heap[gb]?=some (.cells cur 31 (0,0))/\LieE W gb 0 l:=by
 obtain⟨b,o,c',e,_,_,h4⟩:=h.EL.own hl;unfold OwnEd at h;rcases h.2 with⟨e2,h0⟩|⟨g,cap,cur,e2,hb,hg,_⟩
 ·exact absurd (List.length_eq_zero_iff.1 h0) hl
 ·injection e2 with e2 _ _
  injection e with e _ _
  rw[e2]at e;injection e with e
  injection e with e e3 _
  subst e e3;exact⟨g,cur,e2,hb,hg,h4⟩
theorem ActR.yesM{g g':Gr}{c:Ch}{B0:Nat}{w0 w':World}{e:Ending}{a1 a2 a3:Option Addr}{n1 n2 n3 d1 d2 d3:Nat}(h:(actK g c).map (·.1)=some g')(he:e= .returned (.tuple #[.agg #[.slice a1 n1 d1,.slice a2 n2 d2,.slice a3 n3 d3],.bool true]))(hg:GV w' (.agg #[.slice a1 n1 d1,.slice a2 n2 d2,.slice a3 n3 d3]) g')(hk:RowGe B0 (.slice a1 n1 d1)/\RowGe B0 (.slice a2 n2 d2)/\RowGe B0 (.slice a3 n3 d3))(hb:BelK B0 w0 w'):ActR g c B0 w0 e w':=by
 cases hx:actK g c with
 | none=>rw[hx]at h;cases h
 | some p =>
  obtain⟨g2,u⟩:=p;rw[hx]at h;injection h with h
  replace h:g2=g':=h;subst h;exact ActR.yes hx he hg hk hb
theorem addr_ne{b i j:Nat}(h:i≠j):(⟨b,i,none⟩:Addr)≠⟨b,j,none⟩:=fun e=>by injection e;contradiction
theorem lieV_side{W:World}{b o:Nat}{l:List Vx}(h:LieV W b o l)(p:Nat)(hp:p<l.length)(n:Int):LieV (W.setCell ⟨b,o+p*2+1,none⟩ (.int .i64 n)) b o (l.set p (setSide n l[p])):=fun j x hx=>by
 by_cases e:j=p
 ·subst e;rw[List.getElem?_set_self hp]at hx;injection hx with hx
  subst hx;obtain⟨c0,c1⟩:=h j _ (List.getElem?_eq_getElem hp);exact⟨by rw[World.cell?_setCell_other _ _ _ _ (addr_ne (by omega))];exact c0,World.cell?_setCell_same _ _ _ c1⟩
 ·rw[List.getElem?_set_ne (Ne.symm e)]at hx;obtain⟨c0,c1⟩:=h j x hx;exact⟨by rw[World.cell?_setCell_other _ _ _ _ (addr_ne (by omega))];exact c0,by rw[World.cell?_setCell_other _ _ _ _ (addr_ne (by omega))];exact c1⟩
theorem EdAt.iff{W:World}{b o:Nat}{e:Ed}:EdAt W b o e↔ ∀(i:Nat) u,(edCells e)[i]?=some u->W.cell? ⟨b,o+i,none⟩=some u:=by
 constructor
 ·rintro⟨d0,d1,d2,d3,d4,d5⟩ i u hu;have hi:i<6:=(Array.getElem?_eq_some_iff.1 hu).1;have:i=0\/i=1\/i=2\/i=3\/i=4\/i=5:=by omega
  rcases this with rfl|rfl|rfl|rfl|rfl|rfl<;>(simp[edCells]at hu;subst hu;assumption)
 ·intro h;exact⟨h 0 _ rfl,h 1 _ rfl,h 2 _ rfl,h 3 _ rfl,h 4 _ rfl,h 5 _ rfl⟩
theorem lieE_set{W:World}{b o:Nat}{l:List Ed}(h:LieE W b o l)(p:Nat)(hp:p<l.length)(i:Nat)(hi:i<6)(u:Value)(e':Ed)(hc:edCells e'=(edCells l[p]).setIfInBounds i u):LieE (W.setCell ⟨b,o+p*6+i,none⟩ u) b o (l.set p e'):=fun j x hx=>by
 by_cases e:j=p
 ·subst e;rw[List.getElem?_set_self hp]at hx;injection hx with hx
  subst hx;have h0:=EdAt.iff.1 (h j _ (List.getElem?_eq_getElem hp));refine EdAt.iff.2 fun k v hv=>?_;by_cases ek:k=i
  ·subst ek;rw[hc,Array.getElem?_setIfInBounds_self_of_lt (by simpa[edCells]using hi)]at hv;injection hv with hv
   subst hv;exact World.cell?_setCell_same _ _ _ (h0 k _ (Array.getElem?_eq_getElem (by simpa[edCells]using hi)))
  ·rw[hc,Array.getElem?_setIfInBounds_ne (Ne.symm ek)]at hv;rw[World.cell?_setCell_other _ _ _ _ (addr_ne (by omega))];exact h0 k v hv
 ·rw[List.getElem?_set_ne (Ne.symm e)]at hx;have h0:=EdAt.iff.1 (h j x hx);refine EdAt.iff.2 fun k v hv=>?_;have hk:k<6:=(Array.getElem?_eq_some_iff.1 hv).1;rw[World.cell?_setCell_other _ _ _ _ (addr_ne (by omega))];exact h0 k v hv
theorem actR_9(va vb vc ca cb:Value)(g:Gr)(c:Ch)(B0:Nat)(w0:World)(h1:OwnV w0 B0 va g.vs)(h2:OwnEd w0 B0 vb g.es)(h3:OwnI w0 B0 vc g.ds)(h4:DL w0 ca c.ends)(h5:DL w0 cb c.deps)(hok:Ok g)(hB0:B0<=w0.heap.size)(hl:c.ends.length<=100000/\c.deps.length<=100000)(hk:c.kind=9):
  Calls Tryz.prog 58 #[.agg #[va,vb,vc],.agg (chCells c ca cb)] w0 (ActR g c B0 w0):=by
 obtain⟨a1,a2,rfl⟩:=h1.VL.shape;obtain⟨b1,b2,rfl⟩:=h2.EL.shape;obtain⟨c1,c2,rfl⟩:=h3.DL.shape;obtain⟨e1,e2,rfl⟩:=h4.shape;obtain⟨f1,f2,rfl⟩:=h5.shape;obtain⟨N1,hN1⟩:∃N,Hid (N=g.vs.length):=⟨_,rfl⟩;obtain⟨N2,hN2⟩:∃N,Hid (N=g.es.length):=⟨_,rfl⟩;obtain⟨N3,hN3⟩:∃N,Hid (N=g.ds.length):=⟨_,rfl⟩;obtain⟨m1,hm1⟩:∃N,Hid (N=c.ends.length):=⟨_,rfl⟩;obtain⟨m2,hm2⟩:∃N,Hid (N=c.deps.length):=⟨_,rfl⟩;have z1:=hok.vlen;have z2:=hok.elen;have z3:=hok.dlen;obtain⟨l1,l2⟩:=hl;rw[<-hN1.out]at h1 z1 ⊢;rw[<-hN2.out]at h2 z2 ⊢;rw[<-hN3.out]at h3 z3 ⊢;rw[<-hm1.out]at h4 l1 ⊢;rw[<-hm2.out]at h5 l2 ⊢;unfold chCells;rw[hk];obtain⟨B,w1,hB,hwh,hsz,hB0,hBw,hbox,hcbx,hres,hO1,hO2,hO3,hL4,hL5,hgv,hbase,hT,hR,cP,cF,hlow,hlow3⟩:=act_pre 9 h1 h2 h3 h4 h5 hN1.out hN2.out z1 z2 hB0;have hokh:=Hd hok;have hkh:=Hd hk;have hact:=Hd (show actK g c=act9 g c by unfold actK;simp[hk]);obtain⟨⟨t0,t1,t2⟩,p0,p1,p2,p3,p4,p5,p6,p7,p8,p9,pA,pB,pC⟩:=hT.out w1 (Below.refl _ _);try dsimp only at p0 p1 p2 p3 p4 p5 p6 p7 p8 p9 pA
 clear h1 h2 h3 h4 h5 hok hk;go_enter Tryz.func58,Tryz.ntmps58;go_wp2_with fail;rw[<-hwh.out,<-hB.out];with_reducible refine(cP.out w1 (Below.refl _ _)).mono ?_
 rintro e w2 ⟨rfl,k2⟩;have K2:=Hd k2;clear k2 t0 t1 t2 p0 p1 p2 p3 p4 p5 p6 p7 p8 p9 pA pB pC;obtain⟨⟨t0,t1,t2⟩,p0,p1,p2,p3,p4,p5,p6,p7,p8,p9,pA,pB,pC⟩:=hT.out w2 K2.out;try dsimp only at p0 p1 p2 p3 p4 p5 p6 p7 p8 p9 pA
 go_wp2_with fail;with_reducible refine(cF.out w2 K2.out).mono ?_
 rintro e w3 ⟨rfl,k3⟩;have K3:=Hd (K2.out.trans (k3.mono K2.out.size));clear k3 K2 t0 t1 t2 p0 p1 p2 p3 p4 p5 p6 p7 p8 p9 pA pB pC;obtain⟨⟨t0,t1,t2⟩,p0,p1,p2,p3,p4,p5,p6,p7,p8,p9,pA,pB,pC⟩:=hT.out w3 K3.out;try dsimp only at p0 p1 p2 p3 p4 p5 p6 p7 p8 p9 pA
 have hnoB:=Hd (show ∀W,Below w1.heap.size w1 W->BelK B0 w0 (W.setRow (B+2) #[.slice a1 N1 a2,.slice b1 N2 b2,.slice c1 N3 c2])from fun W BB=>belK_no hBw.out hB.out hB0 (by omega) BB _);generalize plI (keysE g.es) c.id=P2 at *
 have r8:=Hd (hR.out w3 K3.out);have hf:=Hd (hnoB.out w3 K3.out);by_cases hm:c.id∈keysV g.vs;rotate_left
 ·rw[plI_no _ _ hm];have hno:=Hd (show act9 g c=none by unfold act9;simp[hm]);clear hm
  go_wp2_with (refine wpList_store_row rfl 26 (.tmp 4) (.tmp 352) rfl (B+2) #[.slice a1 N1 a2,.slice b1 N2 b2,.slice c1 N3 c2] rfl rfl 26 _ r8.out (size26b _ _ _) rfl (by simp[Value.oneCell']) ?_)
  refine bodyPost_ret (results_cell_tmp_row (fn:=Tryz.f58) rfl _ _ (B+2) 26 #[.slice a1 N1 a2,.slice b1 N2 b2,.slice c1 N3 c2] (0,0) _ _ rfl rfl (setRow_heap _ _ _ _ _ _ r8.out) Tryz.underlying26 rfl (size26b _ _ _)) rfl ?_;exact ActR.no (by rw[hact.out];exact hno.out) rfl hf.out
 ·obtain⟨hq,hqx⟩:=posV_lt g.vs c.id hokh.out.vasc hm;have hpl:plI (keysV g.vs) c.id=(posK (keysV g.vs) c.id:Nat):=plI_at _ _ _ (by simpa[keysV]using hq) (fun j hj hjp=>by
   have hlt:=List.pairwise_iff_getElem.1 hokh.out.vasc j (posK (keysV g.vs) c.id) hj (by simpa[keysV]using hq) hjp;intro e;rw[e]at hlt;have e2:(keysV g.vs)[posK (keysV g.vs) c.id]'(by simpa[keysV]using hq)=g.vs[posK (keysV g.vs) c.id].id:=by simp only[keysV,List.getElem_map]
   rw[e2,hqx]at hlt;omega) (by
   have e2:(keysV g.vs)[posK (keysV g.vs) c.id]'(by simpa[keysV]using hq)=g.vs[posK (keysV g.vs) c.id].id:=by simp only[keysV,List.getElem_map]
   rw[e2];exact hqx)
  have hon:=Hd (onV_eq g.vs c.id (setSide c.n) hokh.out.vasc hq hqx);rw[hpl];generalize posK (keysV g.vs) c.id=p at *
  have cI:=Hd (fun W=>in_any c.n 0 3 W);have hmh:=Hd hm;have i0:(0:Int)<=(p:Int):=by omega
  have hpN:p<N1:=by rw[hN1.out];exact hq
  have i1:(p:Int)<(N1:Int):=by omega
  obtain⟨bi,hbi⟩:∃b,Hid (b=inB c.n 0 3):=⟨_,rfl⟩;rw[<-hbi.out]at cI;clear hm hpl hqx;go_wp2_with fail;with_reducible refine(cI.out _).mono ?_
  rintro e w4 ⟨rfl,rfl⟩;cases bi with
  | false =>
   have hno:=Hd (show act9 g c=none by unfold act9;rw[<-hbi.out];simp);clear hq hon
   go_wp2_with (refine wpList_store_row rfl 26 (.tmp 4) (.tmp 352) rfl (B+2) #[.slice a1 N1 a2,.slice b1 N2 b2,.slice c1 N3 c2] rfl rfl 26 _ r8.out (size26b _ _ _) rfl (by simp[Value.oneCell']) ?_)
   refine bodyPost_ret (results_cell_tmp_row (fn:=Tryz.f58) rfl _ _ (B+2) 26 #[.slice a1 N1 a2,.slice b1 N2 b2,.slice c1 N3 c2] (0,0) _ _ rfl rfl (setRow_heap _ _ _ _ _ _ r8.out) Tryz.underlying26 rfl (size26b _ _ _)) rfl ?_;exact ActR.no (by rw[hact.out];exact hno.out) rfl hf.out
  | true =>
   have hyes:=Hd (show(act9 g c).map (·.1)=some {g with vs:=onV g.vs c.id (setSide c.n)}by unfold act9;rw[<-hbi.out];simp[hmh.out]);obtain⟨gb,cur,hab,hbb,hcur,hlie⟩:=OwnV.at (hO1.out w3 K3.out) (fun e=>by rw[e]at hq;simp at hq);subst hab;have hlt3:gb<w3.heap.size:=(Array.getElem?_eq_some_iff.1 hcur).1;have hgb:gb<B:=hlow.out.1 gb (by simp[Value.ownBlock]);have hne1:¬gb=B:=by omega
   have hne2:¬B=gb:=by omega
   have hne3:¬gb=B+1:=by omega
   have fr:=free_of_block (i:=0+p*2+1) hcur;have dS2:∃sv,w3.cell? ⟨gb,0+p*2+1,none⟩=some (.int .i64 sv):=⟨_,(hlie p _ (List.getElem?_eq_getElem hq)).2⟩;obtain⟨sv,dS⟩:=dS2;simp only[Nat.zero_add]at dS fr;have hother:=Hd (show ∀(e n':Nat) (e':TypeId) (v:Value) (xs:List Value),e'≠29->w3.ownsRow B0 e' e v n' xs->(w3.setCell ⟨gb,0+p*2+1,none⟩ (.int .i64 c.n)).ownsRow B0 e' e v n' xs from fun e n' e' v xs hne h=>ownsRow_setCell_other h (fun e2=>by
    obtain⟨_,cur2,h2⟩:=own_row h gb e2;rw[hcur]at h2;simp at h2;exact hne h2.2.symm) _)
   have hcap:=Hd (show N1<=a2 by
    obtain⟨_,_,_,e,h,_⟩:=OwnV.VL (hO1.out w3 K3.out) |>.own (fun e=>by rw[e]at hq;simp at hq);injection e with _ _ e
    rw[e,hN1.out];exact h)
   have r9:∃w5,Hid (w5=w3.setCell ⟨gb,0+p*2+1,none⟩ (.int .i64 c.n)):=⟨_,rfl⟩;obtain⟨w5,hw5⟩:=r9;have r5:=Hd (show(w3.setCell ⟨gb,p*2+1,none⟩ (.int .i64 c.n)).heap[B+2]?=some (.cells #[.slice none 0 0,.slice none 0 0,.slice none 0 0] 26 (0,0))from(heap_setCell_other w3 _ (B+2) _ (by simp;omega)).trans r8.out);have hvl:=Hd (show VL (w3.setCell ⟨gb,0+p*2+1,none⟩ (.int .i64 c.n)) (.slice (some ⟨gb,0,none⟩) N1 a2) (onV g.vs c.id (setSide c.n))from by
    rw[hon.out];refine .inr ⟨fun e=>by rw[List.set_eq_nil_iff]at e;rw[e]at hq;simp at hq,gb,0,_,by rw[List.length_set,<-hN1.out],by rw[List.length_set,<-hN1.out];exact hcap.out,by simpa using hlt3,?_⟩;exact lieV_side hlie p hq c.n)
   have hgf:=Hd (show GV (w3.setCell ⟨gb,0+p*2+1,none⟩ (.int .i64 c.n)) (.agg #[.slice (some ⟨gb,0,none⟩) N1 a2,.slice b1 N2 b2,.slice c1 N3 c2]) {g with vs:=onV g.vs c.id (setSide c.n)}from⟨_,_,_,rfl,hvl.out,OwnEd.EL (hother.out _ _ _ _ _ (by decide) (hO2.out w3 K3.out)),OwnI.DL (hother.out _ _ _ _ _ (by decide) (hO3.out w3 K3.out))⟩);simp only[Nat.zero_add]at hgf;have hfin:=Hd (belK_at (hBw.out.trans (K3.out.mono (show B<=w1.heap.size by omega))) hB.out hB0 ((hbase.out w3 K3.out).setCell (p:=⟨gb,p*2+1,none⟩) hbb (.int .i64 c.n)) (fun cs e=>by rw[hcur]at e;simp at e) (fun j _ hj=>heap_setCell_other w3 _ j _ hj) #[.slice (some ⟨gb,0,none⟩) N1 a2,.slice b1 N2 b2,.slice c1 N3 c2]);clear hq hon hbi hcur hlie hother hvl hw5
   go_wp2_with (refine wpList_store_row rfl 26 (.tmp 4) (.tmp 360) rfl (B+2) #[.slice (some ⟨gb,0,none⟩) N1 a2,.slice b1 N2 b2,.slice c1 N3 c2] rfl rfl 26 _ r5.out (size26b _ _ _) rfl (by simp[Value.oneCell']) ?_)
   refine bodyPost_ret (results_cell_tmp_row (fn:=Tryz.f58) rfl _ _ (B+2) 26 #[.slice (some ⟨gb,0,none⟩) N1 a2,.slice b1 N2 b2,.slice c1 N3 c2] (0,0) _ _ rfl rfl (setRow_heap _ _ _ _ _ _ r5.out) Tryz.underlying26 rfl (size26b _ _ _)) rfl ?_;exact ActR.yesM (by rw[hact.out];exact hyes.out) rfl (GV.shut0 hgf.out r5.out _) ⟨rowGe_at hbb,own_ge (hO2.out w3 K3.out),own_ge (hO3.out w3 K3.out)⟩ hfin.out
theorem actR_5(va vb vc ca cb:Value)(g:Gr)(c:Ch)(B0:Nat)(w0:World)(h1:OwnV w0 B0 va g.vs)(h2:OwnEd w0 B0 vb g.es)(h3:OwnI w0 B0 vc g.ds)(h4:DL w0 ca c.ends)(h5:DL w0 cb c.deps)(hok:Ok g)(hB0:B0<=w0.heap.size)(hl:c.ends.length<=100000/\c.deps.length<=100000)(hk:c.kind=5):
  Calls Tryz.prog 58 #[.agg #[va,vb,vc],.agg (chCells c ca cb)] w0 (ActR g c B0 w0):=by
 obtain⟨a1,a2,rfl⟩:=h1.VL.shape;obtain⟨b1,b2,rfl⟩:=h2.EL.shape;obtain⟨c1,c2,rfl⟩:=h3.DL.shape;obtain⟨e1,e2,rfl⟩:=h4.shape;obtain⟨f1,f2,rfl⟩:=h5.shape;obtain⟨N1,hN1⟩:∃N,Hid (N=g.vs.length):=⟨_,rfl⟩;obtain⟨N2,hN2⟩:∃N,Hid (N=g.es.length):=⟨_,rfl⟩;obtain⟨N3,hN3⟩:∃N,Hid (N=g.ds.length):=⟨_,rfl⟩;obtain⟨m1,hm1⟩:∃N,Hid (N=c.ends.length):=⟨_,rfl⟩;obtain⟨m2,hm2⟩:∃N,Hid (N=c.deps.length):=⟨_,rfl⟩;have z1:=hok.vlen;have z2:=hok.elen;have z3:=hok.dlen;obtain⟨l1,l2⟩:=hl;rw[<-hN1.out]at h1 z1 ⊢;rw[<-hN2.out]at h2 z2 ⊢;rw[<-hN3.out]at h3 z3 ⊢;rw[<-hm1.out]at h4 l1 ⊢;rw[<-hm2.out]at h5 l2 ⊢;unfold chCells;rw[hk];obtain⟨B,w1,hB,hwh,hsz,hB0,hBw,hbox,hcbx,hres,hO1,hO2,hO3,hL4,hL5,hgv,hbase,hT,hR,cP,cF,hlow,hlow3⟩:=act_pre 5 h1 h2 h3 h4 h5 hN1.out hN2.out z1 z2 hB0;have hokh:=Hd hok;have hkh:=Hd hk;have hact:=Hd (show actK g c=act5 g c by unfold actK;simp[hk]);obtain⟨⟨t0,t1,t2⟩,p0,p1,p2,p3,p4,p5,p6,p7,p8,p9,pA,pB,pC⟩:=hT.out w1 (Below.refl _ _);try dsimp only at p0 p1 p2 p3 p4 p5 p6 p7 p8 p9 pA
 clear h1 h2 h3 h4 h5 hok hk;go_enter Tryz.func58,Tryz.ntmps58;go_wp2_with fail;rw[<-hwh.out,<-hB.out];with_reducible refine(cP.out w1 (Below.refl _ _)).mono ?_
 rintro e w2 ⟨rfl,k2⟩;have K2:=Hd k2;clear k2 t0 t1 t2 p0 p1 p2 p3 p4 p5 p6 p7 p8 p9 pA pB pC;obtain⟨⟨t0,t1,t2⟩,p0,p1,p2,p3,p4,p5,p6,p7,p8,p9,pA,pB,pC⟩:=hT.out w2 K2.out;try dsimp only at p0 p1 p2 p3 p4 p5 p6 p7 p8 p9 pA
 go_wp2_with fail;with_reducible refine(cF.out w2 K2.out).mono ?_
 rintro e w3 ⟨rfl,k3⟩;have K3:=Hd (K2.out.trans (k3.mono K2.out.size));clear k3 K2 t0 t1 t2 p0 p1 p2 p3 p4 p5 p6 p7 p8 p9 pA pB pC;obtain⟨⟨t0,t1,t2⟩,p0,p1,p2,p3,p4,p5,p6,p7,p8,p9,pA,pB,pC⟩:=hT.out w3 K3.out;try dsimp only at p0 p1 p2 p3 p4 p5 p6 p7 p8 p9 pA
 have hnoB:=Hd (show ∀W,Below w1.heap.size w1 W->BelK B0 w0 (W.setRow (B+2) #[.slice a1 N1 a2,.slice b1 N2 b2,.slice c1 N3 c2])from fun W BB=>belK_no hBw.out hB.out hB0 (by omega) BB _);generalize plI (keysV g.vs) c.id=P1 at *
 have r8:=Hd (hR.out w3 K3.out);have hf:=Hd (hnoB.out w3 K3.out);by_cases hm:c.id∈keysE g.es;rotate_left
 ·rw[plI_no _ _ hm];have hno:=Hd (show act5 g c=none by unfold act5;simp[hm]);clear hm
  go_wp2_with (refine wpList_store_row rfl 26 (.tmp 4) (.tmp 155) rfl (B+2) #[.slice a1 N1 a2,.slice b1 N2 b2,.slice c1 N3 c2] rfl rfl 26 _ r8.out (size26b _ _ _) rfl (by simp[Value.oneCell']) ?_)
  refine bodyPost_ret (results_cell_tmp_row (fn:=Tryz.f58) rfl _ _ (B+2) 26 #[.slice a1 N1 a2,.slice b1 N2 b2,.slice c1 N3 c2] (0,0) _ _ rfl rfl (setRow_heap _ _ _ _ _ _ r8.out) Tryz.underlying26 rfl (size26b _ _ _)) rfl ?_;exact ActR.no (by rw[hact.out];exact hno.out) rfl hf.out
 ·obtain⟨hq,hqx⟩:=posE_lt g.es c.id hokh.out.easc hm;have hpl:plI (keysE g.es) c.id=(posK (keysE g.es) c.id:Nat):=plI_at _ _ _ (by simpa[keysE]using hq) (fun j hj hjp=>by
   have hlt:=List.pairwise_iff_getElem.1 hokh.out.easc j (posK (keysE g.es) c.id) hj (by simpa[keysE]using hq) hjp;intro e;rw[e]at hlt;have e2:(keysE g.es)[posK (keysE g.es) c.id]'(by simpa[keysE]using hq)=g.es[posK (keysE g.es) c.id].id:=by simp only[keysE,List.getElem_map]
   rw[e2,hqx]at hlt;omega) (by
   have e2:(keysE g.es)[posK (keysE g.es) c.id]'(by simpa[keysE]using hq)=g.es[posK (keysE g.es) c.id].id:=by simp only[keysE,List.getElem_map]
   rw[e2];exact hqx)
  have hon:=Hd (onE_eq g.es c.id (setWt c.n) hokh.out.easc hq hqx);rw[hpl];generalize posK (keysE g.es) c.id=p at *
  have cI:=Hd (fun W=>in_any c.n (-1000) 1000 W);have hmh:=Hd hm;have i0:(0:Int)<=(p:Int):=by omega
  have hpN:p<N2:=by rw[hN2.out];exact hq
  have i1:(p:Int)<(N2:Int):=by omega
  obtain⟨bi,hbi⟩:∃b,Hid (b=inB c.n (-1000) 1000):=⟨_,rfl⟩;rw[<-hbi.out]at cI;clear hm hpl hqx;go_wp2_with fail;with_reducible refine(cI.out _).mono ?_
  rintro e w4 ⟨rfl,rfl⟩;cases bi with
  | false =>
   have hno:=Hd (show act5 g c=none by unfold act5;rw[<-hbi.out];simp);clear hq hon
   go_wp2_with (refine wpList_store_row rfl 26 (.tmp 4) (.tmp 155) rfl (B+2) #[.slice a1 N1 a2,.slice b1 N2 b2,.slice c1 N3 c2] rfl rfl 26 _ r8.out (size26b _ _ _) rfl (by simp[Value.oneCell']) ?_)
   refine bodyPost_ret (results_cell_tmp_row (fn:=Tryz.f58) rfl _ _ (B+2) 26 #[.slice a1 N1 a2,.slice b1 N2 b2,.slice c1 N3 c2] (0,0) _ _ rfl rfl (setRow_heap _ _ _ _ _ _ r8.out) Tryz.underlying26 rfl (size26b _ _ _)) rfl ?_;exact ActR.no (by rw[hact.out];exact hno.out) rfl hf.out
  | true =>
   have hyes:=Hd (show(act5 g c).map (·.1)=some {g with es:=onE g.es c.id (setWt c.n)}by unfold act5;rw[<-hbi.out];simp[hmh.out]);obtain⟨gb,cur,hab,hbb,hcur,hlie⟩:=OwnEd.at (hO2.out w3 K3.out) (fun e=>by rw[e]at hq;simp at hq);subst hab;have hlt3:gb<w3.heap.size:=(Array.getElem?_eq_some_iff.1 hcur).1;have hgb:gb<B:=hlow.out.2 gb (by simp[Value.ownBlock]);have hne1:¬gb=B:=by omega
   have hne2:¬B=gb:=by omega
   have hne3:¬gb=B+1:=by omega
   have fr:=free_of_block (i:=0+p*6+4) hcur;have dS2:∃sv,w3.cell? ⟨gb,0+p*6+4,none⟩=some (.int .i64 sv):=⟨_,(hlie p _ (List.getElem?_eq_getElem hq)).2.2.2.2.1⟩;obtain⟨sv,dS⟩:=dS2;simp only[Nat.zero_add]at dS fr;have hother:=Hd (show ∀(e n':Nat) (e':TypeId) (v:Value) (xs:List Value),e'≠31->w3.ownsRow B0 e' e v n' xs->(w3.setCell ⟨gb,0+p*6+4,none⟩ (.int .i64 c.n)).ownsRow B0 e' e v n' xs from fun e n' e' v xs hne h=>ownsRow_setCell_other h (fun e2=>by
    obtain⟨_,cur2,h2⟩:=own_row h gb e2;rw[hcur]at h2;simp at h2;exact hne h2.2.symm) _)
   have hcap:=Hd (show N2<=b2 by
    obtain⟨_,_,_,e,h,_⟩:=OwnEd.EL (hO2.out w3 K3.out) |>.own (fun e=>by rw[e]at hq;simp at hq);injection e with _ _ e
    rw[e,hN2.out];exact h)
   have r9:∃w5,Hid (w5=w3.setCell ⟨gb,0+p*6+4,none⟩ (.int .i64 c.n)):=⟨_,rfl⟩;obtain⟨w5,hw5⟩:=r9;have r5:=Hd (show(w3.setCell ⟨gb,p*6+4,none⟩ (.int .i64 c.n)).heap[B+2]?=some (.cells #[.slice none 0 0,.slice none 0 0,.slice none 0 0] 26 (0,0))from(heap_setCell_other w3 _ (B+2) _ (by simp;omega)).trans r8.out);have hvl:=Hd (show EL (w3.setCell ⟨gb,0+p*6+4,none⟩ (.int .i64 c.n)) (.slice (some ⟨gb,0,none⟩) N2 b2) (onE g.es c.id (setWt c.n))from by
    rw[hon.out];refine .inr ⟨fun e=>by rw[List.set_eq_nil_iff]at e;rw[e]at hq;simp at hq,gb,0,_,by rw[List.length_set,<-hN2.out],by rw[List.length_set,<-hN2.out];exact hcap.out,by simpa using hlt3,?_⟩;exact lieE_set hlie p hq 4 (by omega) _ _ rfl)
   have hgf:=Hd (show GV (w3.setCell ⟨gb,0+p*6+4,none⟩ (.int .i64 c.n)) (.agg #[.slice a1 N1 a2,.slice (some ⟨gb,0,none⟩) N2 b2,.slice c1 N3 c2]) {g with es:=onE g.es c.id (setWt c.n)}from⟨_,_,_,rfl,OwnV.VL (hother.out _ _ _ _ _ (by decide) (hO1.out w3 K3.out)),hvl.out,OwnI.DL (hother.out _ _ _ _ _ (by decide) (hO3.out w3 K3.out))⟩);simp only[Nat.zero_add]at hgf;have hfin:=Hd (belK_at (hBw.out.trans (K3.out.mono (show B<=w1.heap.size by omega))) hB.out hB0 ((hbase.out w3 K3.out).setCell (p:=⟨gb,p*6+4,none⟩) hbb (.int .i64 c.n)) (fun cs e=>by rw[hcur]at e;simp at e) (fun j _ hj=>heap_setCell_other w3 _ j _ hj) #[.slice a1 N1 a2,.slice (some ⟨gb,0,none⟩) N2 b2,.slice c1 N3 c2]);clear hq hon hbi hcur hlie hother hvl hw5
   go_wp2_with (refine wpList_store_row rfl 26 (.tmp 4) (.tmp 163) rfl (B+2) #[.slice a1 N1 a2,.slice (some ⟨gb,0,none⟩) N2 b2,.slice c1 N3 c2] rfl rfl 26 _ r5.out (size26b _ _ _) rfl (by simp[Value.oneCell']) ?_)
   refine bodyPost_ret (results_cell_tmp_row (fn:=Tryz.f58) rfl _ _ (B+2) 26 #[.slice a1 N1 a2,.slice (some ⟨gb,0,none⟩) N2 b2,.slice c1 N3 c2] (0,0) _ _ rfl rfl (setRow_heap _ _ _ _ _ _ r5.out) Tryz.underlying26 rfl (size26b _ _ _)) rfl ?_;exact ActR.yesM (by rw[hact.out];exact hyes.out) rfl (GV.shut0 hgf.out r5.out _) ⟨own_ge (hO1.out w3 K3.out),rowGe_at hbb,own_ge (hO3.out w3 K3.out)⟩ hfin.out
theorem actR_6(va vb vc ca cb:Value)(g:Gr)(c:Ch)(B0:Nat)(w0:World)(h1:OwnV w0 B0 va g.vs)(h2:OwnEd w0 B0 vb g.es)(h3:OwnI w0 B0 vc g.ds)(h4:DL w0 ca c.ends)(h5:DL w0 cb c.deps)(hok:Ok g)(hB0:B0<=w0.heap.size)(hl:c.ends.length<=100000/\c.deps.length<=100000)(hk:c.kind=6):
  Calls Tryz.prog 58 #[.agg #[va,vb,vc],.agg (chCells c ca cb)] w0 (ActR g c B0 w0):=by
 obtain⟨a1,a2,rfl⟩:=h1.VL.shape;obtain⟨b1,b2,rfl⟩:=h2.EL.shape;obtain⟨c1,c2,rfl⟩:=h3.DL.shape;obtain⟨e1,e2,rfl⟩:=h4.shape;obtain⟨f1,f2,rfl⟩:=h5.shape;obtain⟨N1,hN1⟩:∃N,Hid (N=g.vs.length):=⟨_,rfl⟩;obtain⟨N2,hN2⟩:∃N,Hid (N=g.es.length):=⟨_,rfl⟩;obtain⟨N3,hN3⟩:∃N,Hid (N=g.ds.length):=⟨_,rfl⟩;obtain⟨m1,hm1⟩:∃N,Hid (N=c.ends.length):=⟨_,rfl⟩;obtain⟨m2,hm2⟩:∃N,Hid (N=c.deps.length):=⟨_,rfl⟩;have z1:=hok.vlen;have z2:=hok.elen;have z3:=hok.dlen;obtain⟨l1,l2⟩:=hl;rw[<-hN1.out]at h1 z1 ⊢;rw[<-hN2.out]at h2 z2 ⊢;rw[<-hN3.out]at h3 z3 ⊢;rw[<-hm1.out]at h4 l1 ⊢;rw[<-hm2.out]at h5 l2 ⊢;unfold chCells;rw[hk];obtain⟨B,w1,hB,hwh,hsz,hB0,hBw,hbox,hcbx,hres,hO1,hO2,hO3,hL4,hL5,hgv,hbase,hT,hR,cP,cF,hlow,hlow3⟩:=act_pre 6 h1 h2 h3 h4 h5 hN1.out hN2.out z1 z2 hB0;have hokh:=Hd hok;have hkh:=Hd hk;have hact:=Hd (show actK g c=act6 g c by unfold actK;simp[hk]);obtain⟨⟨t0,t1,t2⟩,p0,p1,p2,p3,p4,p5,p6,p7,p8,p9,pA,pB,pC⟩:=hT.out w1 (Below.refl _ _);try dsimp only at p0 p1 p2 p3 p4 p5 p6 p7 p8 p9 pA
 clear h1 h2 h3 h4 h5 hok hk;go_enter Tryz.func58,Tryz.ntmps58;go_wp2_with fail;rw[<-hwh.out,<-hB.out];with_reducible refine(cP.out w1 (Below.refl _ _)).mono ?_
 rintro e w2 ⟨rfl,k2⟩;have K2:=Hd k2;clear k2 t0 t1 t2 p0 p1 p2 p3 p4 p5 p6 p7 p8 p9 pA pB pC;obtain⟨⟨t0,t1,t2⟩,p0,p1,p2,p3,p4,p5,p6,p7,p8,p9,pA,pB,pC⟩:=hT.out w2 K2.out;try dsimp only at p0 p1 p2 p3 p4 p5 p6 p7 p8 p9 pA
 go_wp2_with fail;with_reducible refine(cF.out w2 K2.out).mono ?_
 rintro e w3 ⟨rfl,k3⟩;have K3:=Hd (K2.out.trans (k3.mono K2.out.size));clear k3 K2 t0 t1 t2 p0 p1 p2 p3 p4 p5 p6 p7 p8 p9 pA pB pC;obtain⟨⟨t0,t1,t2⟩,p0,p1,p2,p3,p4,p5,p6,p7,p8,p9,pA,pB,pC⟩:=hT.out w3 K3.out;try dsimp only at p0 p1 p2 p3 p4 p5 p6 p7 p8 p9 pA
 have hnoB:=Hd (show ∀W,Below w1.heap.size w1 W->BelK B0 w0 (W.setRow (B+2) #[.slice a1 N1 a2,.slice b1 N2 b2,.slice c1 N3 c2])from fun W BB=>belK_no hBw.out hB.out hB0 (by omega) BB _);generalize plI (keysV g.vs) c.id=P1 at *
 have r8:=Hd (hR.out w3 K3.out);have hf:=Hd (hnoB.out w3 K3.out);by_cases hm:c.id∈keysE g.es;rotate_left
 ·rw[plI_no _ _ hm];have hno:=Hd (show act6 g c=none by unfold act6;simp[hm]);clear hm
  go_wp2_with (refine wpList_store_row rfl 26 (.tmp 4) (.tmp 174) rfl (B+2) #[.slice a1 N1 a2,.slice b1 N2 b2,.slice c1 N3 c2] rfl rfl 26 _ r8.out (size26b _ _ _) rfl (by simp[Value.oneCell']) ?_)
  refine bodyPost_ret (results_cell_tmp_row (fn:=Tryz.f58) rfl _ _ (B+2) 26 #[.slice a1 N1 a2,.slice b1 N2 b2,.slice c1 N3 c2] (0,0) _ _ rfl rfl (setRow_heap _ _ _ _ _ _ r8.out) Tryz.underlying26 rfl (size26b _ _ _)) rfl ?_;exact ActR.no (by rw[hact.out];exact hno.out) rfl hf.out
 ·obtain⟨hq,hqx⟩:=posE_lt g.es c.id hokh.out.easc hm;have hpl:plI (keysE g.es) c.id=(posK (keysE g.es) c.id:Nat):=plI_at _ _ _ (by simpa[keysE]using hq) (fun j hj hjp=>by
   have hlt:=List.pairwise_iff_getElem.1 hokh.out.easc j (posK (keysE g.es) c.id) hj (by simpa[keysE]using hq) hjp;intro e;rw[e]at hlt;have e2:(keysE g.es)[posK (keysE g.es) c.id]'(by simpa[keysE]using hq)=g.es[posK (keysE g.es) c.id].id:=by simp only[keysE,List.getElem_map]
   rw[e2,hqx]at hlt;omega) (by
   have e2:(keysE g.es)[posK (keysE g.es) c.id]'(by simpa[keysE]using hq)=g.es[posK (keysE g.es) c.id].id:=by simp only[keysE,List.getElem_map]
   rw[e2];exact hqx)
  have hon:=Hd (onE_eq g.es c.id (setCap c.n) hokh.out.easc hq hqx);rw[hpl];generalize posK (keysE g.es) c.id=p at *
  have cI:=Hd (fun W=>in_any c.n 0 1000 W);have hmh:=Hd hm;have i0:(0:Int)<=(p:Int):=by omega
  have hpN:p<N2:=by rw[hN2.out];exact hq
  have i1:(p:Int)<(N2:Int):=by omega
  obtain⟨bi,hbi⟩:∃b,Hid (b=inB c.n 0 1000):=⟨_,rfl⟩;rw[<-hbi.out]at cI;clear hm hpl hqx;go_wp2_with fail;with_reducible refine(cI.out _).mono ?_
  rintro e w4 ⟨rfl,rfl⟩;cases bi with
  | false =>
   have hno:=Hd (show act6 g c=none by unfold act6;rw[<-hbi.out];simp);clear hq hon
   go_wp2_with (refine wpList_store_row rfl 26 (.tmp 4) (.tmp 174) rfl (B+2) #[.slice a1 N1 a2,.slice b1 N2 b2,.slice c1 N3 c2] rfl rfl 26 _ r8.out (size26b _ _ _) rfl (by simp[Value.oneCell']) ?_)
   refine bodyPost_ret (results_cell_tmp_row (fn:=Tryz.f58) rfl _ _ (B+2) 26 #[.slice a1 N1 a2,.slice b1 N2 b2,.slice c1 N3 c2] (0,0) _ _ rfl rfl (setRow_heap _ _ _ _ _ _ r8.out) Tryz.underlying26 rfl (size26b _ _ _)) rfl ?_;exact ActR.no (by rw[hact.out];exact hno.out) rfl hf.out
  | true =>
   have hyes:=Hd (show(act6 g c).map (·.1)=some {g with es:=onE g.es c.id (setCap c.n)}by unfold act6;rw[<-hbi.out];simp[hmh.out]);obtain⟨gb,cur,hab,hbb,hcur,hlie⟩:=OwnEd.at (hO2.out w3 K3.out) (fun e=>by rw[e]at hq;simp at hq);subst hab;have hlt3:gb<w3.heap.size:=(Array.getElem?_eq_some_iff.1 hcur).1;have hgb:gb<B:=hlow.out.2 gb (by simp[Value.ownBlock]);have hne1:¬gb=B:=by omega
   have hne2:¬B=gb:=by omega
   have hne3:¬gb=B+1:=by omega
   have fr:=free_of_block (i:=0+p*6+5) hcur;have dS2:∃sv,w3.cell? ⟨gb,0+p*6+5,none⟩=some (.int .i64 sv):=⟨_,(hlie p _ (List.getElem?_eq_getElem hq)).2.2.2.2.2⟩;obtain⟨sv,dS⟩:=dS2;simp only[Nat.zero_add]at dS fr;have hother:=Hd (show ∀(e n':Nat) (e':TypeId) (v:Value) (xs:List Value),e'≠31->w3.ownsRow B0 e' e v n' xs->(w3.setCell ⟨gb,0+p*6+5,none⟩ (.int .i64 c.n)).ownsRow B0 e' e v n' xs from fun e n' e' v xs hne h=>ownsRow_setCell_other h (fun e2=>by
    obtain⟨_,cur2,h2⟩:=own_row h gb e2;rw[hcur]at h2;simp at h2;exact hne h2.2.symm) _)
   have hcap:=Hd (show N2<=b2 by
    obtain⟨_,_,_,e,h,_⟩:=OwnEd.EL (hO2.out w3 K3.out) |>.own (fun e=>by rw[e]at hq;simp at hq);injection e with _ _ e
    rw[e,hN2.out];exact h)
   have r9:∃w5,Hid (w5=w3.setCell ⟨gb,0+p*6+5,none⟩ (.int .i64 c.n)):=⟨_,rfl⟩;obtain⟨w5,hw5⟩:=r9;have r5:=Hd (show(w3.setCell ⟨gb,p*6+5,none⟩ (.int .i64 c.n)).heap[B+2]?=some (.cells #[.slice none 0 0,.slice none 0 0,.slice none 0 0] 26 (0,0))from(heap_setCell_other w3 _ (B+2) _ (by simp;omega)).trans r8.out);have hvl:=Hd (show EL (w3.setCell ⟨gb,0+p*6+5,none⟩ (.int .i64 c.n)) (.slice (some ⟨gb,0,none⟩) N2 b2) (onE g.es c.id (setCap c.n))from by
    rw[hon.out];refine .inr ⟨fun e=>by rw[List.set_eq_nil_iff]at e;rw[e]at hq;simp at hq,gb,0,_,by rw[List.length_set,<-hN2.out],by rw[List.length_set,<-hN2.out];exact hcap.out,by simpa using hlt3,?_⟩;exact lieE_set hlie p hq 5 (by omega) _ _ rfl)
   have hgf:=Hd (show GV (w3.setCell ⟨gb,0+p*6+5,none⟩ (.int .i64 c.n)) (.agg #[.slice a1 N1 a2,.slice (some ⟨gb,0,none⟩) N2 b2,.slice c1 N3 c2]) {g with es:=onE g.es c.id (setCap c.n)}from⟨_,_,_,rfl,OwnV.VL (hother.out _ _ _ _ _ (by decide) (hO1.out w3 K3.out)),hvl.out,OwnI.DL (hother.out _ _ _ _ _ (by decide) (hO3.out w3 K3.out))⟩);simp only[Nat.zero_add]at hgf;have hfin:=Hd (belK_at (hBw.out.trans (K3.out.mono (show B<=w1.heap.size by omega))) hB.out hB0 ((hbase.out w3 K3.out).setCell (p:=⟨gb,p*6+5,none⟩) hbb (.int .i64 c.n)) (fun cs e=>by rw[hcur]at e;simp at e) (fun j _ hj=>heap_setCell_other w3 _ j _ hj) #[.slice a1 N1 a2,.slice (some ⟨gb,0,none⟩) N2 b2,.slice c1 N3 c2]);clear hq hon hbi hcur hlie hother hvl hw5
   go_wp2_with (refine wpList_store_row rfl 26 (.tmp 4) (.tmp 182) rfl (B+2) #[.slice a1 N1 a2,.slice (some ⟨gb,0,none⟩) N2 b2,.slice c1 N3 c2] rfl rfl 26 _ r5.out (size26b _ _ _) rfl (by simp[Value.oneCell']) ?_)
   refine bodyPost_ret (results_cell_tmp_row (fn:=Tryz.f58) rfl _ _ (B+2) 26 #[.slice a1 N1 a2,.slice (some ⟨gb,0,none⟩) N2 b2,.slice c1 N3 c2] (0,0) _ _ rfl rfl (setRow_heap _ _ _ _ _ _ r5.out) Tryz.underlying26 rfl (size26b _ _ _)) rfl ?_;exact ActR.yesM (by rw[hact.out];exact hyes.out) rfl (GV.shut0 hgf.out r5.out _) ⟨own_ge (hO1.out w3 K3.out),rowGe_at hbb,own_ge (hO3.out w3 K3.out)⟩ hfin.out
end Go.Proofs.YtlaldnlgapeckaaGreat
