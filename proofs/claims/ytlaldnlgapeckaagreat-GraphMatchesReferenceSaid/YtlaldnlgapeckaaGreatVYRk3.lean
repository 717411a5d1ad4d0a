/- Facts. -/
import Derived.Test.YtlaldnlgapeckaaGreatVYRe2
set_option linter.unusedSimpArgs false
set_option maxRecDepth 100000
set_option maxHeartbeats 4000000
namespace Go.Proofs.YtlaldnlgapeckaaGreat
open Go.RowKit
theorem okIn_split(e:Ed)(g:Gr)(h:Ok g):e.okIn (keysV g.vs)=(e.ok&&decide (e.src∈keysV g.vs)&&decide (e.dst∈keysV g.vs)):=by
 have hk:∀x∈keysV g.vs,0<=x/\x<=23:=fun x hx=>by
  obtain⟨v,hv,rfl⟩:=mem_keysV.1 hx;exact((Vx.ok_iff v).1 (h.vok v hv)).1
 rw[Bool.eq_iff_iff,Ed.okIn_iff];unfold Ed.ok;simp only[Bool.and_eq_true,inB_iff,decide_eq_true_eq];constructor
 ·rintro⟨h1,h2,h3,h4,h5⟩;exact⟨⟨⟨⟨⟨⟨h1,hk _ h2⟩,hk _ h3⟩,h4⟩,h5⟩,h2⟩,h3⟩
 ·rintro⟨⟨⟨⟨⟨⟨h1,_⟩,_⟩,h4⟩,h5⟩,h2⟩,h3⟩;exact⟨h1,h2,h3,h4,h5⟩
theorem actR_3(va vb vc ca cb:Value)(g:Gr)(c:Ch)(B0:Nat)(w0:World)(h1:OwnV w0 B0 va g.vs)(h2:OwnEd w0 B0 vb g.es)(h3:OwnI w0 B0 vc g.ds)(h4:DL w0 ca c.ends)(h5:DL w0 cb c.deps)(hok:Ok g)(hB0:B0<=w0.heap.size)(hl:c.ends.length<=100000/\c.deps.length<=100000)(hk:c.kind=3):
  Calls Tryz.prog 58 #[.agg #[va,vb,vc],.agg (chCells c ca cb)] w0 (ActR g c B0 w0):=by
 obtain⟨a1,a2,rfl⟩:=h1.VL.shape;obtain⟨b1,b2,rfl⟩:=h2.EL.shape;obtain⟨c1,c2,rfl⟩:=h3.DL.shape;obtain⟨e1,e2,rfl⟩:=h4.shape;obtain⟨f1,f2,rfl⟩:=h5.shape;obtain⟨N1,hN1⟩:∃N,Hid (N=g.vs.length):=⟨_,rfl⟩;obtain⟨N2,hN2⟩:∃N,Hid (N=g.es.length):=⟨_,rfl⟩;obtain⟨N3,hN3⟩:∃N,Hid (N=g.ds.length):=⟨_,rfl⟩;obtain⟨m1,hm1⟩:∃N,Hid (N=c.ends.length):=⟨_,rfl⟩;obtain⟨m2,hm2⟩:∃N,Hid (N=c.deps.length):=⟨_,rfl⟩;have z1:=hok.vlen;have z2:=hok.elen;have z3:=hok.dlen;obtain⟨l1,l2⟩:=hl;rw[<-hN1.out]at h1 z1 ⊢;rw[<-hN2.out]at h2 z2 ⊢;rw[<-hN3.out]at h3 z3 ⊢;rw[<-hm1.out]at h4 l1 ⊢;rw[<-hm2.out]at h5 l2 ⊢;unfold chCells;rw[hk];obtain⟨B,w1,hB,hwh,hsz,hB0,hBw,hbox,hcbx,hres,hO1,hO2,hO3,hL4,hL5,hgv,hbase,hT,hR,cP,cF,hlow,hlow3⟩:=act_pre 3 h1 h2 h3 h4 h5 hN1.out hN2.out z1 z2 hB0;have hokh:=Hd hok;have hkh:=Hd hk;have hact:=Hd (show actK g c=act3 g c by unfold actK;simp[hk]);obtain⟨⟨t0,t1,t2⟩,p0,p1,p2,p3,p4,p5,p6,p7,p8,p9,pA,pB,pC⟩:=hT.out w1 (Below.refl _ _);try dsimp only at p0 p1 p2 p3 p4 p5 p6 p7 p8 p9 pA
 clear h1 h2 h3 h4 h5 hok hk;go_enter Tryz.func58,Tryz.ntmps58;go_wp2_with fail;rw[<-hwh.out,<-hB.out];with_reducible refine(cP.out w1 (Below.refl _ _)).mono ?_
 rintro e w2 ⟨rfl,k2⟩;have K2:=Hd k2;clear k2 t0 t1 t2 p0 p1 p2 p3 p4 p5 p6 p7 p8 p9 pA pB pC;obtain⟨⟨t0,t1,t2⟩,p0,p1,p2,p3,p4,p5,p6,p7,p8,p9,pA,pB,pC⟩:=hT.out w2 K2.out;try dsimp only at p0 p1 p2 p3 p4 p5 p6 p7 p8 p9 pA
 go_wp2_with fail;with_reducible refine(cF.out w2 K2.out).mono ?_
 rintro e w3 ⟨rfl,k3⟩;have K3:=Hd (K2.out.trans (k3.mono K2.out.size));clear k3 K2 t0 t1 t2 p0 p1 p2 p3 p4 p5 p6 p7 p8 p9 pA pB pC;obtain⟨⟨t0,t1,t2⟩,p0,p1,p2,p3,p4,p5,p6,p7,p8,p9,pA,pB,pC⟩:=hT.out w3 K3.out;try dsimp only at p0 p1 p2 p3 p4 p5 p6 p7 p8 p9 pA
 have hnoB:=Hd (show ∀W,Below w1.heap.size w1 W->BelK B0 w0 (W.setRow (B+2) #[.slice a1 N1 a2,.slice b1 N2 b2,.slice c1 N3 c2])from fun W BB=>belK_no hBw.out hB.out hB0 (by omega) BB _);generalize plI (keysV g.vs) c.id=P1 at *
 generalize plI (keysE g.es) c.id=P2 at *
 have cE:=Hd (fun W=>edgeR_any c.e W);unfold Ed.val at cE;have cQ:=Hd (fun x W (BB:Below w1.heap.size w1 W)=>PlaceR_any (.agg #[.slice a1 N1 a2,.slice b1 N2 b2,.slice c1 N3 c2]) g x W (hgv.out W BB) (by rw[<-hN1.out];omega));have cG:=Hd (fun x W (BB:Below w1.heap.size w1 W)=>FindR_any (.agg #[.slice a1 N1 a2,.slice b1 N2 b2,.slice c1 N3 c2]) g x W (hgv.out W BB) (by rw[<-hN2.out];omega));have hsp:=Hd (okIn_split c.e g hokh.out);obtain⟨ke,hke⟩:∃b,Hid (b=c.e.ok):=⟨_,rfl⟩;rw[<-hke.out]at cE hsp;go_wp2_with fail;with_reducible refine(cE.out w3).mono ?_
 rintro e w4 ⟨rfl,k4⟩;have K4:=Hd (K3.out.trans (k4.mono K3.out.size));clear k4;clear t0 t1 t2 p0 p1 p2 p3 p4 p5 p6 p7 p8 p9 pA pB pC;obtain⟨⟨t0,t1,t2⟩,p0,p1,p2,p3,p4,p5,p6,p7,p8,p9,pA,pB,pC⟩:=hT.out w4 K4.out;try dsimp only at p0 p1 p2 p3 p4 p5 p6 p7 p8 p9 pA
 cases ke with
 | false =>
  have hno:=Hd (show act3 g c=none by unfold act3;rw[hsp.out];simp);have r8:=Hd (hR.out _ K4.out);have hf:=Hd (hnoB.out _ K4.out);go_upto_region 13 with(fail)
  go_wp2_with (refine wpList_store_row rfl 26 (.tmp 4) (.tmp 91) rfl (B+2) #[.slice a1 N1 a2,.slice b1 N2 b2,.slice c1 N3 c2] rfl rfl 26 _ r8.out (size26b _ _ _) rfl (by simp[Value.oneCell']) ?_)
  refine bodyPost_ret (results_cell_tmp_row (fn:=Tryz.f58) rfl _ _ (B+2) 26 #[.slice a1 N1 a2,.slice b1 N2 b2,.slice c1 N3 c2] (0,0) _ _ rfl rfl (setRow_heap _ _ _ _ _ _ r8.out) Tryz.underlying26 rfl (size26b _ _ _)) rfl ?_;exact ActR.no (by rw[hact.out];exact hno.out) rfl hf.out
 | true =>
 by_cases hs:c.e.src∈keysV g.vs;rotate_left
 ·have cQ1:=Hd (cQ.out c.e.src w4 K4.out);rw[plI_no _ _ hs]at cQ1;have hno:=Hd (show act3 g c=none by unfold act3;rw[hsp.out];simp[hs]);clear hs;go_wp2_with fail;with_reducible refine cQ1.out.mono ?_
  rintro e w5 ⟨rfl,k5⟩;have K5:=Hd (K4.out.trans (k5.mono K4.out.size));clear k5 cQ1;have r8:=Hd (hR.out w5 K5.out);have hf:=Hd (hnoB.out w5 K5.out);clear t0 t1 t2 p0 p1 p2 p3 p4 p5 p6 p7 p8 p9 pA pB pC;obtain⟨⟨t0,t1,t2⟩,p0,p1,p2,p3,p4,p5,p6,p7,p8,p9,pA,pB,pC⟩:=hT.out w5 K5.out;try dsimp only at p0 p1 p2 p3 p4 p5 p6 p7 p8 p9 pA
  go_upto_region 13 with(fail)
  go_wp2_with (refine wpList_store_row rfl 26 (.tmp 4) (.tmp 91) rfl (B+2) #[.slice a1 N1 a2,.slice b1 N2 b2,.slice c1 N3 c2] rfl rfl 26 _ r8.out (size26b _ _ _) rfl (by simp[Value.oneCell']) ?_)
  refine bodyPost_ret (results_cell_tmp_row (fn:=Tryz.f58) rfl _ _ (B+2) 26 #[.slice a1 N1 a2,.slice b1 N2 b2,.slice c1 N3 c2] (0,0) _ _ rfl rfl (setRow_heap _ _ _ _ _ _ r8.out) Tryz.underlying26 rfl (size26b _ _ _)) rfl ?_;exact ActR.no (by rw[hact.out];exact hno.out) rfl hf.out
 have hsg:=(plI_ge (keysV g.vs) c.e.src).2 hs;have cQ1:=Hd (cQ.out c.e.src w4 K4.out);have hsh:=Hd hs;generalize plI (keysV g.vs) c.e.src=S1 at *
 clear hs;go_wp2_with fail;with_reducible refine cQ1.out.mono ?_
 rintro e w5 ⟨rfl,k5⟩;have K5:=Hd (K4.out.trans (k5.mono K4.out.size));clear k5 cQ1;clear t0 t1 t2 p0 p1 p2 p3 p4 p5 p6 p7 p8 p9 pA pB pC;obtain⟨⟨t0,t1,t2⟩,p0,p1,p2,p3,p4,p5,p6,p7,p8,p9,pA,pB,pC⟩:=hT.out w5 K5.out;try dsimp only at p0 p1 p2 p3 p4 p5 p6 p7 p8 p9 pA
 by_cases hs:c.e.dst∈keysV g.vs;rotate_left
 ·have cQ1:=Hd (cQ.out c.e.dst w5 K5.out);rw[plI_no _ _ hs]at cQ1;have hno:=Hd (show act3 g c=none by unfold act3;rw[hsp.out];simp[hs]);clear hs;go_wp2_with fail;with_reducible refine cQ1.out.mono ?_
  rintro e w6 ⟨rfl,k6⟩;have K6:=Hd (K5.out.trans (k6.mono K5.out.size));clear k6 cQ1;have r8:=Hd (hR.out w6 K6.out);have hf:=Hd (hnoB.out w6 K6.out);clear t0 t1 t2 p0 p1 p2 p3 p4 p5 p6 p7 p8 p9 pA pB pC;obtain⟨⟨t0,t1,t2⟩,p0,p1,p2,p3,p4,p5,p6,p7,p8,p9,pA,pB,pC⟩:=hT.out w6 K6.out;try dsimp only at p0 p1 p2 p3 p4 p5 p6 p7 p8 p9 pA
  go_upto_region 13 with(fail)
  go_wp2_with (refine wpList_store_row rfl 26 (.tmp 4) (.tmp 91) rfl (B+2) #[.slice a1 N1 a2,.slice b1 N2 b2,.slice c1 N3 c2] rfl rfl 26 _ r8.out (size26b _ _ _) rfl (by simp[Value.oneCell']) ?_)
  refine bodyPost_ret (results_cell_tmp_row (fn:=Tryz.f58) rfl _ _ (B+2) 26 #[.slice a1 N1 a2,.slice b1 N2 b2,.slice c1 N3 c2] (0,0) _ _ rfl rfl (setRow_heap _ _ _ _ _ _ r8.out) Tryz.underlying26 rfl (size26b _ _ _)) rfl ?_;exact ActR.no (by rw[hact.out];exact hno.out) rfl hf.out
 have hdg:=(plI_ge (keysV g.vs) c.e.dst).2 hs;have cQ1:=Hd (cQ.out c.e.dst w5 K5.out);have hdh:=Hd hs;generalize plI (keysV g.vs) c.e.dst=S2 at *
 clear hs;go_wp2_with fail;with_reducible refine cQ1.out.mono ?_
 rintro e w6 ⟨rfl,k6⟩;have K6:=Hd (K5.out.trans (k6.mono K5.out.size));clear k6 cQ1;clear t0 t1 t2 p0 p1 p2 p3 p4 p5 p6 p7 p8 p9 pA pB pC;obtain⟨⟨t0,t1,t2⟩,p0,p1,p2,p3,p4,p5,p6,p7,p8,p9,pA,pB,pC⟩:=hT.out w6 K6.out;try dsimp only at p0 p1 p2 p3 p4 p5 p6 p7 p8 p9 pA
 by_cases hs:c.e.id∈keysE g.es
 ·have hfg:=(plI_ge (keysE g.es) c.e.id).2 hs;have cQ1:=Hd (cG.out c.e.id w6 K6.out);have hno:=Hd (show act3 g c=none by unfold act3;simp[hs]);generalize plI (keysE g.es) c.e.id=S3 at *
  clear hs;go_wp2_with fail;with_reducible refine cQ1.out.mono ?_
  rintro e w7 ⟨rfl,k7⟩;have K7:=Hd (K6.out.trans (k7.mono K6.out.size));clear k7 cQ1;have r8:=Hd (hR.out w7 K7.out);have hf:=Hd (hnoB.out w7 K7.out);clear t0 t1 t2 p0 p1 p2 p3 p4 p5 p6 p7 p8 p9 pA pB pC;obtain⟨⟨t0,t1,t2⟩,p0,p1,p2,p3,p4,p5,p6,p7,p8,p9,pA,pB,pC⟩:=hT.out w7 K7.out;try dsimp only at p0 p1 p2 p3 p4 p5 p6 p7 p8 p9 pA
  go_upto_region 13 with(fail)
  go_wp2_with (refine wpList_store_row rfl 26 (.tmp 4) (.tmp 91) rfl (B+2) #[.slice a1 N1 a2,.slice b1 N2 b2,.slice c1 N3 c2] rfl rfl 26 _ r8.out (size26b _ _ _) rfl (by simp[Value.oneCell']) ?_)
  refine bodyPost_ret (results_cell_tmp_row (fn:=Tryz.f58) rfl _ _ (B+2) 26 #[.slice a1 N1 a2,.slice b1 N2 b2,.slice c1 N3 c2] (0,0) _ _ rfl rfl (setRow_heap _ _ _ _ _ _ r8.out) Tryz.underlying26 rfl (size26b _ _ _)) rfl ?_;exact ActR.no (by rw[hact.out];exact hno.out) rfl hf.out
 have cQ1:=Hd (cG.out c.e.id w6 K6.out);rw[plI_no _ _ hs]at cQ1;have hyes:=Hd (show(act3 g c).map (·.1)=some {g with es:=insE g.es c.e}by unfold act3;rw[hsp.out];simp[hs,hsh.out,hdh.out]);clear hs;go_wp2_with fail;with_reducible refine cQ1.out.mono ?_
 rintro e w7 ⟨rfl,k7⟩;have K7:=Hd (K6.out.trans (k7.mono K6.out.size));clear k7 cQ1 K4 K5 K6;clear t0 t1 t2 p0 p1 p2 p3 p4 p5 p6 p7 p8 p9 pA pB pC;obtain⟨⟨t0,t1,t2⟩,p0,p1,p2,p3,p4,p5,p6,p7,p8,p9,pA,pB,pC⟩:=hT.out w7 K7.out;try dsimp only at p0 p1 p2 p3 p4 p5 p6 p7 p8 p9 pA
 go_wp2_with fail
 go_loopw [10] (fun i wr=>∃k:Nat,k<=N2/\i= .int .i64 k/\Hid (Below w1.heap.size w1 wr)/\Hid (∀j (hj:j<g.es.length),j<k->g.es[j].id<c.e.id)) (fun i _=>N2-(intOf i).toNat)
 case atStart=>exact⟨0,by omega,rfl,K7.out,fun j _ h=>by omega⟩
 case round =>
 clear K7 t0 t1 t2 p0 p1 p2 p3 p4 p5 p6 p7 p8 p9 pA pB pC;obtain⟨k,hk,rfl,kr,hlow9⟩:=hrel;have i0:(0:Int)<=(k:Int):=by omega
 by_cases hlt:k<N2
 ·have i1:(k:Int)<(N2:Int):=by omega
  obtain⟨vb,vo,hbo,hcl⟩:=edges_in (hgv.out w1 (Below.refl _ _)) k (by rw[<-hN2.out];exact hlt);have hc0:=Hd (show ∀W,Below w1.heap.size w1 W->W.cell? ⟨vb,vo+k*6,none⟩=some (.int .i64 (g.es[k]'(by rw[<-hN2.out];exact hlt)).id)from fun W BB=>(hcl W BB).1);obtain⟨y,hy⟩:∃y,Hid (y=(g.es[k]'(by rw[<-hN2.out];exact hlt)).id):=⟨(g.es[k]'(by rw[<-hN2.out];exact hlt)).id,Hd rfl⟩;rw[<-hy.out]at hc0;clear hcl;by_cases hlt2:y<c.e.id
  ·have q1:decide (y<c.e.id)=true:=decide_eq_true hlt2;have hlow2:Hid (∀j (hj:j<g.es.length),j<k+1->g.es[j].id<c.e.id):=fun j hj hjk=>by
    by_cases e:j=k
    ·subst e;rw[<-hy.out];exact hlt2
    ·exact hlow9.out j hj (by omega)
   clear hlow9;subst hbo;go_upto_region 15 with(fail);refine q_region (fun W=>Below w1.heap.size w1 W) (by kernel_rfl) (by kernel_rfl) (kr.out.drew) ?_;iterate 17 (refine q_take (v:=?_) (by rfl) ?_ ?_;rotate_left;(first|((intro w h;go_simp)<;>with_reducible rfl)|((intro w h;obtain⟨⟨t0,t1,t2⟩,p0,p1,p2,p3,p4,p5,p6,p7,p8,p9,pA,pB,pC⟩:=hT.out w h;(try dsimp only at p3);have c0:=hc0.out w h;go_simp)<;>with_reducible rfl));try simp only[Act.put,zT,z0,zS])
   refine q_nil ?_;intro wq kq;have kq1:=Hd kq;clear kq;clear hlt2;go_wp2_with fail
   go_roundw
   case rel=>exact⟨k+1,by omega,by go_num,kq1.out,hlow2.out⟩
   case measure=>simp[intOf];omega
  ·have q1:decide (y<c.e.id)=false:=decide_eq_false hlt2;have hstop:Hid (k=g.es.length\/ ∃hk:k<g.es.length,¬g.es[k].id<c.e.id):= .inr ⟨by rw[<-hN2.out];exact hlt,by rw[<-hy.out];exact hlt2⟩;clear hlt2;subst hbo;go_upto_region 15 with(fail);refine q_region (fun W=>Below w1.heap.size w1 W) (by kernel_rfl) (by kernel_rfl) (kr.out.drew) ?_;iterate 17 (refine q_take (v:=?_) (by rfl) ?_ ?_;rotate_left;(first|((intro w h;go_simp)<;>with_reducible rfl)|((intro w h;obtain⟨⟨t0,t1,t2⟩,p0,p1,p2,p3,p4,p5,p6,p7,p8,p9,pA,pB,pC⟩:=hT.out w h;(try dsimp only at p3);have c0:=hc0.out w h;go_simp)<;>with_reducible rfl));try simp only[Act.put,zT,z0,zS])
   refine q_nil ?_;intro wq kq;have kq1:=Hd kq;clear kq;have hins:=ins_atE g.es c.e hokh.out.easc k (by rw[<-hN2.out];omega) hlow9.out hstop.out;have hinh:=Hd hins;clear hins hlow9 hstop;have j4:N2<=b2:=by
    rcases OwnEd.EL (hO2.out w1 (Below.refl _ _))with⟨e,_⟩|⟨_,_,_,_,e,h,_⟩
    ·rw[hN2.out,e];simp
    ·injection e with _ _ e;rw[e,hN2.out];exact h
   have j5:k<=b2:=by omega
   have j6:¬b2<k:=by omega
   have j7:(k:Int)<=(b2:Int):=by omega
   have j8:(k:Int)<=(N2:Int):=by omega
   have j9:¬N2<k:=by omega
   go_upto_region 17 with(fail);refine Rel.b_region w1 [some (.pointer (some ⟨B,1,none⟩)),some (.slice (some ⟨vb,vo,none⟩) N2 b2),some (.int .i64 (k:Int)),some (.int .i64 (k:Int)),some (.slice (some ⟨vb,vo,none⟩) k k),some (.pointer (some ⟨B+1,3,none⟩)),some (.agg #[.int .i64 c.e.id,.int .i64 c.e.src,.int .i64 c.e.dst,.bool c.e.dir,.int .i64 c.e.wt,.int .i64 c.e.cap]),none,some (.pointer (some ⟨B,1,none⟩)),some (.slice (some ⟨vb,vo,none⟩) N2 b2),some (.int .i64 (k:Int)),none,none,none,some (.pointer (some ⟨B,1,none⟩)),none] (fun i v W=>match i with
  | 7=>∃nb,v= .slice (some ⟨nb,0,none⟩) 1 1/\B+3<=nb/\EL W v [c.e]
  | 11=>EL W v (g.es.drop k)
  | 12=>EL W v (c.e::g.es.drop k)/\ ∀j,v.ownBlock=some j->B+3<=j
  | 13=>EL W v (g.es.take k++c.e::g.es.drop k)/\ ∀j,v.ownBlock=some j->B+3<=j
  | _=>True) (fun _ W=>∃x,W.heap[B]?=some (.cells #[.slice a1 N1 a2,x,.slice c1 N3 c2] 26 (0,0))/\W.heap[B+2]?=some (.cells #[.slice none 0 0,.slice none 0 0,.slice none 0 0] 26 (0,0))/\EL W x (g.es.take k++c.e::g.es.drop k)/\OwnV W B0 (.slice a1 N1 a2) g.vs/\OwnI W B0 (.slice c1 N3 c2) g.ds/\Below B w0 W/\RowGe B0 x) 15 (by kernel_rfl) (by kernel_rfl) rfl (fun i v W W' h Bl=>by split at h<;>first|exact trivial|exact EL.below h Bl|exact⟨EL.below h.1 Bl,h.2⟩|(obtain⟨nb,e,h1,h2⟩:=h;exact⟨nb,e,h1,EL.below h2 Bl⟩)) (fun _ _ _ _ h=>h) (kq1.out.drew) (fun vals hO=>?_)
   refine Rel.b_pure (.pointer (some ⟨B,1,none⟩)) rfl (by decide) (hO 0 _ rfl) (by rfl) (fun w hC hd=>?_) ?_
   ·clear hd hO;go_simp
   try simp only[Act.put,zT,z0,zS]
   refine Rel.b_pure (.slice (some ⟨vb,vo,none⟩) N2 b2) rfl (by decide) (hO 1 _ rfl) (by rfl) (fun w hC hd=>?_) ?_
   ·obtain⟨⟨t0,t1,t2⟩,p0,p1,p2,p3,p4,p5,p6,p7,p8,p9,pA,pB,pC⟩:=hT.out w hC;(try dsimp only at p3 p4 p5 p6 p7 p8);clear hd hO;go_simp
   try simp only[Act.put,zT,z0,zS]
   refine Rel.b_pure (.int .i64 (k:Int)) rfl (by decide) (hO 2 _ rfl) (by rfl) (fun w hC hd=>?_) ?_
   ·clear hd hO;go_simp
   try simp only[Act.put,zT,z0,zS]
   refine Rel.b_pure (.int .i64 (k:Int)) rfl (by decide) (hO 3 _ rfl) (by rfl) (fun w hC hd=>?_) ?_
   ·clear hd hO;go_simp
   try simp only[Act.put,zT,z0,zS]
   refine Rel.b_pure (.slice (some ⟨vb,vo,none⟩) k k) rfl (by decide) (hO 4 _ rfl) (by rfl) (fun w hC hd=>?_) ?_
   ·clear hd hO;go_simp
   try simp only[Act.put,zT,z0,zS]
   refine Rel.b_pure (.pointer (some ⟨B+1,3,none⟩)) rfl (by decide) (hO 5 _ rfl) (by rfl) (fun w hC hd=>?_) ?_
   ·clear hd hO;go_simp
   try simp only[Act.put,zT,z0,zS]
   refine Rel.b_pure (.agg #[.int .i64 c.e.id,.int .i64 c.e.src,.int .i64 c.e.dst,.bool c.e.dir,.int .i64 c.e.wt,.int .i64 c.e.cap]) rfl (by decide) (hO 6 _ rfl) (by rfl) (fun w hC hd=>?_) ?_
   ·obtain⟨⟨t0,t1,t2⟩,p0,p1,p2,p3,p4,p5,p6,p7,p8,p9,pA,pB,pC⟩:=hT.out w hC;(try dsimp only at p3 p4 p5 p6 p7 p8);clear hd hO;go_simp
   try simp only[Act.put,zT,z0,zS]
   refine Rel.b_rel rfl (by decide) (by rfl) (fun w hC hd=>?_) ?_
   ·have hB3:B+3<=w.heap.size:=by have:=hC.size;omega
    clear hd hO;refine post_value (.slice (some ⟨w.heap.size,0,none⟩) 1 1) (w.alloc (.cells #[.int .i64 c.e.id,.int .i64 c.e.src,.int .i64 c.e.dst,.bool c.e.dir,.int .i64 c.e.wt,.int .i64 c.e.cap] 31)) (by go_simp) ⟨(Below.refl _ w).alloc (Nat.le_refl _) _,_,rfl,hB3,?_⟩;refine .inr ⟨by simp,w.heap.size,0,1,rfl,by simp,by simp,fun j x hx=>?_⟩;have hr:=heap_alloc_new w (.cells #[.int .i64 c.e.id,.int .i64 c.e.src,.int .i64 c.e.dst,.bool c.e.dir,.int .i64 c.e.wt,.int .i64 c.e.cap] 31);cases j with
    | zero=>simp at hx;subst hx;exact EdAt.iff.2 fun i u hu=>by rw[cell_of_row _ _ _ _ _ _ hr];simpa[edCells]using hu
    | succ j=>simp at hx
   try simp only[Act.put,zT,z0,zS]
   refine Rel.b_pure (.pointer (some ⟨B,1,none⟩)) rfl (by decide) (hO 8 _ rfl) (by rfl) (fun w hC hd=>?_) ?_
   ·clear hd hO;go_simp
   try simp only[Act.put,zT,z0,zS]
   refine Rel.b_pure (.slice (some ⟨vb,vo,none⟩) N2 b2) rfl (by decide) (hO 9 _ rfl) (by rfl) (fun w hC hd=>?_) ?_
   ·obtain⟨⟨t0,t1,t2⟩,p0,p1,p2,p3,p4,p5,p6,p7,p8,p9,pA,pB,pC⟩:=hT.out w hC;(try dsimp only at p3 p4 p5 p6 p7 p8);clear hd hO;go_simp
   try simp only[Act.put,zT,z0,zS]
   refine Rel.b_pure (.int .i64 (k:Int)) rfl (by decide) (hO 10 _ rfl) (by rfl) (fun w hC hd=>?_) ?_
   ·clear hd hO;go_simp
   try simp only[Act.put,zT,z0,zS]
   refine Rel.b_rel rfl (by decide) (by rfl) (fun w hC hd=>?_) ?_
   ·obtain⟨bo',q1,q2⟩:=(OwnEd.EL (hO2.out w hC)).tail' (i:=k) hN2.out (by omega);clear hd hO;exact post_value (sliced (some ⟨vb,vo,none⟩) k N2 b2 6) w (by go_simp) ⟨Below.refl _ _,by rw[q1];exact q2⟩
   try simp only[Act.put,zT,z0,zS]
   refine Rel.b_rel rfl (by decide) (by rfl) (fun w hC hd=>?_) ?_
   ·obtain⟨nb,q1,h2,h3⟩:=hd 7 (by decide);have h4:=hd 11 (by decide);rw[q1]at h3;obtain⟨v',w',hr,hv,hob,hbel⟩:=app_Eo w (some ⟨nb,0,none⟩) 1 [c.e] (g.es.drop k) h3 rfl (vals 11) h4 (by simp) (by rw[List.length_drop,<-hN2.out];omega);refine post_append (.tmp 118) (.tmp 122) 23 rfl _ _ q1 rfl v' w' hr ⟨hbel,hv,fun j hj=>?_⟩;rcases hob j hj with⟨_,e⟩|h
    ·rw[e]at hj;simp[Value.ownBlock]at hj;omega
    ·have:=hC.size;omega
   try simp only[Act.put,zT,z0,zS]
   refine Rel.b_rel rfl (by decide) (by rfl) (fun w hC hd=>?_) ?_
   ·obtain⟨h1,_⟩:=hd 12 (by decide);obtain⟨v',w',hr,hv,hob,hbel⟩:=app_Eo w (some ⟨vb,vo,none⟩) k (g.es.take k) (c.e::g.es.drop k) ((OwnEd.EL (hO2.out w hC)).take' (by rw[<-hN2.out];omega)) (by rw[List.length_take,<-hN2.out];omega) (vals 12) h1 (by rw[List.length_take,<-hN2.out];omega) (by rw[List.length_cons,List.length_drop,<-hN2.out];omega);refine post_append (.tmp 115) (.tmp 123) 23 rfl _ _ rfl rfl v' w' hr ⟨hbel,hv,fun j hj=>?_⟩;rcases hob j hj with⟨e,_⟩|h
    ·cases e
    ·have:=hC.size;omega
   try simp only[Act.put,zT,z0,zS]
   refine Rel.b_pure (.pointer (some ⟨B,1,none⟩)) rfl (by decide) (hO 14 _ rfl) (by rfl) (fun w hC hd=>?_) ?_
   ·clear hd hO;go_simp
   try simp only[Act.put,zT,z0,zS]
   refine Rel.b_last rfl (by rfl) (fun w hC hd=>?_) ?_
   ·obtain⟨h1,h2⟩:=hd 13 (by decide);obtain⟨x1,x2,ex⟩:=h1.shape;obtain⟨M,hM⟩:∃M,Hid (M=(g.es.take k++c.e::g.es.drop k).length):=⟨_,rfl⟩;rw[<-hM.out]at ex;rw[ex]at h1 h2;rw[ex];have r7:=(hC.block B (by omega)).trans hbox.out;have r8:=hR.out w hC;have fr:=free_of_block (i:=1) r7;obtain⟨_,c7,_⟩:=box3 r7;have hb0:=hBw.out.trans (hC.mono (show B<=w1.heap.size by omega));have hv1:=hO1.out w hC;have hv3:=hO3.out w hC;refine post_skip (w.setCell ⟨B,1,none⟩ (.slice x1 M x2)) (by clear hd hO h1 h2 r7 r8 hb0 ex hv1 hv3;go_simp) ?_;exact⟨_,heap_setCell_same w B 1 _ 26 _ r7,(heap_setCell_other w _ (B+2) _ (by simp)).trans r8,EL.keepB h1 (fun j hj _=>heap_setCell_other w _ j _ (by have:=h2 j hj;simp;omega)) (by simp),ownsRow_setCell_other hv1 (fun e2=>by have:=hlow.out.1 B e2;omega) _,ownsRow_setCell_other hv3 (fun e2=>by have:=hlow3.out B e2;omega) _,hb0.setCell (by exact Nat.le_refl B) _,fun j hj=>by have:=h2 j hj;omega⟩
   try simp only[Act.put,zT,z0,zS]
   refine Rel.b_end ?_;intro w' hfin;obtain⟨x,r7,r9,g1,g2,g3,g4,g5⟩:=hfin;obtain⟨x1,x2,rfl⟩:=g1.shape;rw[<-hinh.out]at g1 r7;obtain⟨M,hM⟩:∃M,Hid (M=(insE g.es c.e).length):=⟨_,rfl⟩;rw[<-hM.out]at g1 r7;have hgf:=Hd (show GV w' (.agg #[.slice a1 N1 a2,.slice x1 M x2,.slice c1 N3 c2]) {g with es:=insE g.es c.e}from⟨_,_,_,rfl,OwnV.VL g2,g1,OwnI.DL g3⟩);have r9h:=Hd r9;have hge:=Hd (show RowGe B0 (.slice a1 N1 a2)/\RowGe B0 (.slice x1 M x2)/\RowGe B0 (.slice c1 N3 c2)from⟨own_ge g2,fun j hj=>g5 j (by cases x1 with|none=>exact hj|some a=>exact hj),own_ge g3⟩);have hfin:=Hd (BelK.of (below_row g4 (show B<=B+2 by omega) #[.slice a1 N1 a2,.slice x1 M x2,.slice c1 N3 c2]) hB.out hB0);obtain⟨t0,t1,t2⟩:=box3 r7;clear r7 r9 g1 g2 g3 g4 g5
   go_wp2_with (refine wpList_store_row rfl 26 (.tmp 4) (.tmp 126) rfl (B+2) #[.slice a1 N1 a2,.slice x1 M x2,.slice c1 N3 c2] rfl rfl 26 _ r9h.out (size26b _ _ _) rfl (by simp[Value.oneCell']) ?_)
   refine bodyPost_ret (results_cell_tmp_row (fn:=Tryz.f58) rfl _ _ (B+2) 26 #[.slice a1 N1 a2,.slice x1 M x2,.slice c1 N3 c2] (0,0) _ _ rfl rfl (setRow_heap _ _ _ _ _ _ r9h.out) Tryz.underlying26 rfl (size26b _ _ _)) rfl ?_;exact ActR.yesM (by rw[hact.out];exact hyes.out) rfl (GV.shut0 hgf.out r9h.out _) hge.out hfin.out
 ·have hk2:k=N2:=by omega
  have i1:¬(k:Int)<(N2:Int):=by omega
  have q1:decide ((k:Int)<(N2:Int))=false:=decide_eq_false i1;have hstop:Hid (k=g.es.length\/ ∃hk:k<g.es.length,¬g.es[k].id<c.e.id):= .inl (by rw[<-hN2.out];exact hk2);clear hk2;go_upto_region 15 with(fail);refine q_region (fun W=>Below w1.heap.size w1 W) (by kernel_rfl) (by kernel_rfl) (kr.out.drew) ?_;iterate 16 (first|(refine q_skip (by rfl) ?_;try simp only[Act.put,zT,z0,zS])|(refine q_take (v:=?_) (by rfl) ?_ ?_;rotate_left;(first|((intro w h;go_simp)<;>with_reducible rfl)|((intro w h;obtain⟨⟨t0,t1,t2⟩,p0,p1,p2,p3,p4,p5,p6,p7,p8,p9,pA,pB,pC⟩:=hT.out w h;(try dsimp only at p3);go_simp)<;>with_reducible rfl));try simp only[Act.put,zT,z0,zS]))
  refine q_take (v:= .bool false) (by rfl) (fun w hSw=>?_) ?_
  ·go_simp
  try simp only[Act.put,zT,z0,zS]
  refine q_nil ?_;intro wq kq;have kq1:=Hd kq;clear kq;have hins:=ins_atE g.es c.e hokh.out.easc k (by rw[<-hN2.out];omega) hlow9.out hstop.out;have hinh:=Hd hins;clear hins hlow9 hstop;have j4:N2<=b2:=by
   rcases OwnEd.EL (hO2.out w1 (Below.refl _ _))with⟨e,_⟩|⟨_,_,_,_,e,h,_⟩
   ·rw[hN2.out,e];simp
   ·injection e with _ _ e;rw[e,hN2.out];exact h
  have j5:k<=b2:=by omega
  have j6:¬b2<k:=by omega
  have j7:(k:Int)<=(b2:Int):=by omega
  have j8:(k:Int)<=(N2:Int):=by omega
  have j9:¬N2<k:=by omega
  go_upto_region 17 with(fail);refine Rel.b_region w1 [some (.pointer (some ⟨B,1,none⟩)),some (.slice b1 N2 b2),some (.int .i64 (k:Int)),some (.int .i64 (k:Int)),some (.slice b1 k k),some (.pointer (some ⟨B+1,3,none⟩)),some (.agg #[.int .i64 c.e.id,.int .i64 c.e.src,.int .i64 c.e.dst,.bool c.e.dir,.int .i64 c.e.wt,.int .i64 c.e.cap]),none,some (.pointer (some ⟨B,1,none⟩)),some (.slice b1 N2 b2),some (.int .i64 (k:Int)),none,none,none,some (.pointer (some ⟨B,1,none⟩)),none] (fun i v W=>match i with
  | 7=>∃nb,v= .slice (some ⟨nb,0,none⟩) 1 1/\B+3<=nb/\EL W v [c.e]
  | 11=>EL W v (g.es.drop k)
  | 12=>EL W v (c.e::g.es.drop k)/\ ∀j,v.ownBlock=some j->B+3<=j
  | 13=>EL W v (g.es.take k++c.e::g.es.drop k)/\ ∀j,v.ownBlock=some j->B+3<=j
  | _=>True) (fun _ W=>∃x,W.heap[B]?=some (.cells #[.slice a1 N1 a2,x,.slice c1 N3 c2] 26 (0,0))/\W.heap[B+2]?=some (.cells #[.slice none 0 0,.slice none 0 0,.slice none 0 0] 26 (0,0))/\EL W x (g.es.take k++c.e::g.es.drop k)/\OwnV W B0 (.slice a1 N1 a2) g.vs/\OwnI W B0 (.slice c1 N3 c2) g.ds/\Below B w0 W/\RowGe B0 x) 15 (by kernel_rfl) (by kernel_rfl) rfl (fun i v W W' h Bl=>by split at h<;>first|exact trivial|exact EL.below h Bl|exact⟨EL.below h.1 Bl,h.2⟩|(obtain⟨nb,e,h1,h2⟩:=h;exact⟨nb,e,h1,EL.below h2 Bl⟩)) (fun _ _ _ _ h=>h) (kq1.out.drew) (fun vals hO=>?_)
  refine Rel.b_pure (.pointer (some ⟨B,1,none⟩)) rfl (by decide) (hO 0 _ rfl) (by rfl) (fun w hC hd=>?_) ?_
  ·clear hd hO;go_simp
  try simp only[Act.put,zT,z0,zS]
  refine Rel.b_pure (.slice b1 N2 b2) rfl (by decide) (hO 1 _ rfl) (by rfl) (fun w hC hd=>?_) ?_
  ·obtain⟨⟨t0,t1,t2⟩,p0,p1,p2,p3,p4,p5,p6,p7,p8,p9,pA,pB,pC⟩:=hT.out w hC;(try dsimp only at p3 p4 p5 p6 p7 p8);clear hd hO;go_simp
  try simp only[Act.put,zT,z0,zS]
  refine Rel.b_pure (.int .i64 (k:Int)) rfl (by decide) (hO 2 _ rfl) (by rfl) (fun w hC hd=>?_) ?_
  ·clear hd hO;go_simp
  try simp only[Act.put,zT,z0,zS]
  refine Rel.b_pure (.int .i64 (k:Int)) rfl (by decide) (hO 3 _ rfl) (by rfl) (fun w hC hd=>?_) ?_
  ·clear hd hO;go_simp
  try simp only[Act.put,zT,z0,zS]
  refine Rel.b_pure (.slice b1 k k) rfl (by decide) (hO 4 _ rfl) (by rfl) (fun w hC hd=>?_) ?_
  ·clear hd hO;go_simp
  try simp only[Act.put,zT,z0,zS]
  refine Rel.b_pure (.pointer (some ⟨B+1,3,none⟩)) rfl (by decide) (hO 5 _ rfl) (by rfl) (fun w hC hd=>?_) ?_
  ·clear hd hO;go_simp
  try simp only[Act.put,zT,z0,zS]
  refine Rel.b_pure (.agg #[.int .i64 c.e.id,.int .i64 c.e.src,.int .i64 c.e.dst,.bool c.e.dir,.int .i64 c.e.wt,.int .i64 c.e.cap]) rfl (by decide) (hO 6 _ rfl) (by rfl) (fun w hC hd=>?_) ?_
  ·obtain⟨⟨t0,t1,t2⟩,p0,p1,p2,p3,p4,p5,p6,p7,p8,p9,pA,pB,pC⟩:=hT.out w hC;(try dsimp only at p3 p4 p5 p6 p7 p8);clear hd hO;go_simp
  try simp only[Act.put,zT,z0,zS]
  refine Rel.b_rel rfl (by decide) (by rfl) (fun w hC hd=>?_) ?_
  ·have hB3:B+3<=w.heap.size:=by have:=hC.size;omega
   clear hd hO;refine post_value (.slice (some ⟨w.heap.size,0,none⟩) 1 1) (w.alloc (.cells #[.int .i64 c.e.id,.int .i64 c.e.src,.int .i64 c.e.dst,.bool c.e.dir,.int .i64 c.e.wt,.int .i64 c.e.cap] 31)) (by go_simp) ⟨(Below.refl _ w).alloc (Nat.le_refl _) _,_,rfl,hB3,?_⟩;refine .inr ⟨by simp,w.heap.size,0,1,rfl,by simp,by simp,fun j x hx=>?_⟩;have hr:=heap_alloc_new w (.cells #[.int .i64 c.e.id,.int .i64 c.e.src,.int .i64 c.e.dst,.bool c.e.dir,.int .i64 c.e.wt,.int .i64 c.e.cap] 31);cases j with
   | zero=>simp at hx;subst hx;exact EdAt.iff.2 fun i u hu=>by rw[cell_of_row _ _ _ _ _ _ hr];simpa[edCells]using hu
   | succ j=>simp at hx
  try simp only[Act.put,zT,z0,zS]
  refine Rel.b_pure (.pointer (some ⟨B,1,none⟩)) rfl (by decide) (hO 8 _ rfl) (by rfl) (fun w hC hd=>?_) ?_
  ·clear hd hO;go_simp
  try simp only[Act.put,zT,z0,zS]
  refine Rel.b_pure (.slice b1 N2 b2) rfl (by decide) (hO 9 _ rfl) (by rfl) (fun w hC hd=>?_) ?_
  ·obtain⟨⟨t0,t1,t2⟩,p0,p1,p2,p3,p4,p5,p6,p7,p8,p9,pA,pB,pC⟩:=hT.out w hC;(try dsimp only at p3 p4 p5 p6 p7 p8);clear hd hO;go_simp
  try simp only[Act.put,zT,z0,zS]
  refine Rel.b_pure (.int .i64 (k:Int)) rfl (by decide) (hO 10 _ rfl) (by rfl) (fun w hC hd=>?_) ?_
  ·clear hd hO;go_simp
  try simp only[Act.put,zT,z0,zS]
  refine Rel.b_rel rfl (by decide) (by rfl) (fun w hC hd=>?_) ?_
  ·obtain⟨bo',q1,q2⟩:=(OwnEd.EL (hO2.out w hC)).tail' (i:=k) hN2.out (by omega);clear hd hO;exact post_value (sliced b1 k N2 b2 6) w (by go_simp) ⟨Below.refl _ _,by rw[q1];exact q2⟩
  try simp only[Act.put,zT,z0,zS]
  refine Rel.b_rel rfl (by decide) (by rfl) (fun w hC hd=>?_) ?_
  ·obtain⟨nb,q1,h2,h3⟩:=hd 7 (by decide);have h4:=hd 11 (by decide);rw[q1]at h3;obtain⟨v',w',hr,hv,hob,hbel⟩:=app_Eo w (some ⟨nb,0,none⟩) 1 [c.e] (g.es.drop k) h3 rfl (vals 11) h4 (by simp) (by rw[List.length_drop,<-hN2.out];omega);refine post_append (.tmp 118) (.tmp 122) 23 rfl _ _ q1 rfl v' w' hr ⟨hbel,hv,fun j hj=>?_⟩;rcases hob j hj with⟨_,e⟩|h
   ·rw[e]at hj;simp[Value.ownBlock]at hj;omega
   ·have:=hC.size;omega
  try simp only[Act.put,zT,z0,zS]
  refine Rel.b_rel rfl (by decide) (by rfl) (fun w hC hd=>?_) ?_
  ·obtain⟨h1,_⟩:=hd 12 (by decide);obtain⟨v',w',hr,hv,hob,hbel⟩:=app_Eo w b1 k (g.es.take k) (c.e::g.es.drop k) ((OwnEd.EL (hO2.out w hC)).take' (by rw[<-hN2.out];omega)) (by rw[List.length_take,<-hN2.out];omega) (vals 12) h1 (by rw[List.length_take,<-hN2.out];omega) (by rw[List.length_cons,List.length_drop,<-hN2.out];omega);refine post_append (.tmp 115) (.tmp 123) 23 rfl _ _ rfl rfl v' w' hr ⟨hbel,hv,fun j hj=>?_⟩;rcases hob j hj with⟨e,_⟩|h
   ·cases e
   ·have:=hC.size;omega
  try simp only[Act.put,zT,z0,zS]
  refine Rel.b_pure (.pointer (some ⟨B,1,none⟩)) rfl (by decide) (hO 14 _ rfl) (by rfl) (fun w hC hd=>?_) ?_
  ·clear hd hO;go_simp
  try simp only[Act.put,zT,z0,zS]
  refine Rel.b_last rfl (by rfl) (fun w hC hd=>?_) ?_
  ·obtain⟨h1,h2⟩:=hd 13 (by decide);obtain⟨x1,x2,ex⟩:=h1.shape;obtain⟨M,hM⟩:∃M,Hid (M=(g.es.take k++c.e::g.es.drop k).length):=⟨_,rfl⟩;rw[<-hM.out]at ex;rw[ex]at h1 h2;rw[ex];have r7:=(hC.block B (by omega)).trans hbox.out;have r8:=hR.out w hC;have fr:=free_of_block (i:=1) r7;obtain⟨_,c7,_⟩:=box3 r7;have hb0:=hBw.out.trans (hC.mono (show B<=w1.heap.size by omega));have hv1:=hO1.out w hC;have hv3:=hO3.out w hC;refine post_skip (w.setCell ⟨B,1,none⟩ (.slice x1 M x2)) (by clear hd hO h1 h2 r7 r8 hb0 ex hv1 hv3;go_simp) ?_;exact⟨_,heap_setCell_same w B 1 _ 26 _ r7,(heap_setCell_other w _ (B+2) _ (by simp)).trans r8,EL.keepB h1 (fun j hj _=>heap_setCell_other w _ j _ (by have:=h2 j hj;simp;omega)) (by simp),ownsRow_setCell_other hv1 (fun e2=>by have:=hlow.out.1 B e2;omega) _,ownsRow_setCell_other hv3 (fun e2=>by have:=hlow3.out B e2;omega) _,hb0.setCell (by exact Nat.le_refl B) _,fun j hj=>by have:=h2 j hj;omega⟩
  try simp only[Act.put,zT,z0,zS]
  refine Rel.b_end ?_;intro w' hfin;obtain⟨x,r7,r9,g1,g2,g3,g4,g5⟩:=hfin;obtain⟨x1,x2,rfl⟩:=g1.shape;rw[<-hinh.out]at g1 r7;obtain⟨M,hM⟩:∃M,Hid (M=(insE g.es c.e).length):=⟨_,rfl⟩;rw[<-hM.out]at g1 r7;have hgf:=Hd (show GV w' (.agg #[.slice a1 N1 a2,.slice x1 M x2,.slice c1 N3 c2]) {g with es:=insE g.es c.e}from⟨_,_,_,rfl,OwnV.VL g2,g1,OwnI.DL g3⟩);have r9h:=Hd r9;have hge:=Hd (show RowGe B0 (.slice a1 N1 a2)/\RowGe B0 (.slice x1 M x2)/\RowGe B0 (.slice c1 N3 c2)from⟨own_ge g2,fun j hj=>g5 j (by cases x1 with|none=>exact hj|some a=>exact hj),own_ge g3⟩);have hfin:=Hd (BelK.of (below_row g4 (show B<=B+2 by omega) #[.slice a1 N1 a2,.slice x1 M x2,.slice c1 N3 c2]) hB.out hB0);obtain⟨t0,t1,t2⟩:=box3 r7;clear r7 r9 g1 g2 g3 g4 g5
  go_wp2_with (refine wpList_store_row rfl 26 (.tmp 4) (.tmp 126) rfl (B+2) #[.slice a1 N1 a2,.slice x1 M x2,.slice c1 N3 c2] rfl rfl 26 _ r9h.out (size26b _ _ _) rfl (by simp[Value.oneCell']) ?_)
  refine bodyPost_ret (results_cell_tmp_row (fn:=Tryz.f58) rfl _ _ (B+2) 26 #[.slice a1 N1 a2,.slice x1 M x2,.slice c1 N3 c2] (0,0) _ _ rfl rfl (setRow_heap _ _ _ _ _ _ r9h.out) Tryz.underlying26 rfl (size26b _ _ _)) rfl ?_;exact ActR.yesM (by rw[hact.out];exact hyes.out) rfl (GV.shut0 hgf.out r9h.out _) hge.out hfin.out
end Go.Proofs.YtlaldnlgapeckaaGreat
