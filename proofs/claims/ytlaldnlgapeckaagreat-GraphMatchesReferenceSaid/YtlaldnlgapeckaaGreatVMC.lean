/- Facts. -/
import Derived.Test.YtlaldnlgapeckaaGreatVMA
set_option linter.unusedSimpArgs false
set_option maxRecDepth 100000
set_option maxHeartbeats 4000000
namespace Go.Proofs.YtlaldnlgapeckaaGreat
open Go.RowKit
theorem vl_cells{W:World}{a:Option Addr}{n d:Nat}{l:List Vx}(h:VL W (.slice a n d) l)(k:Nat)(hk:k<l.length):∃b o,a=some ⟨b,o,none⟩/\ ∀W',Below W.heap.size W W'->W'.cell? ⟨b,o+k*2,none⟩=some (.int .i64 l[k].id)/\W'.cell? ⟨b,o+k*2+1,none⟩=some (.int .i64 l[k].side):=by
 obtain⟨b,o,c,he,_,h2,h3⟩:=h.own (fun e=>by rw[e]at hk;simp at hk)
 injection he with he _ _
 exact⟨b,o,he,fun W' B=>(h3.below h2 B) k _ (List.getElem?_eq_getElem hk)⟩
theorem el_cells{W:World}{a:Option Addr}{n d:Nat}{l:List Ed}(h:EL W (.slice a n d) l)(k:Nat)(hk:k<l.length):∃b o,a=some ⟨b,o,none⟩/\ ∀W',Below W.heap.size W W'->EdAt W' b (o+k*6) l[k]:=by
 obtain⟨b,o,c,he,_,h2,h3⟩:=h.own (fun e=>by rw[e]at hk;simp at hk)
 injection he with he _ _
 exact⟨b,o,he,fun W' B=>(h3.below h2 B) k _ (List.getElem?_eq_getElem hk)⟩
theorem InvertR_any(v vc:Value)(g:Gr)(c:Ch)(w0:World)(hv:GV w0 v g)(hc:CV w0 vc c)(hs:g.vs.length<=1000000/\g.es.length<=1000000/\g.ds.length<=1000000)(hl:c.ends.length<=100000/\c.deps.length<=100000)(hr:chIn c):
  Calls Tryz.prog 22 #[v,vc] w0 (InvPost g c w0):=by
 obtain⟨a,b,d,rfl,h1,h2,h3⟩:=hv
 obtain⟨x,y,rfl,h4,h5⟩:=hc
 obtain⟨a1,a2,rfl⟩:=h1.shape
 obtain⟨b1,b2,rfl⟩:=h2.shape
 obtain⟨c1,c2,rfl⟩:=h3.shape
 obtain⟨e1,e2,rfl⟩:=h4.shape
 obtain⟨f1,f2,rfl⟩:=h5.shape
 obtain⟨E,hE⟩:∃E,Hid (E=(apF g c).2):=⟨_,Hd rfl⟩
 have cA:=Hd (fun W (B:Below w0.heap.size w0 W)=>ApplyU (.agg #[.slice a1 g.vs.length a2,.slice b1 g.es.length b2,.slice c1 g.ds.length c2]) (.agg (chCells c (.slice e1 c.ends.length e2) (.slice f1 c.deps.length f2))) g c W ⟨_,_,_,rfl,h1.below B,h2.below B,h3.below B⟩ ⟨_,_,rfl,h4.below B,h5.below B⟩ ⟨by omega,by omega,by omega⟩ hl hr)
 rw[<-hE.out]at cA
 have cP:=Hd (fun W (B:Below w0.heap.size w0 W)=>PlaceR_any (.agg #[.slice a1 g.vs.length a2,.slice b1 g.es.length b2,.slice c1 g.ds.length c2]) g c.id W ⟨_,_,_,rfl,h1.below B,h2.below B,h3.below B⟩ (by omega))
 have cF:=Hd (fun W (B:Below w0.heap.size w0 W)=>FindR_any (.agg #[.slice a1 g.vs.length a2,.slice b1 g.es.length b2,.slice c1 g.ds.length c2]) g c.id W ⟨_,_,_,rfl,h1.below B,h2.below B,h3.below B⟩ (by omega))
 have cV:=Hd (fun k (hk:k<g.vs.length)=>vl_cells h1 k hk)
 have cE:=Hd (fun k (hk:k<g.es.length)=>el_cells h2 k hk)
 have cD:=Hd (fun W (B:Below w0.heap.size w0 W)=>h3.below B)
 obtain⟨N1,hN1⟩:∃N,Hid (N=g.vs.length):=⟨_,rfl⟩
 obtain⟨N2,hN2⟩:∃N,Hid (N=g.es.length):=⟨_,rfl⟩
 obtain⟨N3,hN3⟩:∃N,Hid (N=g.ds.length):=⟨_,rfl⟩
 obtain⟨m1,hm1⟩:∃N,Hid (N=c.ends.length):=⟨_,rfl⟩
 obtain⟨m2,hm2⟩:∃N,Hid (N=c.deps.length):=⟨_,rfl⟩
 rw[<-hN1.out,<-hN2.out,<-hN3.out]at cA cP cF hs ⊢
 rw[<-hN3.out]at cD
 rw[<-hm1.out,<-hm2.out]at cA ⊢
 unfold chCells at cA ⊢
 obtain⟨B,hB⟩:∃B,Hid (B=w0.heap.size):=⟨_,rfl⟩
 obtain⟨w1,hw1⟩:∃W,W=(w0.alloc (.cells #[.slice a1 N1 a2,.slice b1 N2 b2,.slice c1 N3 c2] 26)).alloc (.cells #[.int .i64 c.kind,.int .i64 c.v.id,.int .i64 c.v.side,.int .i64 c.e.id,.int .i64 c.e.src,.int .i64 c.e.dst,.bool c.e.dir,.int .i64 c.e.wt,.int .i64 c.e.cap,.int .i64 c.id,.int .i64 c.n,.slice e1 m1 e2,.slice f1 m2 f2] 33):=⟨_,rfl⟩
 have hBw:=Hd (show Below w0.heap.size w0 w1 by rw[hw1];exact((Below.refl _ w0).alloc (Nat.le_refl _) _).alloc (by simp) _)
 have hsz:w1.heap.size=B+2:=by rw[hw1,hB.out];simp
 have hbox:=Hd (show w1.heap[B]?=some (.cells #[.slice a1 N1 a2,.slice b1 N2 b2,.slice c1 N3 c2] 26 (0,0))by rw[hw1,hB.out];exact al_keep1 (heap_alloc_new w0 _))
 have hcbx:=Hd (show w1.heap[B+1]?=some (.cells #[.int .i64 c.kind,.int .i64 c.v.id,.int .i64 c.v.side,.int .i64 c.e.id,.int .i64 c.e.src,.int .i64 c.e.dst,.bool c.e.dir,.int .i64 c.e.wt,.int .i64 c.e.cap,.int .i64 c.id,.int .i64 c.n,.slice e1 m1 e2,.slice f1 m2 f2] 33 (0,0))by rw[hw1,hB.out];have h:=heap_alloc_new (w0.alloc (.cells #[.slice a1 N1 a2,.slice b1 N2 b2,.slice c1 N3 c2] 26)) (.cells #[.int .i64 c.kind,.int .i64 c.v.id,.int .i64 c.v.side,.int .i64 c.e.id,.int .i64 c.e.src,.int .i64 c.e.dst,.bool c.e.dir,.int .i64 c.e.wt,.int .i64 c.e.cap,.int .i64 c.id,.int .i64 c.n,.slice e1 m1 e2,.slice f1 m2 f2] 33);simpa using h)
 have hbase:=Hd (show ∀W,Below w1.heap.size w1 W->Below w0.heap.size w0 W from fun W BB=>hBw.out.trans (BB.mono hBw.out.size))
 have hT:=Hd (fun W (BB:Below w1.heap.size w1 W)=>And.intro (box3 ((BB.block B (by omega)).trans hbox.out)) (ch_cells (c:=c) (a:= .slice e1 m1 e2) (b:= .slice f1 m2 f2) ((BB.block (B+1) (by omega)).trans hcbx.out)))
 have hwh:=Hd hw1
 have hno:=Hd (show ∀W,Below w1.heap.size w1 W->(if g.ok=true then actF g c else none)=none->E=30/\InvPost g c w0 (.returned (.tuple #[.slice none 0 0,.int .i64 30])) W from fun W BB e=>⟨by rw[hE.out];unfold apF;rw[e],hbase.out W BB,by rw[e];rfl⟩)
 have hyes:=Hd (show ∀p,(if g.ok=true then actF g c else none)=some p->E=0/\ ∀u W x y,p.2=u->Below w1.heap.size w1 W->DL W x u.ends->DL W y u.deps->InvPost g c w0 (.returned (.tuple #[.slice (some ⟨W.heap.size,0,none⟩) 1 1,.int .i64 0])) (W.alloc (.cells (chCells u x y) 33))from fun p e=>⟨by rw[hE.out];unfold apF;rw[e],fun u W x y hu BB d1 d2=>⟨(hbase.out W BB).alloc (hbase.out W BB).size _,by rw[e];subst hu;exact⟨_,rfl,lc_one d1 d2⟩⟩⟩)
 clear h1 h2 h3 h4 h5 hw1 hr hl
 go_enter Tryz.func22,Tryz.ntmps22
 go_upto_region 1 with(fail)
 rw[<-hwh.out]
 try rw[<-hB.out]
 obtain⟨⟨t0,t1,t2⟩,p0,p1,p2,p3,p4,p5,p6,p7,p8,p9,pA,pB,pC⟩:=hT.out w1 (Below.refl _ _)
 go_wp2_with fail
 with_reducible refine(cA.out w1 hBw.out).mono ?_
 clear t0 t1 t2 p0 p1 p2 p3 p4 p5 p6 p7 p8 p9 pA pB pC
 rintro e w2 ⟨x1,n1,d1,x2,n2,d2,x3,n3,d3,rfl,hgv,b2⟩
 clear hgv
 have K2:=Hd (show Below w1.heap.size w1 w2 from b2)
 clear b2
 cases hact:(if g.ok=true then actF g c else none)with
 | none =>
  obtain⟨hE0,_⟩:=hno.out w1 (Below.refl _ _) hact
  have hf:=Hd (fun W BB=>(hno.out W BB hact).2)
  subst hE0
  clear hact hno hyes hE
  go_upto_region 2 with(fail)
  obtain⟨w3,hw3⟩:∃W,W=w2.alloc (.cells #[.slice x1 n1 d1,.slice x2 n2 d2,.slice x3 n3 d3] 26):=⟨_,rfl⟩
  rw[<-hw3]
  have K3:=Hd (show Below w1.heap.size w1 w3 by rw[hw3];exact K2.out.alloc K2.out.size _)
  clear hw3
  go_wp2_with fail
  refine bodyPost_ret (results_tmp2 rfl _ _ _) rfl ?_
  exact hf.out _ K3.out
 | some p =>
  obtain⟨hE0,hf⟩:=hyes.out p hact
  have hf:=Hd hf
  have hact:=Hd hact
  subst hE0
  clear hno hyes hE
  go_upto_region 2 with(fail)
  obtain⟨w3,hw3⟩:∃W,W=w2.alloc (.cells #[.slice x1 n1 d1,.slice x2 n2 d2,.slice x3 n3 d3] 26):=⟨_,rfl⟩
  rw[<-hw3]
  have K3:=Hd (show Below w1.heap.size w1 w3 by rw[hw3];exact K2.out.alloc K2.out.size _)
  clear hw3 K2
  obtain⟨⟨t0,t1,t2⟩,p0,p1,p2,p3,p4,p5,p6,p7,p8,p9,pA,pB,pC⟩:=hT.out w3 K3.out
  go_wp2_with fail
  with_reducible refine(cP.out _ (hbase.out _ K3.out)).mono ?_
  clear t0 t1 t2 p0 p1 p2 p3 p4 p5 p6 p7 p8 p9 pA pB pC
  rintro e w4 ⟨rfl,b4⟩
  have K4:=Hd (K3.out.trans (b4.mono K3.out.size))
  clear b4 K3
  obtain⟨⟨t0,t1,t2⟩,p0,p1,p2,p3,p4,p5,p6,p7,p8,p9,pA,pB,pC⟩:=hT.out w4 K4.out
  go_wp2_with fail
  with_reducible refine(cF.out _ (hbase.out _ K4.out)).mono ?_
  clear t0 t1 t2 p0 p1 p2 p3 p4 p5 p6 p7 p8 p9 pA pB pC
  rintro e w5 ⟨rfl,b5⟩
  have K5:=Hd (K4.out.trans (b5.mono K4.out.size))
  clear b5 K4 cA cP cF
  have hok:=Hd (show g.ok=true by
   have h:=hact.out
   by_cases ho:g.ok=true
   · exact ho
   · rw[if_neg ho]at h;cases h)
  have hk:=Hd (show actK g c=some p by
   have h:=hact.out
   rw[if_pos hok.out]at h
   unfold actF at h
   by_cases hb:bareF c=true
   · rw[if_pos hb]at h;exact h
   · rw[if_neg hb]at h;cases h)
  have hO:=Hd ((ok_iff g).1 hok.out)
  obtain⟨K,hK⟩:∃K,Hid (K=c.kind):=⟨_,Hd rfl⟩
  rw[<-hK.out]at hT
  obtain⟨PV,hPV⟩:∃x,Hid (x=plI (keysV g.vs) c.id):=⟨_,Hd rfl⟩
  obtain⟨PE,hPE⟩:∃x,Hid (x=plI (keysE g.es) c.id):=⟨_,Hd rfl⟩
  rw[<-hPV.out,<-hPE.out]
  have hkk:=Hd (show K=1\/K=2\/K=3\/K=4\/K=5\/K=6\/K=7\/K=8\/K=9\/K=10 by
   have h:=hk.out
   unfold actK at h
   rw[hK.out]
   repeat' split at h
   all_goals first|omega|(cases h))
  clear hact hok hcbx hbox hwh
  obtain⟨⟨t0,t1,t2⟩,p0,p1,p2,p3,p4,p5,p6,p7,p8,p9,pA,pB,pC⟩:=hT.out w5 K5.out
  rcases hkk.out with e|e|e|e|e|e|e|e|e|e
  ·subst e
   clear hkk
   have ha:act1 g c=some p:=by
    have h:=hk.out
    unfold actK at h
    rw[<-hK.out]at h
    simpa using h
   unfold act1 at ha
   split at ha
   rotate_left
   · cases ha
   rename_i hcond
   injection ha with ha
   have hu:=Hd (show p.2={zC with kind:=2,id:=c.v.id}by rw[<-ha])
   clear ha hk
   clear hcond
   have kb:=K5.out
   go_wp2_with fail
   refine bodyPost_ret (results_tmp2 rfl _ _ _) rfl ?_
   exact hf.out ({zC with kind:=2,id:=c.v.id}) _ (.slice none 0 0) (.slice none 0 0) hu.out (by assumption) (.inl ⟨rfl,_,_,rfl⟩) (.inl ⟨rfl,_,_,rfl⟩)
  ·subst e
   clear hkk
   have ha:act2 g c=some p:=by
    have h:=hk.out
    unfold actK at h
    rw[<-hK.out]at h
    simpa using h
   unfold act2 at ha
   split at ha
   rotate_left
   · cases ha
   rename_i hcond
   injection ha with ha
   have hu:=Hd (show p.2={zC with kind:=1,v:=getV g.vs c.id}by rw[<-ha])
   clear ha hk
   simp only[Bool.and_eq_true,decide_eq_true_eq]at hcond
   obtain⟨q,hq,hqe,hqv⟩:=plV_mem g.vs c.id (by exact hcond.1.1)
   obtain⟨vb,vo,rfl,hvc⟩:=cV.out q hq
   have hPq:PV=(q:Int):=by rw[hPV.out,hqe]
   have hqN:q<N1:=by rw[hN1.out];exact hq
   have j0:(0:Int)<=(q:Int):=by omega
   have j1:(q:Int)<(N1:Int):=by omega
   rw[hqv]at hvc
   have hvc:=Hd (fun W BB=>hvc W (hbase.out W BB))
   obtain⟨G,hG⟩:∃G,Hid (G=getV g.vs c.id):=⟨_,Hd rfl⟩
   rw[<-hG.out]at hvc hu
   subst hPq
   clear hcond hqe hqv hq hG
   have kb:=K5.out
   obtain⟨q0,q1⟩:=hvc.out w5 K5.out
   go_wp2_with fail
   refine bodyPost_ret (results_tmp2 rfl _ _ _) rfl ?_
   exact hf.out ({zC with kind:=1,v:=G}) _ (.slice none 0 0) (.slice none 0 0) hu.out (by assumption) (.inl ⟨rfl,_,_,rfl⟩) (.inl ⟨rfl,_,_,rfl⟩)
  ·subst e
   clear hkk
   have ha:act3 g c=some p:=by
    have h:=hk.out
    unfold actK at h
    rw[<-hK.out]at h
    simpa using h
   unfold act3 at ha
   split at ha
   rotate_left
   · cases ha
   rename_i hcond
   injection ha with ha
   have hu:=Hd (show p.2={zC with kind:=4,id:=c.e.id}by rw[<-ha])
   clear ha hk
   clear hcond
   have kb:=K5.out
   go_wp2_with fail
   refine bodyPost_ret (results_tmp2 rfl _ _ _) rfl ?_
   exact hf.out ({zC with kind:=4,id:=c.e.id}) _ (.slice none 0 0) (.slice none 0 0) hu.out (by assumption) (.inl ⟨rfl,_,_,rfl⟩) (.inl ⟨rfl,_,_,rfl⟩)
  ·subst e
   clear hkk
   have ha:act4 g c=some p:=by
    have h:=hk.out
    unfold actK at h
    rw[<-hK.out]at h
    simpa using h
   unfold act4 at ha
   split at ha
   rotate_left
   · cases ha
   rename_i hcond
   injection ha with ha
   have hu:=Hd (show p.2={zC with kind:=3,e:=getE g.es c.id}by rw[<-ha])
   clear ha hk
   simp only[Bool.and_eq_true,decide_eq_true_eq]at hcond
   obtain⟨q,hq,hqe,hqv⟩:=plI_mem g.es c.id (by exact hcond)
   obtain⟨vb,vo,rfl,hvc⟩:=cE.out q hq
   have hPq:PE=(q:Int):=by rw[hPE.out,hqe]
   have hqN:q<N2:=by rw[hN2.out];exact hq
   have j0:(0:Int)<=(q:Int):=by omega
   have j1:(q:Int)<(N2:Int):=by omega
   rw[hqv]at hvc
   have hvc:=Hd (fun W BB=>hvc W (hbase.out W BB))
   obtain⟨G,hG⟩:∃G,Hid (G=getE g.es c.id):=⟨_,Hd rfl⟩
   rw[<-hG.out]at hvc hu
   subst hPq
   clear hcond hqe hqv hq hG
   have kb:=K5.out
   obtain⟨q0,q1,q2,q3,q4,q5⟩:=hvc.out w5 K5.out
   go_wp2_with fail
   refine bodyPost_ret (results_tmp2 rfl _ _ _) rfl ?_
   exact hf.out ({zC with kind:=3,e:=G}) _ (.slice none 0 0) (.slice none 0 0) hu.out (by assumption) (.inl ⟨rfl,_,_,rfl⟩) (.inl ⟨rfl,_,_,rfl⟩)
  ·subst e
   clear hkk
   have ha:act5 g c=some p:=by
    have h:=hk.out
    unfold actK at h
    rw[<-hK.out]at h
    simpa using h
   unfold act5 at ha
   split at ha
   rotate_left
   · cases ha
   rename_i hcond
   injection ha with ha
   have hu:=Hd (show p.2={zC with kind:=5,id:=c.id,n:=(getE g.es c.id).wt}by rw[<-ha])
   clear ha hk
   simp only[Bool.and_eq_true,decide_eq_true_eq]at hcond
   obtain⟨q,hq,hqe,hqv⟩:=plI_mem g.es c.id (by exact hcond.1)
   obtain⟨vb,vo,rfl,hvc⟩:=cE.out q hq
   have hPq:PE=(q:Int):=by rw[hPE.out,hqe]
   have hqN:q<N2:=by rw[hN2.out];exact hq
   have j0:(0:Int)<=(q:Int):=by omega
   have j1:(q:Int)<(N2:Int):=by omega
   rw[hqv]at hvc
   have hvc:=Hd (fun W BB=>hvc W (hbase.out W BB))
   obtain⟨G,hG⟩:∃G,Hid (G=getE g.es c.id):=⟨_,Hd rfl⟩
   rw[<-hG.out]at hvc hu
   subst hPq
   clear hcond hqe hqv hq hG
   have kb:=K5.out
   clear kb
   go_upto_region 16 with(fail)
   clear t0 t1 t2 p0 p1 p2 p3 p4 p5 p6 p7 p8 p9 pA pB pC
   refine wp_region_F (fun w':World=>Below w1.heap.size w1 w') 999 (by kernel_rfl) K5.out.drew (fun hHeld=>?_)
   refine tkP 0 rfl ?_ (by(intro w hSw;obtain⟨⟨t0,t1,t2⟩,p0,p1,p2,p3,p4,p5,p6,p7,p8,p9,pA,pB,pC⟩:=hT.out w hSw;obtain⟨q0,q1,q2,q3,q4,q5⟩:=hvc.out w hSw;clear hSw;go_simp)<;>with_reducible rfl)
   refine tkP 1 rfl ?_ (by(intro w hSw;obtain⟨⟨t0,t1,t2⟩,p0,p1,p2,p3,p4,p5,p6,p7,p8,p9,pA,pB,pC⟩:=hT.out w hSw;obtain⟨q0,q1,q2,q3,q4,q5⟩:=hvc.out w hSw;clear hSw;go_simp)<;>with_reducible rfl)
   refine tkP 2 rfl ?_ (by(intro w hSw;obtain⟨⟨t0,t1,t2⟩,p0,p1,p2,p3,p4,p5,p6,p7,p8,p9,pA,pB,pC⟩:=hT.out w hSw;obtain⟨q0,q1,q2,q3,q4,q5⟩:=hvc.out w hSw;clear hSw;go_simp)<;>with_reducible rfl)
   refine tkP 3 rfl ?_ (by(intro w hSw;obtain⟨⟨t0,t1,t2⟩,p0,p1,p2,p3,p4,p5,p6,p7,p8,p9,pA,pB,pC⟩:=hT.out w hSw;obtain⟨q0,q1,q2,q3,q4,q5⟩:=hvc.out w hSw;clear hSw;go_simp)<;>with_reducible rfl)
   refine tkP 4 rfl ?_ (by(intro w hSw;obtain⟨⟨t0,t1,t2⟩,p0,p1,p2,p3,p4,p5,p6,p7,p8,p9,pA,pB,pC⟩:=hT.out w hSw;obtain⟨q0,q1,q2,q3,q4,q5⟩:=hvc.out w hSw;clear hSw;go_simp)<;>with_reducible rfl)
   refine tkP 5 rfl ?_ (by(intro w hSw;obtain⟨⟨t0,t1,t2⟩,p0,p1,p2,p3,p4,p5,p6,p7,p8,p9,pA,pB,pC⟩:=hT.out w hSw;obtain⟨q0,q1,q2,q3,q4,q5⟩:=hvc.out w hSw;clear hSw;go_simp)<;>with_reducible rfl)
   refine tkP 6 rfl ?_ (by(intro w hSw;obtain⟨⟨t0,t1,t2⟩,p0,p1,p2,p3,p4,p5,p6,p7,p8,p9,pA,pB,pC⟩:=hT.out w hSw;obtain⟨q0,q1,q2,q3,q4,q5⟩:=hvc.out w hSw;clear hSw;go_simp)<;>with_reducible rfl)
   refine tkP 7 rfl ?_ (by(intro w hSw;obtain⟨⟨t0,t1,t2⟩,p0,p1,p2,p3,p4,p5,p6,p7,p8,p9,pA,pB,pC⟩:=hT.out w hSw;obtain⟨q0,q1,q2,q3,q4,q5⟩:=hvc.out w hSw;clear hSw;go_simp)<;>with_reducible rfl)
   refine tkP 8 rfl ?_ (by(intro w hSw;obtain⟨⟨t0,t1,t2⟩,p0,p1,p2,p3,p4,p5,p6,p7,p8,p9,pA,pB,pC⟩:=hT.out w hSw;obtain⟨q0,q1,q2,q3,q4,q5⟩:=hvc.out w hSw;clear hSw;go_simp)<;>with_reducible rfl)
   refine rdy [9] ?_
   refine arC rfl (fun K hK=>?_) ?_
   · skip
     have hend:=Hd (hf.out ({zC with kind:=5,id:=c.id,n:=(G).wt}) w5.drew (.slice none 0 0) (.slice none 0 0) hu.out hHeld (.inl ⟨rfl,_,_,rfl⟩) (.inl ⟨rfl,_,_,rfl⟩))
     go_simp
     refine hK.out _ _ ?_ (fun hHeld=>?_)
     · exact hHeld.alloc hHeld.size _
     clear hK K
     try simp only[Act.put,zT,z0,zS]
     refine tkP 10 rfl ?_
     refine tkP 11 rfl ?_
     refine wpAnyF_done (by kernel_rfl) ?_ _
     go_wp2_with fail
     refine bodyPost_ret (results_tmp2 rfl _ _ _) rfl ?_
     exact hend.out
   exact AllReadyF.nil
  ·subst e
   clear hkk
   have ha:act6 g c=some p:=by
    have h:=hk.out
    unfold actK at h
    rw[<-hK.out]at h
    simpa using h
   unfold act6 at ha
   split at ha
   rotate_left
   · cases ha
   rename_i hcond
   injection ha with ha
   have hu:=Hd (show p.2={zC with kind:=6,id:=c.id,n:=(getE g.es c.id).cap}by rw[<-ha])
   clear ha hk
   simp only[Bool.and_eq_true,decide_eq_true_eq]at hcond
   obtain⟨q,hq,hqe,hqv⟩:=plI_mem g.es c.id (by exact hcond.1)
   obtain⟨vb,vo,rfl,hvc⟩:=cE.out q hq
   have hPq:PE=(q:Int):=by rw[hPE.out,hqe]
   have hqN:q<N2:=by rw[hN2.out];exact hq
   have j0:(0:Int)<=(q:Int):=by omega
   have j1:(q:Int)<(N2:Int):=by omega
   rw[hqv]at hvc
   have hvc:=Hd (fun W BB=>hvc W (hbase.out W BB))
   obtain⟨G,hG⟩:∃G,Hid (G=getE g.es c.id):=⟨_,Hd rfl⟩
   rw[<-hG.out]at hvc hu
   subst hPq
   clear hcond hqe hqv hq hG
   have kb:=K5.out
   clear kb
   go_upto_region 18 with(fail)
   clear t0 t1 t2 p0 p1 p2 p3 p4 p5 p6 p7 p8 p9 pA pB pC
   refine wp_region_F (fun w':World=>Below w1.heap.size w1 w') 999 (by kernel_rfl) K5.out.drew (fun hHeld=>?_)
   refine tkP 0 rfl ?_ (by(intro w hSw;obtain⟨⟨t0,t1,t2⟩,p0,p1,p2,p3,p4,p5,p6,p7,p8,p9,pA,pB,pC⟩:=hT.out w hSw;obtain⟨q0,q1,q2,q3,q4,q5⟩:=hvc.out w hSw;clear hSw;go_simp)<;>with_reducible rfl)
   refine tkP 1 rfl ?_ (by(intro w hSw;obtain⟨⟨t0,t1,t2⟩,p0,p1,p2,p3,p4,p5,p6,p7,p8,p9,pA,pB,pC⟩:=hT.out w hSw;obtain⟨q0,q1,q2,q3,q4,q5⟩:=hvc.out w hSw;clear hSw;go_simp)<;>with_reducible rfl)
   refine tkP 2 rfl ?_ (by(intro w hSw;obtain⟨⟨t0,t1,t2⟩,p0,p1,p2,p3,p4,p5,p6,p7,p8,p9,pA,pB,pC⟩:=hT.out w hSw;obtain⟨q0,q1,q2,q3,q4,q5⟩:=hvc.out w hSw;clear hSw;go_simp)<;>with_reducible rfl)
   refine tkP 3 rfl ?_ (by(intro w hSw;obtain⟨⟨t0,t1,t2⟩,p0,p1,p2,p3,p4,p5,p6,p7,p8,p9,pA,pB,pC⟩:=hT.out w hSw;obtain⟨q0,q1,q2,q3,q4,q5⟩:=hvc.out w hSw;clear hSw;go_simp)<;>with_reducible rfl)
   refine tkP 4 rfl ?_ (by(intro w hSw;obtain⟨⟨t0,t1,t2⟩,p0,p1,p2,p3,p4,p5,p6,p7,p8,p9,pA,pB,pC⟩:=hT.out w hSw;obtain⟨q0,q1,q2,q3,q4,q5⟩:=hvc.out w hSw;clear hSw;go_simp)<;>with_reducible rfl)
   refine tkP 5 rfl ?_ (by(intro w hSw;obtain⟨⟨t0,t1,t2⟩,p0,p1,p2,p3,p4,p5,p6,p7,p8,p9,pA,pB,pC⟩:=hT.out w hSw;obtain⟨q0,q1,q2,q3,q4,q5⟩:=hvc.out w hSw;clear hSw;go_simp)<;>with_reducible rfl)
   refine tkP 6 rfl ?_ (by(intro w hSw;obtain⟨⟨t0,t1,t2⟩,p0,p1,p2,p3,p4,p5,p6,p7,p8,p9,pA,pB,pC⟩:=hT.out w hSw;obtain⟨q0,q1,q2,q3,q4,q5⟩:=hvc.out w hSw;clear hSw;go_simp)<;>with_reducible rfl)
   refine tkP 7 rfl ?_ (by(intro w hSw;obtain⟨⟨t0,t1,t2⟩,p0,p1,p2,p3,p4,p5,p6,p7,p8,p9,pA,pB,pC⟩:=hT.out w hSw;obtain⟨q0,q1,q2,q3,q4,q5⟩:=hvc.out w hSw;clear hSw;go_simp)<;>with_reducible rfl)
   refine tkP 8 rfl ?_ (by(intro w hSw;obtain⟨⟨t0,t1,t2⟩,p0,p1,p2,p3,p4,p5,p6,p7,p8,p9,pA,pB,pC⟩:=hT.out w hSw;obtain⟨q0,q1,q2,q3,q4,q5⟩:=hvc.out w hSw;clear hSw;go_simp)<;>with_reducible rfl)
   refine rdy [9] ?_
   refine arC rfl (fun K hK=>?_) ?_
   · skip
     have hend:=Hd (hf.out ({zC with kind:=6,id:=c.id,n:=(G).cap}) w5.drew (.slice none 0 0) (.slice none 0 0) hu.out hHeld (.inl ⟨rfl,_,_,rfl⟩) (.inl ⟨rfl,_,_,rfl⟩))
     go_simp
     refine hK.out _ _ ?_ (fun hHeld=>?_)
     · exact hHeld.alloc hHeld.size _
     clear hK K
     try simp only[Act.put,zT,z0,zS]
     refine tkP 10 rfl ?_
     refine tkP 11 rfl ?_
     refine wpAnyF_done (by kernel_rfl) ?_ _
     go_wp2_with fail
     refine bodyPost_ret (results_tmp2 rfl _ _ _) rfl ?_
     exact hend.out
   exact AllReadyF.nil
  ·subst e
   clear hkk
   have ha:act7 g c=some p:=by
    have h:=hk.out
    unfold actK at h
    rw[<-hK.out]at h
    simpa using h
   unfold act7 at ha
   split at ha
   rotate_left
   · cases ha
   rename_i hcond
   injection ha with ha
   have hu:=Hd (show p.2={zC with kind:=8,id:=c.n,v:=getV g.vs c.id,ends:=endsF g.es c.id}by rw[<-ha])
   clear ha hk
   simp only[Bool.and_eq_true,decide_eq_true_eq]at hcond
   obtain⟨q,hq,hqe,hqv⟩:=plV_mem g.vs c.id (by exact hcond.1.1.2)
   obtain⟨vb,vo,rfl,hvc⟩:=cV.out q hq
   have hPq:PV=(q:Int):=by rw[hPV.out,hqe]
   have hqN:q<N1:=by rw[hN1.out];exact hq
   have j0:(0:Int)<=(q:Int):=by omega
   have j1:(q:Int)<(N1:Int):=by omega
   rw[hqv]at hvc
   have hvc:=Hd (fun W BB=>hvc W (hbase.out W BB))
   obtain⟨G,hG⟩:∃G,Hid (G=getV g.vs c.id):=⟨_,Hd rfl⟩
   rw[<-hG.out]at hvc hu
   subst hPq
   clear hcond hqe hqv hq hG
   have kb:=K5.out
   clear kb
   have hX0:=Hd (fun W (BB:Below w5.heap.size w5 W)=>hT.out W (K5.out.trans (BB.mono K5.out.size)))
   have hid:=Hd (show ∀e∈g.es,0<=e.id/\e.id<=39 from fun e he=>((Ed.okIn_iff e _).1 (hO.out.eok e he)).1)
   obtain⟨x,hx⟩:∃x,Hid (x=c.id):=⟨_,Hd rfl⟩
   rw[<-hx.out]at p9 hX0 hu hT
   go_upto_region 21 with(fail)
   clear t0 t1 t2 p0 p1 p2 p3 p4 p5 p6 p7 p8 p9 pA pB pC
   go_wp2_with fail
   go_loopw [10,11] (fun lv i wr=>∃(k:Nat) (va:Option Addr) (n d:Nat),lv= .slice va n d/\i= .int .i64 k/\k<=N2/\Hid (Below w5.heap.size w5 wr)/\Hid (OwnI wr w5.heap.size (.slice va n d) (endsF (g.es.take k) x))) (fun _ i _=>N2-(intOf i).toNat)
   case atStart=>exact⟨0,none,0,0,rfl,rfl,Nat.zero_le _,Below.refl _ _,World.ownsRow_nil _ _ _ _⟩
   case round =>
    obtain⟨k,va,n,d,rfl,rfl,hk2,hb,hown⟩:=hrel
    have Bs:=hb.out.size
    have hy:=Hd (show ∀W,Below wr.heap.size wr W->Below w5.heap.size w5 W from fun W BB=>hb.out.trans (BB.mono hb.out.size))
    have i0:(0:Int)<=(k:Int):=by omega
    by_cases hlt:k<N2
    ·have hkl:k<g.es.length:=by rw[<-hN2.out];exact hlt
     have i1:(k:Int)<(N2:Int):=by omega
     obtain⟨eb,eo,rfl,hec⟩:=cE.out k hkl
     have hec:=Hd hec
     have hX:=Hd (fun W (BB:Below w5.heap.size w5 W)=>And.intro (hX0.out W BB) (hec.out W (hbase.out _ (K5.out.trans (BB.mono K5.out.size)))))
     have hsn:=Hd (endsF_snoc g.es x k hkl)
     have hlen:(endsF (g.es.take k) x).length<=3000000:=by have:=endsF_len (g.es.take k) x;simp at this;omega
     obtain⟨u0,u1⟩:=hid.out g.es[k] (List.getElem_mem hkl)
     obtain⟨L,hL⟩:∃L,Hid (L=endsF (g.es.take k) x):=⟨_,Hd rfl⟩
     obtain⟨u,hue⟩:∃u,Hid (u=g.es[k]):=⟨g.es[k],Hd rfl⟩
     rw[<-hL.out]at hown hsn hlen
     rw[<-hue.out]at hX hsn u0 u1
     clear hec hue hL hX0
     have r1w:IntKind.i64.wrap (2*u.id)=2*u.id:=IntWalk.i64_in _ (by omega)
     have r2w:IntKind.i64.wrap (2*u.id+1)=2*u.id+1:=IntWalk.i64_in _ (by omega)
     obtain⟨⟨⟨t0,t1,t2⟩,p0,p1,p2,p3,p4,p5,p6,p7,p8,p9,pA,pB,pC⟩,q0,q1,q2,q3,q4,q5⟩:=hX.out wr hb.out
     go_upto_region 24 with(fail)
     clear t0 t1 t2 p0 p1 p2 p3 p4 p5 p6 p7 p8 p9 pA pB pC q0 q1 q2 q3 q4 q5
     refine q_region (fun W=>Below wr.heap.size wr W) (by kernel_rfl) (by kernel_rfl) (Below.refl _ _).drew ?_
     iterate 9 (refine q_take (v:=?_) (by rfl) ?_ ?_;rotate_left;(first|((intro w h;clear h;go_simp)<;>with_reducible rfl)|((intro w h;obtain⟨⟨⟨t0,t1,t2⟩,p0,p1,p2,p3,p4,p5,p6,p7,p8,p9,pA,pB,pC⟩,q0,q1,q2,q3,q4,q5⟩:=hX.out w (hy.out w h);clear h;go_simp)<;>with_reducible rfl));try simp only[Act.put,zT,z0,zS])
     refine q_nil ?_
     intro wq hq
     have hz:=Hd (show ∀W,Below wq.heap.size wq W->Below w5.heap.size w5 W from fun W BB=>(hy.out wq hq).trans (BB.mono (hy.out wq hq).size))
     have hB1:=Hd (hy.out wq hq)
     have ho1:=Hd (show OwnI wq w5.heap.size (.slice va n d) L from own_below hown.out hq)
     have Bq:=hB1.out.size
     clear hq hy hown hb
     by_cases hs:u.src=x
     ·have t1':(u.src==x)=true:=by simpa using hs
      obtain⟨v1,wx,r1,o1,bl1,sz1,far1⟩:=snocI wq w5.heap.size _ L (2*u.id) ho1.out (by omega) (by omega)
      have B1:=Hd (bl1 w5 hB1.out (Nat.le_refl _) (Nat.le_refl _))
      obtain⟨y1,y2,rfl⟩:=o1.DL.shape
      obtain⟨m,hm⟩:∃m,Hid (m=(L++[2*u.id]).length):=⟨_,rfl⟩
      rw[<-hm.out]at r1 o1
      have o1:=Hd o1
      obtain⟨⟨⟨t0,t1,t3⟩,p0,p1,p2,p3,p4,p5,p6,p7,p8,p9,pA,pB,pC⟩,q0,q1,q2,q3,q4,q5⟩:=hX.out wq hB1.out
      clear bl1 far1 ho1 hB1 hz Bq
      go_upto_region 26 with(at_builtin;refine wpList_append_runB rfl (.tmp 105) (.tmp 113) 24 rfl _ _ rfl rfl _ _ r1 ?_)
      clear t0 t1 t3 p0 p1 p2 p3 p4 p5 p6 p7 p8 p9 pA pB pC q0 q1 q2 q3 q4 q5
      rename_i dOld nOld vOld
      clear sz1 r1
      obtain⟨wq,rfl⟩:∃w',w'=wx:=⟨_,rfl⟩
      obtain⟨va,n,d,hva⟩:∃va n d,Hid (Value.slice va n d= .slice y1 m y2):=⟨_,_,_,rfl⟩
      rw[<-hva.out]at o1 ⊢
      have ho1:=o1
      have hB1:=B1
      have hz:=Hd (show ∀W,Below wq.heap.size wq W->Below w5.heap.size w5 W from fun W BB=>hB1.out.trans (BB.mono hB1.out.size))
      clear o1 B1 hva
      refine q_region (fun W=>Below wq.heap.size wq W) (by kernel_rfl) (by kernel_rfl) (Below.refl _ _).drew ?_
      iterate 9 (refine q_take (v:=?_) (by rfl) ?_ ?_;rotate_left;(first|((intro w h;clear h;go_simp)<;>with_reducible rfl)|((intro w h;obtain⟨⟨⟨t0,t1,t2⟩,p0,p1,p2,p3,p4,p5,p6,p7,p8,p9,pA,pB,pC⟩,q0,q1,q2,q3,q4,q5⟩:=hX.out w (hz.out w h);clear h;go_simp)<;>with_reducible rfl));try simp only[Act.put,zT,z0,zS])
      refine q_nil ?_
      intro wp hp
      have hB2:=Hd (hz.out wp hp)
      have ho2:=Hd (show OwnI wp w5.heap.size (.slice va n d) (L++[2*u.id])from own_below ho1.out hp)
      have Bp:=hB2.out.size
      clear hp hz ho1 hB1
      by_cases hd2:u.dst=x
      ·have t2:(u.dst==x)=true:=by simpa using hd2
       have hnew:Hid (endsF (g.es.take (k+1)) x=(L++[2*u.id])++[2*u.id+1]):=by show _=_;rw[hsn.out,if_pos hs,if_pos hd2];simp
       obtain⟨v2,wy,r2,o2,bl2,sz2,far2⟩:=snocI wp w5.heap.size _ (L++[2*u.id]) (2*u.id+1) ho2.out (by rw[List.length_append];simp;omega) (by omega)
       have B2:=Hd (bl2 w5 hB2.out (Nat.le_refl _) (Nat.le_refl _))
       obtain⟨y1,y2,rfl⟩:=o2.DL.shape
       obtain⟨m9,hm9⟩:∃m,Hid (m=((L++[2*u.id])++[2*u.id+1]).length):=⟨_,rfl⟩
       rw[<-hm9.out]at r2 o2
       have o2:=Hd o2
       have hXn:=hX.out (wp) hB2.out
       obtain⟨⟨⟨t0,t1,t3⟩,p0,p1,p2,p3,p4,p5,p6,p7,p8,p9,pA,pB,pC⟩,q0,q1,q2,q3,q4,q5⟩:=hXn
       clear hs hd2 hsn bl2 far2 ho2 hB2
       go_wp2_with (at_builtin;refine wpList_append_runB rfl (.tmp 124) (.tmp 133) 24 rfl _ _ rfl rfl _ _ r2 ?_)
       go_roundw
       case rel=>exact⟨k+1,_,_,_,rfl,by go_num,by omega,B2,by rw[hnew.out];exact o2⟩
       case measure=>simp[intOf];omega
      ·have t2:(u.dst==x)=false:=by simpa using hd2
       have hnew:Hid (endsF (g.es.take (k+1)) x=(L++[2*u.id])):=by show _=_;rw[hsn.out,if_pos hs,if_neg hd2];simp
       clear hs hd2 hsn
       go_wp2_with fail
       go_roundw
       case rel=>exact⟨k+1,_,_,_,rfl,by go_num,by omega,hB2,by rw[hnew.out];exact ho2⟩
       case measure=>simp[intOf];omega
     ·have t1':(u.src==x)=false:=by simpa using hs
      go_upto_region 26 with(fail)
      refine q_region (fun W=>Below wq.heap.size wq W) (by kernel_rfl) (by kernel_rfl) (Below.refl _ _).drew ?_
      iterate 9 (refine q_take (v:=?_) (by rfl) ?_ ?_;rotate_left;(first|((intro w h;clear h;go_simp)<;>with_reducible rfl)|((intro w h;obtain⟨⟨⟨t0,t1,t2⟩,p0,p1,p2,p3,p4,p5,p6,p7,p8,p9,pA,pB,pC⟩,q0,q1,q2,q3,q4,q5⟩:=hX.out w (hz.out w h);clear h;go_simp)<;>with_reducible rfl));try simp only[Act.put,zT,z0,zS])
      refine q_nil ?_
      intro wp hp
      have hB2:=Hd (hz.out wp hp)
      have ho2:=Hd (show OwnI wp w5.heap.size (.slice va n d) L from own_below ho1.out hp)
      have Bp:=hB2.out.size
      clear hp hz ho1 hB1
      by_cases hd2:u.dst=x
      ·have t2:(u.dst==x)=true:=by simpa using hd2
       have hnew:Hid (endsF (g.es.take (k+1)) x=L++[2*u.id+1]):=by show _=_;rw[hsn.out,if_neg hs,if_pos hd2];simp
       obtain⟨v2,wy,r2,o2,bl2,sz2,far2⟩:=snocI wp w5.heap.size _ L (2*u.id+1) ho2.out (by omega) (by omega)
       have B2:=Hd (bl2 w5 hB2.out (Nat.le_refl _) (Nat.le_refl _))
       obtain⟨y1,y2,rfl⟩:=o2.DL.shape
       obtain⟨m9,hm9⟩:∃m,Hid (m=(L++[2*u.id+1]).length):=⟨_,rfl⟩
       rw[<-hm9.out]at r2 o2
       have o2:=Hd o2
       have hXn:=hX.out (wp) hB2.out
       obtain⟨⟨⟨t0,t1,t3⟩,p0,p1,p2,p3,p4,p5,p6,p7,p8,p9,pA,pB,pC⟩,q0,q1,q2,q3,q4,q5⟩:=hXn
       clear hs hd2 hsn bl2 far2 ho2 hB2
       go_wp2_with (at_builtin;refine wpList_append_runB rfl (.tmp 124) (.tmp 133) 24 rfl _ _ rfl rfl _ _ r2 ?_)
       go_roundw
       case rel=>exact⟨k+1,_,_,_,rfl,by go_num,by omega,B2,by rw[hnew.out];exact o2⟩
       case measure=>simp[intOf];omega
      ·have t2:(u.dst==x)=false:=by simpa using hd2
       have hnew:Hid (endsF (g.es.take (k+1)) x=L):=by show _=_;rw[hsn.out,if_neg hs,if_neg hd2];simp
       clear hs hd2 hsn
       go_wp2_with fail
       go_roundw
       case rel=>exact⟨k+1,_,_,_,rfl,by go_num,by omega,hB2,by rw[hnew.out];exact ho2⟩
       case measure=>simp[intOf];omega
    ·have hkN:k=N2:=by omega
     have i1:¬(k:Int)<(N2:Int):=by omega
     have hfin:Hid (endsF (g.es.take k) x=endsF g.es x):=by show _=_;rw[List.take_of_length_le (by rw[hkN,hN2.out];exact Nat.le_refl _)]
     have hown2:=hown.out
     rw[hfin.out]at hown2
     have hown2:=Hd hown2
     have hy1:=Hd (show ∀W,Below wr.heap.size wr W->Below w1.heap.size w1 W from fun W BB=>K5.out.trans ((hy.out W BB).mono K5.out.size))
     obtain⟨⟨t0,t1,t2⟩,p0,p1,p2,p3,p4,p5,p6,p7,p8,p9,pA,pB,pC⟩:=hT.out wr (hy1.out wr (Below.refl _ _))
     go_upto_region 28 with(fail)
     clear t0 t1 t2 p0 p1 p2 p3 p4 p5 p6 p7 p8 p9 pA pB pC
     refine wp_region_F (fun w':World=>Below wr.heap.size wr w') 999 (by kernel_rfl) (Below.refl _ _).drew (fun hHeld=>?_)
     refine tkP 0 rfl ?_ (by(intro w hSw;obtain⟨⟨t0,t1,t2⟩,p0,p1,p2,p3,p4,p5,p6,p7,p8,p9,pA,pB,pC⟩:=hT.out w (hy1.out w hSw);obtain⟨q0,q1⟩:=hvc.out w (hy1.out w hSw);clear hSw;go_simp)<;>with_reducible rfl)
     refine tkP 1 rfl ?_ (by(intro w hSw;obtain⟨⟨t0,t1,t2⟩,p0,p1,p2,p3,p4,p5,p6,p7,p8,p9,pA,pB,pC⟩:=hT.out w (hy1.out w hSw);obtain⟨q0,q1⟩:=hvc.out w (hy1.out w hSw);clear hSw;go_simp)<;>with_reducible rfl)
     refine tkP 2 rfl ?_ (by(intro w hSw;obtain⟨⟨t0,t1,t2⟩,p0,p1,p2,p3,p4,p5,p6,p7,p8,p9,pA,pB,pC⟩:=hT.out w (hy1.out w hSw);obtain⟨q0,q1⟩:=hvc.out w (hy1.out w hSw);clear hSw;go_simp)<;>with_reducible rfl)
     refine tkP 3 rfl ?_ (by(intro w hSw;obtain⟨⟨t0,t1,t2⟩,p0,p1,p2,p3,p4,p5,p6,p7,p8,p9,pA,pB,pC⟩:=hT.out w (hy1.out w hSw);obtain⟨q0,q1⟩:=hvc.out w (hy1.out w hSw);clear hSw;go_simp)<;>with_reducible rfl)
     refine tkP 4 rfl ?_ (by(intro w hSw;obtain⟨⟨t0,t1,t2⟩,p0,p1,p2,p3,p4,p5,p6,p7,p8,p9,pA,pB,pC⟩:=hT.out w (hy1.out w hSw);obtain⟨q0,q1⟩:=hvc.out w (hy1.out w hSw);clear hSw;go_simp)<;>with_reducible rfl)
     refine tkP 5 rfl ?_ (by(intro w hSw;obtain⟨⟨t0,t1,t2⟩,p0,p1,p2,p3,p4,p5,p6,p7,p8,p9,pA,pB,pC⟩:=hT.out w (hy1.out w hSw);obtain⟨q0,q1⟩:=hvc.out w (hy1.out w hSw);clear hSw;go_simp)<;>with_reducible rfl)
     refine tkP 6 rfl ?_ (by(intro w hSw;obtain⟨⟨t0,t1,t2⟩,p0,p1,p2,p3,p4,p5,p6,p7,p8,p9,pA,pB,pC⟩:=hT.out w (hy1.out w hSw);obtain⟨q0,q1⟩:=hvc.out w (hy1.out w hSw);clear hSw;go_simp)<;>with_reducible rfl)
     refine tkP 7 rfl ?_ (by(intro w hSw;obtain⟨⟨t0,t1,t2⟩,p0,p1,p2,p3,p4,p5,p6,p7,p8,p9,pA,pB,pC⟩:=hT.out w (hy1.out w hSw);obtain⟨q0,q1⟩:=hvc.out w (hy1.out w hSw);clear hSw;go_simp)<;>with_reducible rfl)
     refine tkP 8 rfl ?_ (by(intro w hSw;obtain⟨⟨t0,t1,t2⟩,p0,p1,p2,p3,p4,p5,p6,p7,p8,p9,pA,pB,pC⟩:=hT.out w (hy1.out w hSw);obtain⟨q0,q1⟩:=hvc.out w (hy1.out w hSw);clear hSw;go_simp)<;>with_reducible rfl)
     refine rdy [9] ?_
     refine arC rfl (fun K hK=>?_) ?_
     ·skip
      have hend:=Hd (hf.out ({zC with kind:=8,id:=c.n,v:=G,ends:=endsF g.es x}) wr.drew (.slice va n d) (.slice none 0 0) hu.out (hy1.out _ hHeld) (OwnI.DL (own_below hown2.out hHeld)) (.inl ⟨rfl,_,_,rfl⟩))
      go_simp
      refine hK.out _ _ ?_ (fun hHeld=>?_)
      · exact hHeld.alloc hHeld.size _
      clear hK K
      try simp only[Act.put,zT,z0,zS]
      refine tkP 10 rfl ?_
      refine tkP 11 rfl ?_
      refine wpAnyF_done (by kernel_rfl) ?_ _
      go_wp2_with fail
      refine bodyPost_ret (results_tmp2 rfl _ _ _) rfl ?_
      exact hend.out
     exact AllReadyF.nil
  ·subst e
   clear hkk
   have ha:act8 g c=some p:=by
    have h:=hk.out
    unfold actK at h
    rw[<-hK.out]at h
    simpa using h
   unfold act8 at ha
   split at ha
   rotate_left
   · cases ha
   rename_i hcond
   injection ha with ha
   have hu:=Hd (show p.2={zC with kind:=7,id:=c.v.id,n:=c.id}by rw[<-ha])
   clear ha hk
   clear hcond
   have kb:=K5.out
   go_wp2_with fail
   refine bodyPost_ret (results_tmp2 rfl _ _ _) rfl ?_
   exact hf.out ({zC with kind:=7,id:=c.v.id,n:=c.id}) _ (.slice none 0 0) (.slice none 0 0) hu.out (by assumption) (.inl ⟨rfl,_,_,rfl⟩) (.inl ⟨rfl,_,_,rfl⟩)
  ·subst e
   clear hkk
   have ha:act9 g c=some p:=by
    have h:=hk.out
    unfold actK at h
    rw[<-hK.out]at h
    simpa using h
   unfold act9 at ha
   split at ha
   rotate_left
   · cases ha
   rename_i hcond
   injection ha with ha
   have hu:=Hd (show p.2={zC with kind:=9,id:=c.id,n:=(getV g.vs c.id).side}by rw[<-ha])
   clear ha hk
   simp only[Bool.and_eq_true,decide_eq_true_eq]at hcond
   obtain⟨q,hq,hqe,hqv⟩:=plV_mem g.vs c.id (by exact hcond.1)
   obtain⟨vb,vo,rfl,hvc⟩:=cV.out q hq
   have hPq:PV=(q:Int):=by rw[hPV.out,hqe]
   have hqN:q<N1:=by rw[hN1.out];exact hq
   have j0:(0:Int)<=(q:Int):=by omega
   have j1:(q:Int)<(N1:Int):=by omega
   rw[hqv]at hvc
   have hvc:=Hd (fun W BB=>hvc W (hbase.out W BB))
   obtain⟨G,hG⟩:∃G,Hid (G=getV g.vs c.id):=⟨_,Hd rfl⟩
   rw[<-hG.out]at hvc hu
   subst hPq
   clear hcond hqe hqv hq hG
   have kb:=K5.out
   clear kb
   go_upto_region 32 with(fail)
   clear t0 t1 t2 p0 p1 p2 p3 p4 p5 p6 p7 p8 p9 pA pB pC
   refine wp_region_F (fun w':World=>Below w1.heap.size w1 w') 999 (by kernel_rfl) K5.out.drew (fun hHeld=>?_)
   refine tkP 0 rfl ?_ (by(intro w hSw;obtain⟨⟨t0,t1,t2⟩,p0,p1,p2,p3,p4,p5,p6,p7,p8,p9,pA,pB,pC⟩:=hT.out w hSw;obtain⟨q0,q1⟩:=hvc.out w hSw;clear hSw;go_simp)<;>with_reducible rfl)
   refine tkP 1 rfl ?_ (by(intro w hSw;obtain⟨⟨t0,t1,t2⟩,p0,p1,p2,p3,p4,p5,p6,p7,p8,p9,pA,pB,pC⟩:=hT.out w hSw;obtain⟨q0,q1⟩:=hvc.out w hSw;clear hSw;go_simp)<;>with_reducible rfl)
   refine tkP 2 rfl ?_ (by(intro w hSw;obtain⟨⟨t0,t1,t2⟩,p0,p1,p2,p3,p4,p5,p6,p7,p8,p9,pA,pB,pC⟩:=hT.out w hSw;obtain⟨q0,q1⟩:=hvc.out w hSw;clear hSw;go_simp)<;>with_reducible rfl)
   refine tkP 3 rfl ?_ (by(intro w hSw;obtain⟨⟨t0,t1,t2⟩,p0,p1,p2,p3,p4,p5,p6,p7,p8,p9,pA,pB,pC⟩:=hT.out w hSw;obtain⟨q0,q1⟩:=hvc.out w hSw;clear hSw;go_simp)<;>with_reducible rfl)
   refine tkP 4 rfl ?_ (by(intro w hSw;obtain⟨⟨t0,t1,t2⟩,p0,p1,p2,p3,p4,p5,p6,p7,p8,p9,pA,pB,pC⟩:=hT.out w hSw;obtain⟨q0,q1⟩:=hvc.out w hSw;clear hSw;go_simp)<;>with_reducible rfl)
   refine tkP 5 rfl ?_ (by(intro w hSw;obtain⟨⟨t0,t1,t2⟩,p0,p1,p2,p3,p4,p5,p6,p7,p8,p9,pA,pB,pC⟩:=hT.out w hSw;obtain⟨q0,q1⟩:=hvc.out w hSw;clear hSw;go_simp)<;>with_reducible rfl)
   refine tkP 6 rfl ?_ (by(intro w hSw;obtain⟨⟨t0,t1,t2⟩,p0,p1,p2,p3,p4,p5,p6,p7,p8,p9,pA,pB,pC⟩:=hT.out w hSw;obtain⟨q0,q1⟩:=hvc.out w hSw;clear hSw;go_simp)<;>with_reducible rfl)
   refine tkP 7 rfl ?_ (by(intro w hSw;obtain⟨⟨t0,t1,t2⟩,p0,p1,p2,p3,p4,p5,p6,p7,p8,p9,pA,pB,pC⟩:=hT.out w hSw;obtain⟨q0,q1⟩:=hvc.out w hSw;clear hSw;go_simp)<;>with_reducible rfl)
   refine tkP 8 rfl ?_ (by(intro w hSw;obtain⟨⟨t0,t1,t2⟩,p0,p1,p2,p3,p4,p5,p6,p7,p8,p9,pA,pB,pC⟩:=hT.out w hSw;obtain⟨q0,q1⟩:=hvc.out w hSw;clear hSw;go_simp)<;>with_reducible rfl)
   refine rdy [9] ?_
   refine arC rfl (fun K hK=>?_) ?_
   · skip
     have hend:=Hd (hf.out ({zC with kind:=9,id:=c.id,n:=(G).side}) w5.drew (.slice none 0 0) (.slice none 0 0) hu.out hHeld (.inl ⟨rfl,_,_,rfl⟩) (.inl ⟨rfl,_,_,rfl⟩))
     go_simp
     refine hK.out _ _ ?_ (fun hHeld=>?_)
     · exact hHeld.alloc hHeld.size _
     clear hK K
     try simp only[Act.put,zT,z0,zS]
     refine tkP 10 rfl ?_
     refine tkP 11 rfl ?_
     refine wpAnyF_done (by kernel_rfl) ?_ _
     go_wp2_with fail
     refine bodyPost_ret (results_tmp2 rfl _ _ _) rfl ?_
     exact hend.out
   exact AllReadyF.nil
  ·subst e
   clear hkk
   have ha:act10 g c=some p:=by
    have h:=hk.out
    unfold actK at h
    rw[<-hK.out]at h
    simpa using h
   unfold act10 at ha
   split at ha
   rotate_left
   · cases ha
   rename_i hcond
   injection ha with ha
   have hu:=Hd (show p.2={zC with kind:=10,deps:=g.ds}by rw[<-ha])
   clear ha hk
   clear hcond
   have kb:=K5.out
   clear kb
   obtain⟨v',w6,hr,ho,hbel⟩:=app_emptyI (w5.alloc (.cells #[] 3)) w5.heap.size w5.heap.size (World.ownsRow_made w5 #[] 0 (Nat.le_refl _) (Nat.zero_le _) rfl) (.slice c1 N3 c2) g.ds ((cD.out w5 (hbase.out _ K5.out)).below ((Below.refl _ w5).alloc (Nat.le_refl _) _)) (by simp) (by rw[<-hN3.out];omega)
   obtain⟨x1,x2,rfl⟩:=ho.DL.shape
   obtain⟨M,hM⟩:∃M,Hid (M=g.ds.length):=⟨_,rfl⟩
   rw[<-hM.out]at hr ho
   have K6:=Hd (show Below w1.heap.size w1 w6 from K5.out.trans (((Below.refl _ w5).alloc (Nat.le_refl _) (.cells #[] 3) |>.trans (hbel.mono (by simp))).mono K5.out.size))
   have hend:=Hd (hf.out ({zC with kind:=10,deps:=g.ds}) w6 (.slice none 0 0) (.slice x1 M x2) hu.out K6.out (.inl ⟨rfl,_,_,rfl⟩) ho.DL)
   go_upto_region 33 with(fail)
   clear t0 t1 t2 p0 p1 p2 p3 p4 p5 p6 p7 p8 p9 pA pB pC
   obtain⟨⟨t0,t1,t2⟩,p0,p1,p2,p3,p4,p5,p6,p7,p8,p9,pA,pB,pC⟩:=hT.out (w5.alloc (.cells #[] 3)) (K5.out.alloc K5.out.size _)
   clear ho hbel K6
   go_wp2_with (at_builtin;refine wpList_append_runB rfl (.tmp 166) (.tmp 168) 24 rfl _ _ rfl rfl _ _ hr ?_)
   refine bodyPost_ret (results_tmp2 rfl _ _ _) rfl ?_
   exact hend.out
end Go.Proofs.YtlaldnlgapeckaaGreat
