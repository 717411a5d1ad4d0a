/- Facts. -/
import Derived.Test.YtlaldnlgapeckaaGreatVYHq
import Derived.Test.YtlaldnlgapeckaaGreatVYRk3
import Derived.Test.YtlaldnlgapeckaaGreatVYRk8a
set_option linter.unusedSimpArgs false
set_option maxRecDepth 100000
set_option maxHeartbeats 4000000
namespace Go.Proofs.YtlaldnlgapeckaaGreat
open Go.RowKit
theorem ok_deps(g:Gr)(h:Ok g)(l:List Int):({g with ds:=l}:Gr).ok=dOk (keysV g.vs) l:=by
 have h1:=(ok_iff g).2 h;unfold Gr.ok at h1 ⊢;simp only[Bool.and_eq_true]at h1;rw[h1.1.1,h1.1.2];simp
theorem actR_10(va vb vc ca cb:Value)(g:Gr)(c:Ch)(B0:Nat)(w0:World)(h1:OwnV w0 B0 va g.vs)(h2:OwnEd w0 B0 vb g.es)(h3:OwnI w0 B0 vc g.ds)(h4:DL w0 ca c.ends)(h5:DL w0 cb c.deps)(hok:Ok g)(hB0:B0<=w0.heap.size)(hl:c.ends.length<=100000/\c.deps.length<=100000)(hk:c.kind=10):
  Calls Tryz.prog 58 #[.agg #[va,vb,vc],.agg (chCells c ca cb)] w0 (ActR g c B0 w0):=by
 obtain⟨a1,a2,rfl⟩:=h1.VL.shape;obtain⟨b1,b2,rfl⟩:=h2.EL.shape;obtain⟨c1,c2,rfl⟩:=h3.DL.shape;obtain⟨e1,e2,rfl⟩:=h4.shape;obtain⟨f1,f2,rfl⟩:=h5.shape;obtain⟨N1,hN1⟩:∃N,Hid (N=g.vs.length):=⟨_,rfl⟩;obtain⟨N2,hN2⟩:∃N,Hid (N=g.es.length):=⟨_,rfl⟩;obtain⟨N3,hN3⟩:∃N,Hid (N=g.ds.length):=⟨_,rfl⟩;obtain⟨m1,hm1⟩:∃N,Hid (N=c.ends.length):=⟨_,rfl⟩;obtain⟨m2,hm2⟩:∃N,Hid (N=c.deps.length):=⟨_,rfl⟩;have z1:=hok.vlen;have z2:=hok.elen;have z3:=hok.dlen;obtain⟨l1,l2⟩:=hl;rw[<-hN1.out]at h1 z1 ⊢;rw[<-hN2.out]at h2 z2 ⊢;rw[<-hN3.out]at h3 z3 ⊢;rw[<-hm1.out]at h4 l1 ⊢;rw[<-hm2.out]at h5 l2 ⊢;unfold chCells;rw[hk];obtain⟨B,w1,hB,hwh,hsz,hB0,hBw,hbox,hcbx,hres,hO1,hO2,hO3,hL4,hL5,hgv,hbase,hT,hR,cP,cF,hlow,hlow3⟩:=act_pre 10 h1 h2 h3 h4 h5 hN1.out hN2.out z1 z2 hB0;have hokh:=Hd hok;have hkh:=Hd hk;have hact:=Hd (show actK g c=act10 g c by unfold actK;simp[hk]);obtain⟨⟨t0,t1,t2⟩,p0,p1,p2,p3,p4,p5,p6,p7,p8,p9,pA,pB,pC⟩:=hT.out w1 (Below.refl _ _);try dsimp only at p0 p1 p2 p3 p4 p5 p6 p7 p8 p9 pA
 clear h1 h2 h3 h4 h5 hok hk;go_enter Tryz.func58,Tryz.ntmps58;go_wp2_with fail;rw[<-hwh.out,<-hB.out];with_reducible refine(cP.out w1 (Below.refl _ _)).mono ?_
 rintro e w2 ⟨rfl,k2⟩;have K2:=Hd k2;clear k2 t0 t1 t2 p0 p1 p2 p3 p4 p5 p6 p7 p8 p9 pA pB pC;obtain⟨⟨t0,t1,t2⟩,p0,p1,p2,p3,p4,p5,p6,p7,p8,p9,pA,pB,pC⟩:=hT.out w2 K2.out;try dsimp only at p0 p1 p2 p3 p4 p5 p6 p7 p8 p9 pA
 go_wp2_with fail;with_reducible refine(cF.out w2 K2.out).mono ?_
 rintro e w3 ⟨rfl,k3⟩;have K3:=Hd (K2.out.trans (k3.mono K2.out.size));clear k3 K2 t0 t1 t2 p0 p1 p2 p3 p4 p5 p6 p7 p8 p9 pA pB pC;obtain⟨⟨t0,t1,t2⟩,p0,p1,p2,p3,p4,p5,p6,p7,p8,p9,pA,pB,pC⟩:=hT.out w3 K3.out;try dsimp only at p0 p1 p2 p3 p4 p5 p6 p7 p8 p9 pA
 generalize plI (keysV g.vs) c.id=P1 at *
 generalize plI (keysE g.es) c.id=P2 at *
 go_upto_region 67 with(fail);clear t0 t1 t2 p0 p1 p2 p3 p4 p5 p6 p7 p8 p9 pA pB pC;have K3s:=K3.out.size;obtain⟨v',w4,hr,ho,hbel⟩:=app_emptyI (w3.alloc (.cells #[] 3)) w3.heap.size w3.heap.size (World.ownsRow_made w3 #[] 0 (Nat.le_refl _) (Nat.zero_le _) rfl) (.slice f1 m2 f2) c.deps ((hL5.out w3 K3.out).below ((Below.refl _ w3).alloc (Nat.le_refl _) _)) (by simp) (by rw[<-hm2.out];omega);obtain⟨x1,x2,rfl⟩:=ho.DL.shape;obtain⟨M,hM⟩:∃M,Hid (M=c.deps.length):=⟨_,rfl⟩;rw[<-hM.out]at hr ho;have K4:=Hd (K3.out.trans (((Below.refl _ w3).alloc (Nat.le_refl _) (.cells #[] 3) |>.trans (hbel.mono (by simp))).mono (by omega)));have K4s:w3.heap.size<=w4.heap.size:=by have:=hbel.size;simp at this;omega
 have r7:=(K4.out.block B (by omega)).trans hbox.out;have fr:=free_of_block (i:=2) r7;obtain⟨t0,t1,t2⟩:=box3 r7;obtain⟨_,p0,p1,p2,p3,p4,p5,p6,p7,p8,p9,pA,pB,pC⟩:=hT.out (w3.alloc (.cells #[] 3)) (K3.out.alloc (by omega) _);have ho1:=Hd ho;have hv1:=Hd (hO1.out w4 K4.out);have hv2:=Hd (hO2.out w4 K4.out);have hb4:=Hd (hBw.out.trans (K4.out.mono (show B<=w1.heap.size by omega)));have r8:=Hd (hR.out w4 K4.out);have r7h:=Hd r7;clear ho hbel r7
 go_wp2_with (at_builtin;refine wpList_append_runB rfl (.tmp 361) (.tmp 363) 24 rfl _ _ rfl rfl _ _ hr ?_)
 go_upto_region 68 with(fail);clear t0 t1 t2 p0 p1 p2 p3 p4 p5 p6 p7 p8 p9 pA pB pC fr hr;obtain⟨w5,hw5⟩:∃W,W=w4.setCell ⟨B,2,none⟩ (.slice x1 M x2):=⟨_,rfl⟩;rw[<-hw5];have r7:=Hd (show w5.heap[B]?=some (.cells #[.slice a1 N1 a2,.slice b1 N2 b2,.slice x1 M x2] 26 (0,0))by rw[hw5];exact heap_setCell_same w4 B 2 _ 26 _ r7h.out);have r9:=Hd (show w5.heap[B+2]?=some (.cells #[.slice none 0 0,.slice none 0 0,.slice none 0 0] 26 (0,0))by rw[hw5];exact(heap_setCell_other w4 _ (B+2) _ (by simp)).trans r8.out);have hgf:=Hd (show GV w5 (.agg #[.slice a1 N1 a2,.slice b1 N2 b2,.slice x1 M x2]) {g with ds:=c.deps}by
  rw[hw5];exact⟨_,_,_,rfl,OwnV.VL (ownsRow_setCell_other hv1.out (fun e2=>by have:=hlow.out.1 B e2;omega) _),OwnEd.EL (ownsRow_setCell_other hv2.out (fun e2=>by have:=hlow.out.2 B e2;omega) _),OwnI.DL (ownsRow_setCell_other ho1.out (fun e2=>by have:=(own_row ho1.out B e2).1;omega) _)⟩)
 have hb5:=Hd (show Below B w0 w5 by rw[hw5];exact hb4.out.setCell (by exact Nat.le_refl B) _);have cV:=Hd (show ∀W,GV W (.agg #[.slice a1 N1 a2,.slice b1 N2 b2,.slice x1 M x2]) {g with ds:=c.deps}->Calls Tryz.prog 16 #[.agg #[.slice a1 N1 a2,.slice b1 N2 b2,.slice x1 M x2]] W fun e w'=>e= .returned (.bool (dOk (keysV g.vs) c.deps))/\Below W.heap.size W w' from fun W hg=>by
  have h:=ValidR_any _ _ W hg (show Gr.small _ from⟨by show g.vs.length<=_;rw[<-hN1.out];omega,by show g.es.length<=_;rw[<-hN2.out];omega,by show c.deps.length<=_;rw[<-hm2.out];omega⟩);rw[ok_deps g hokh.out]at h;exact h)
 obtain⟨dk,hdk⟩:∃b,Hid (b=dOk (keysV g.vs) c.deps):=⟨_,rfl⟩;rw[<-hdk.out]at cV;have hge:=Hd (show RowGe B0 (.slice a1 N1 a2)/\RowGe B0 (.slice b1 N2 b2)/\RowGe B0 (.slice x1 M x2)from⟨own_ge hv1.out,own_ge hv2.out,fun j hj=>by have:=own_ge ho1.out j hj;omega⟩);have hend:=Hd (show ∀W,Below B w0 W->GV W (.agg #[.slice a1 N1 a2,.slice b1 N2 b2,.slice x1 M x2]) {g with ds:=c.deps}->ActR g c B0 w0 (.returned (.tuple #[.agg #[.slice a1 N1 a2,.slice b1 N2 b2,.slice x1 M x2],.bool dk])) W from fun W hb hg=>by
  cases dk with
  | true=>exact ActR.yesM (g':={g with ds:=c.deps}) (by rw[hact.out];unfold act10;rw[<-hdk.out];rfl) rfl hg hge.out (BelK.of hb hB.out hB0)
  | false=>exact ActR.no (by rw[hact.out];unfold act10;rw[<-hdk.out];rfl) rfl (BelK.of hb hB.out hB0))
 have hS:=Hd (show ∀W:World,W.heap[B]?=some (.cells #[.slice a1 N1 a2,.slice b1 N2 b2,.slice x1 M x2] 26 (0,0))->W.cell? ⟨B,0,none⟩=some (.slice a1 N1 a2)/\W.cell? ⟨B,1,none⟩=some (.slice b1 N2 b2)/\W.cell? ⟨B,2,none⟩=some (.slice x1 M x2)from fun W h=>box3 h);have hS0:=Hd (hS.out w5.drew r7.out);have hBl:B+2<w5.heap.size:=(Array.getElem?_eq_some_iff.1 r9.out).1;clear hw5 hv1 hv2 ho1 hb4 r8 r7h;refine wp_region_F (fun w':World=>w'.cell? ⟨B,0,none⟩=some (.slice a1 N1 a2)/\w'.cell? ⟨B,1,none⟩=some (.slice b1 N2 b2)/\w'.cell? ⟨B,2,none⟩=some (.slice x1 M x2)) 999 (by kernel_rfl) hS0.out (fun hHeld=>?_);refine tkP 0 rfl ?_;refine tkP 1 rfl ?_;refine rdy [2] ?_;refine arC rfl (fun K hK=>?_) ?_
 ·skip
  go_simp;refine(cV.out w5.drew (hgf.out.below (Below.refl _ w5).drew)).mono ?_;rintro e w6 ⟨rfl,bc⟩;have bch:=Hd bc;clear bc;go_wp2_with fail;have B6:=Hd ((Below.refl w5.heap.size w5).drew.trans bch.out);have r6:=Hd ((B6.out.block (B+2) (by omega)).trans r9.out);refine hK.out _ _ ?_ (fun hHeld=>?_)
  ·exact hS.out w6 ((B6.out.block B (by omega)).trans r7.out)
  clear hK K;try simp only[Act.put,zT,z0,zS]
  refine rdy [3] ?_;refine arC rfl (fun K hK=>?_) ?_
  ·skip
   refine wp_store_row 26 (.tmp 4) (.tmp 366) rfl (B+2) #[.slice a1 N1 a2,.slice b1 N2 b2,.slice x1 M x2] rfl rfl 26 _ r6.out (size26b _ _ _) rfl (by simp[Value.oneCell']) ?_;refine hK.out _ _ ?_ (fun hHeld=>?_)
   ·exact hS.out _ ((setRow_other w6 _ B _ (by omega)).trans ((B6.out.block B (by omega)).trans r7.out))
   clear hK K;try simp only[Act.put,zT,z0,zS]
   refine tkP 4 rfl ?_;refine wpAnyF_done (by kernel_rfl) ?_ _;go_wp2_with fail;refine bodyPost_ret (results_cell_tmp_row (fn:=Tryz.f58) rfl _ _ (B+2) 26 #[.slice a1 N1 a2,.slice b1 N2 b2,.slice x1 M x2] (0,0) _ _ rfl rfl (setRow_heap _ _ _ _ _ _ r6.out) Tryz.underlying26 rfl (size26b _ _ _)) rfl ?_;exact hend.out _ (below_row (hb5.out.trans (B6.out.mono (by omega))) (by omega) _) (GV.shut0 (hgf.out.below B6.out) r6.out _)
  exact AllReadyF.nil
 exact AllReadyF.nil
theorem actR_any(va vb vc ca cb:Value)(g:Gr)(c:Ch)(B0:Nat)(w0:World)(h1:OwnV w0 B0 va g.vs)(h2:OwnEd w0 B0 vb g.es)(h3:OwnI w0 B0 vc g.ds)(h4:DL w0 ca c.ends)(h5:DL w0 cb c.deps)(hok:Ok g)(hB0:B0<=w0.heap.size)(hl:c.ends.length<=100000/\c.deps.length<=100000)(hk:1<=c.kind/\c.kind<=10)(hr:∀n∈c.ends,-9223372036854775808<=n/\n<=9223372036854775807)(hx:∀eb eo n d,ca= .slice (some ⟨eb,eo,none⟩) n d->c.ends≠[]->eb<B0):
  Calls Tryz.prog 58 #[.agg #[va,vb,vc],.agg (chCells c ca cb)] w0 (ActR g c B0 w0):=by
 have:c.kind=1\/c.kind=2\/c.kind=3\/c.kind=4\/c.kind=5\/c.kind=6\/c.kind=7\/c.kind=8\/c.kind=9\/c.kind=10:=by omega
 rcases this with h|h|h|h|h|h|h|h|h|h
 ·exact actR_1 va vb vc ca cb g c B0 w0 h1 h2 h3 h4 h5 hok hB0 hl h
 ·exact actR_2 va vb vc ca cb g c B0 w0 h1 h2 h3 h4 h5 hok hB0 hl h
 ·exact actR_3 va vb vc ca cb g c B0 w0 h1 h2 h3 h4 h5 hok hB0 hl h
 ·exact actR_4 va vb vc ca cb g c B0 w0 h1 h2 h3 h4 h5 hok hB0 hl h
 ·exact actR_5 va vb vc ca cb g c B0 w0 h1 h2 h3 h4 h5 hok hB0 hl h
 ·exact actR_6 va vb vc ca cb g c B0 w0 h1 h2 h3 h4 h5 hok hB0 hl h
 ·exact actR_7 va vb vc ca cb g c B0 w0 h1 h2 h3 h4 h5 hok hB0 hl h
 ·exact actR_8 va vb vc ca cb g c B0 w0 h1 h2 h3 h4 h5 hok hB0 hl h hr hx
 ·exact actR_9 va vb vc ca cb g c B0 w0 h1 h2 h3 h4 h5 hok hB0 hl h
 ·exact actR_10 va vb vc ca cb g c B0 w0 h1 h2 h3 h4 h5 hok hB0 hl h
end Go.Proofs.YtlaldnlgapeckaaGreat
