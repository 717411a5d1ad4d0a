/- Facts. -/
import Derived.Test.YtlaldnlgapeckaaGreatVYOn
import Derived.Test.YtlaldnlgapeckaaGreatVYRk10
set_option linter.unusedSimpArgs false
set_option maxRecDepth 100000
set_option maxHeartbeats 4000000
namespace Go.Proofs.YtlaldnlgapeckaaGreat
open Go.RowKit
def AppR(g:Gr)(c:Ch)(w0:World)(e:Ending)(w':World):Prop :=
 Below w0.heap.size w0 w'/\match (if g.ok=true then actF g c else none)with
  | none=>e= .returned (.tuple #[.agg #[.slice none 0 0,.slice none 0 0,.slice none 0 0],.int .i64 30])
  | some p=>∃r,e= .returned (.tuple #[r,.int .i64 0])/\GV w' r p.1/\RowsGe w0.heap.size r
theorem RowsGe.low{B B':Nat}{r:Value}(h:RowsGe B r)(hb:B'<=B):RowsGe B' r:=fun a b c e =>
 ⟨fun k hk=>Nat.le_trans hb ((h a b c e).1 k hk),fun k hk=>Nat.le_trans hb ((h a b c e).2.1 k hk),fun k hk=>Nat.le_trans hb ((h a b c e).2.2 k hk)⟩
def ActM(g:Gr)(c:Ch)(B:Nat)(W:World)(r:Value)(ok:Bool):Prop:=match actK g c with
 | some p=>ok=true/\GV W r p.1/\RowsGe B r
 | none=>ok=false
theorem ActM.no{g:Gr}{c:Ch}{B:Nat}{W:World}{r:Value}(h:ActM g c B W r false):actK g c=none:=by
 unfold ActM at h;cases ha:actK g c with
 | none=>rfl
 | some p=>rw[ha]at h;exact absurd h.1 (by decide)
theorem ActM.yes{g:Gr}{c:Ch}{B:Nat}{W:World}{r:Value}(h:ActM g c B W r true):∃p,actK g c=some p/\GV W r p.1/\RowsGe B r:=by
 unfold ActM at h;cases ha:actK g c with
 | none=>rw[ha]at h;exact absurd (show true=false from h) (by decide)
 | some p=>rw[ha]at h;exact⟨p,rfl,h.2⟩
theorem ActM.row{g:Gr}{c:Ch}{B q:Nat}{W:World}{r:Value}{ok:Bool}(h:ActM g c B W r ok)(hq:W.heap[q]?=some (.cells #[.slice none 0 0,.slice none 0 0,.slice none 0 0] 26 (0,0)))(cs:Array Value):ActM g c B (W.setRow q cs) r ok:=by
 unfold ActM at *
 cases ha:actK g c with
 | none=>rw[ha]at h;exact h
 | some p=>rw[ha]at h;exact⟨h.1,GV.shut0 h.2.1 hq cs,h.2.2⟩
theorem ActR.uni{g:Gr}{c:Ch}{B0:Nat}{w0 w':World}{e:Ending}(h:ActR g c B0 w0 e w'):
  ∃x1 n1 d1 x2 n2 d2 x3 n3 d3 ok,e= .returned (.tuple #[.agg #[.slice x1 n1 d1,.slice x2 n2 d2,.slice x3 n3 d3],.bool ok])/\BelK B0 w0 w'/\ ∀W,Below w'.heap.size w' W->ActM g c B0 W (.agg #[.slice x1 n1 d1,.slice x2 n2 d2,.slice x3 n3 d3]) ok:=by
 obtain⟨r,h1,⟨x1,n1,d1,x2,n2,d2,x3,n3,d3,rfl⟩,h3⟩:=h;unfold ActM;cases ha:actK g c with
 | none=>rw[ha]at h1;exact⟨x1,n1,d1,x2,n2,d2,x3,n3,d3,false,h1,h3,fun W B=>rfl⟩
 | some p=>rw[ha]at h1;exact⟨x1,n1,d1,x2,n2,d2,x3,n3,d3,true,h1.1,h3,fun W B=>⟨rfl,h1.2.1.below B,h1.2.2⟩⟩
theorem ApplyR_any(v vc:Value)(g:Gr)(c:Ch)(w0:World)(hv:GV w0 v g)(hc:CV w0 vc c)(hs:g.small)(hl:c.ends.length<=100000/\c.deps.length<=100000)(hr:∀n∈c.ends,-9223372036854775808<=n/\n<=9223372036854775807):
  Calls Tryz.prog 20 #[v,vc] w0 (AppR g c w0):=by
 obtain⟨a,b,d,rfl,h1,h2,h3⟩:=hv;obtain⟨x,y,rfl,h4,h5⟩:=hc;have hxb:∀eb eo n d,x= .slice (some ⟨eb,eo,none⟩) n d->c.ends≠[]->eb<w0.heap.size:=fun eb eo n d e hne=>by
  rcases h4 with⟨h,_⟩|⟨_,b',o',c',e2,_,h,_⟩
  ·exact absurd h hne
  ·rw[e]at e2;injection e2 with e2;injection e2 with e2;injection e2 with e2;rw[e2];exact h
 obtain⟨a1,a2,rfl⟩:=h1.shape;obtain⟨b1,b2,rfl⟩:=h2.shape;obtain⟨c1,c2,rfl⟩:=h3.shape;obtain⟨e1,e2,rfl⟩:=h4.shape;obtain⟨f1,f2,rfl⟩:=h5.shape;have hok:g.ok=true->Ok g:=(ok_iff g).1;have cV:=Hd (fun W (B:Below w0.heap.size w0 W)=>ValidR_any (.agg #[.slice a1 g.vs.length a2,.slice b1 g.es.length b2,.slice c1 g.ds.length c2]) g W ⟨_,_,_,rfl,h1.below B,h2.below B,h3.below B⟩ hs);have cO:=Hd (fun W (B:Below w0.heap.size w0 W)=>OnlyR_any (.agg (chCells c (.slice e1 c.ends.length e2) (.slice f1 c.deps.length f2))) c W ⟨_,_,rfl,h4.below B,h5.below B⟩ ⟨by omega,by omega⟩);have cC:=Hd (fun(hg:Ok g) W (B:Below w0.heap.size w0 W)=>CopyR_any (.agg #[.slice a1 g.vs.length a2,.slice b1 g.es.length b2,.slice c1 g.ds.length c2]) g W ⟨_,_,_,rfl,h1.below B,h2.below B,h3.below B⟩ ⟨by have:=hg.vlen;omega,by have:=hg.elen;omega,by have:=hg.dlen;omega⟩);have cA:=Hd (fun(hg:Ok g) (hk:1<=c.kind/\c.kind<=10) (x y z:Value) (B0:Nat) (W:World) (B:Below w0.heap.size w0 W) (hW:B0<=W.heap.size) (hW0:w0.heap.size<=B0) (o1:OwnV W B0 x g.vs) (o2:OwnEd W B0 y g.es) (o3:OwnI W B0 z g.ds)=>actR_any x y z (.slice e1 c.ends.length e2) (.slice f1 c.deps.length f2) g c B0 W o1 o2 o3 (h4.below B) (h5.below B) hg hW hl hk hr (fun eb eo n d e hne=>Nat.lt_of_lt_of_le (hxb eb eo n d e hne) hW0));obtain⟨N1,hN1⟩:∃N,Hid (N=g.vs.length):=⟨_,rfl⟩;obtain⟨N2,hN2⟩:∃N,Hid (N=g.es.length):=⟨_,rfl⟩;obtain⟨N3,hN3⟩:∃N,Hid (N=g.ds.length):=⟨_,rfl⟩;obtain⟨m1,hm1⟩:∃N,Hid (N=c.ends.length):=⟨_,rfl⟩;obtain⟨m2,hm2⟩:∃N,Hid (N=c.deps.length):=⟨_,rfl⟩;rw[<-hN1.out,<-hN2.out,<-hN3.out]at cV cC ⊢;rw[<-hm1.out,<-hm2.out]at cO cA ⊢;unfold chCells at cO cA ⊢;have hokh:=Hd hok;obtain⟨B,hB⟩:∃B,Hid (B=w0.heap.size):=⟨_,rfl⟩;obtain⟨w1,hw1⟩:∃W,W=((w0.alloc (.cells #[.slice a1 N1 a2,.slice b1 N2 b2,.slice c1 N3 c2] 26)).alloc (.cells #[.int .i64 c.kind,.int .i64 c.v.id,.int .i64 c.v.side,.int .i64 c.e.id,.int .i64 c.e.src,.int .i64 c.e.dst,.bool c.e.dir,.int .i64 c.e.wt,.int .i64 c.e.cap,.int .i64 c.id,.int .i64 c.n,.slice e1 m1 e2,.slice f1 m2 f2] 33)).alloc (.cells #[.slice none 0 0,.slice none 0 0,.slice none 0 0] 26):=⟨_,rfl⟩;have hBw:=Hd (show Below w0.heap.size w0 w1 by rw[hw1];exact(((Below.refl _ w0).alloc (Nat.le_refl _) _).alloc (by simp) _).alloc (by simp;omega) _);have hsz:w1.heap.size=B+3:=by rw[hw1,hB.out];simp
 have hbox:=Hd (show w1.heap[B]?=some (.cells #[.slice a1 N1 a2,.slice b1 N2 b2,.slice c1 N3 c2] 26 (0,0))by rw[hw1,hB.out];exact al_keep1 (al_keep1 (heap_alloc_new w0 _)));have hcbx:=Hd (show w1.heap[B+1]?=some (.cells #[.int .i64 c.kind,.int .i64 c.v.id,.int .i64 c.v.side,.int .i64 c.e.id,.int .i64 c.e.src,.int .i64 c.e.dst,.bool c.e.dir,.int .i64 c.e.wt,.int .i64 c.e.cap,.int .i64 c.id,.int .i64 c.n,.slice e1 m1 e2,.slice f1 m2 f2] 33 (0,0))by rw[hw1,hB.out];have h:=al_keep1 (p:= .cells #[.slice none 0 0,.slice none 0 0,.slice none 0 0] 26) (heap_alloc_new (w0.alloc (.cells #[.slice a1 N1 a2,.slice b1 N2 b2,.slice c1 N3 c2] 26)) (.cells #[.int .i64 c.kind,.int .i64 c.v.id,.int .i64 c.v.side,.int .i64 c.e.id,.int .i64 c.e.src,.int .i64 c.e.dst,.bool c.e.dir,.int .i64 c.e.wt,.int .i64 c.e.cap,.int .i64 c.id,.int .i64 c.n,.slice e1 m1 e2,.slice f1 m2 f2] 33));simpa using h);have hres:=Hd (show w1.heap[B+2]?=some (.cells #[.slice none 0 0,.slice none 0 0,.slice none 0 0] 26 (0,0))by rw[hw1,hB.out];have h:=heap_alloc_new ((w0.alloc (.cells #[.slice a1 N1 a2,.slice b1 N2 b2,.slice c1 N3 c2] 26)).alloc (.cells #[.int .i64 c.kind,.int .i64 c.v.id,.int .i64 c.v.side,.int .i64 c.e.id,.int .i64 c.e.src,.int .i64 c.e.dst,.bool c.e.dir,.int .i64 c.e.wt,.int .i64 c.e.cap,.int .i64 c.id,.int .i64 c.n,.slice e1 m1 e2,.slice f1 m2 f2] 33)) (.cells #[.slice none 0 0,.slice none 0 0,.slice none 0 0] 26);simpa using h);have hbase:=Hd (show ∀W,Below w1.heap.size w1 W->Below w0.heap.size w0 W from fun W BB=>hBw.out.trans (BB.mono hBw.out.size));have hT:=Hd (fun W (BB:Below w1.heap.size w1 W)=>And.intro (box3 ((BB.block B (by omega)).trans hbox.out)) (ch_cells (c:=c) (a:= .slice e1 m1 e2) (b:= .slice f1 m2 f2) ((BB.block (B+1) (by omega)).trans hcbx.out)));have hR:=Hd (fun W (BB:Below w1.heap.size w1 W)=>(BB.block (B+2) (by omega)).trans hres.out);have hno:=Hd (show ∀W,Below w1.heap.size w1 W->(if g.ok=true then actF g c else none)=none->AppR g c w0 (.returned (.tuple #[.agg #[.slice none 0 0,.slice none 0 0,.slice none 0 0],.int .i64 30])) (W.setRow (B+2) #[.slice none 0 0,.slice none 0 0,.slice none 0 0])from fun W BB e=>⟨by have h:=below_row (hbase.out W BB) (show w0.heap.size<=B+2 by rw[hB.out];omega) #[.slice none 0 0,.slice none 0 0,.slice none 0 0];exact h,by rw[e]⟩);have hwh:=Hd hw1;have hkF:=Hd (actF_kind g c);clear h1 h2 h3 h4 h5 hw1 hok hxb hr hl hs;obtain⟨ok,hoke⟩:∃o,Hid (o=g.ok):=⟨_,rfl⟩;rw[<-hoke.out]at cV;go_enter Tryz.func20,Tryz.ntmps20;go_upto_region 1 with(fail);rw[<-hwh.out,<-hB.out];obtain⟨⟨t0,t1,t2⟩,p0,p1,p2,p3,p4,p5,p6,p7,p8,p9,pA,pB,pC⟩:=hT.out w1 (Below.refl _ _);cases ok with
 | false =>
  go_wp2_with fail;with_reducible refine(cV.out w1 hBw.out).mono ?_
  rintro e w2 ⟨rfl,b2⟩;have K2:=Hd b2;have r8:=Hd (hR.out w2 b2);have hf:=Hd (hno.out w2 b2 (by rw[if_neg (by rw[<-hoke.out];simp)]));clear b2 t0 t1 t2 p0 p1 p2 p3 p4 p5 p6 p7 p8 p9 pA pB pC
  go_wp2_with (refine wpList_store_row rfl 26 (.tmp 4) (.tmp 16) rfl (B+2) #[.slice none 0 0,.slice none 0 0,.slice none 0 0] rfl rfl 26 _ r8.out (size26b _ _ _) rfl (by simp[Value.oneCell']) ?_)
  refine bodyPost_ret (results_cell_tmp1_row (fn:=Tryz.f20) rfl _ _ (B+2) 26 #[.slice none 0 0,.slice none 0 0,.slice none 0 0] (0,0) _ _ rfl rfl (setRow_heap _ _ _ _ _ _ r8.out) Tryz.underlying26 rfl (size26b _ _ _)) rfl ?_;exact hf.out
 | true =>
 have hg:=Hd (hokh.out hoke.out.symm);go_wp2_with fail;with_reducible refine(cV.out w1 hBw.out).mono ?_
 rintro e w2 ⟨rfl,b2⟩;have K2:=Hd b2;clear b2 t0 t1 t2 p0 p1 p2 p3 p4 p5 p6 p7 p8 p9 pA pB pC;obtain⟨⟨t0,t1,t2⟩,p0,p1,p2,p3,p4,p5,p6,p7,p8,p9,pA,pB,pC⟩:=hT.out w2 K2.out;obtain⟨kb,hkb⟩:∃o,Hid (o=(kindB c&&bareF c)):=⟨_,rfl⟩;rw[<-hkb.out]at cO;go_wp2_with fail;with_reducible refine(cO.out w2 (hbase.out w2 K2.out)).mono ?_
 rintro e w3 ⟨rfl,b3⟩;have K3:=Hd (K2.out.trans (b3.mono K2.out.size));clear b3 t0 t1 t2 p0 p1 p2 p3 p4 p5 p6 p7 p8 p9 pA pB pC;cases kb with
 | false =>
  have r8:=Hd (hR.out w3 K3.out);have hf:=Hd (hno.out w3 K3.out (by
   rw[if_pos hoke.out.symm];cases hk:kindB c with
   | false=>exact hkF.out hk
   | true =>
    have h:=hkb.out;rw[hk,Bool.true_and]at h;unfold actF;rw[<-h];rfl))
  go_wp2_with (refine wpList_store_row rfl 26 (.tmp 4) (.tmp 16) rfl (B+2) #[.slice none 0 0,.slice none 0 0,.slice none 0 0] rfl rfl 26 _ r8.out (size26b _ _ _) rfl (by simp[Value.oneCell']) ?_)
  refine bodyPost_ret (results_cell_tmp1_row (fn:=Tryz.f20) rfl _ _ (B+2) 26 #[.slice none 0 0,.slice none 0 0,.slice none 0 0] (0,0) _ _ rfl rfl (setRow_heap _ _ _ _ _ _ r8.out) Tryz.underlying26 rfl (size26b _ _ _)) rfl ?_;exact hf.out
 | true =>
 have hkk:=Hd (show 1<=c.kind/\c.kind<=10 by have h:=hkb.out.symm;rw[Bool.and_eq_true]at h;have:=h.1;unfold kindB at this;simpa using this);have hact:=Hd (show(if g.ok=true then actF g c else none)=actK g c by rw[if_pos hoke.out.symm];unfold actF;rw[if_pos (by have h:=hkb.out.symm;rw[Bool.and_eq_true]at h;exact h.2)]);go_upto_region 3 with(fail);clear hno hkF hokh cV cO;have S3:=K3.out.size;obtain⟨nB,hnB⟩:∃n,Hid (n=w3.heap.size):=⟨_,rfl⟩;have hle:=Hd (show ∀W,Below nB w3 W->nB<=W.heap.size from fun W b=>by rw[hnB.out];exact b.size);have S0:w0.heap.size<=nB:=by have:=hBw.out.size;rw[hnB.out];omega
 rw[<-hnB.out]at S3
 go_cut [6,7]from 17 to 23 (fun s6 s7 wx=>∃(q:Nat) (okb:Bool) (x1 x2 x3:Option Addr) (n1 n2 n3 d1 d2 d3:Nat),s6= .pointer (some ⟨q,0,none⟩)/\s7= .bool okb/\wx.heap[q]?=some (.cells #[.slice x1 n1 d1,.slice x2 n2 d2,.slice x3 n3 d3] 26 (0,0))/\Below nB w3 wx/\ActM g c nB wx (.agg #[.slice x1 n1 d1,.slice x2 n2 d2,.slice x3 n3 d3]) okb)
 case first =>
  refine wp_region_F (fun w':World=>Below nB w3 w') 999 (by kernel_rfl) (Below.refl _ _).drew (fun hHeld=>?_);refine tkP 0 rfl ?_ (by(intro w hSw;obtain⟨⟨t0,t1,t2⟩,p0,p1,p2,p3,p4,p5,p6,p7,p8,p9,pA,pB,pC⟩:=hT.out w (K3.out.trans (hSw.mono S3));go_simp)<;>with_reducible rfl);refine tkP 2 rfl ?_ (by(intro w hSw;obtain⟨⟨t0,t1,t2⟩,p0,p1,p2,p3,p4,p5,p6,p7,p8,p9,pA,pB,pC⟩:=hT.out w (K3.out.trans (hSw.mono S3));go_simp)<;>with_reducible rfl);refine rdy [1,7] ?_;refine arC rfl (fun K hK=>?_) ?_
  ·skip
   go_simp;with_reducible refine(cC.out hg.out _ (hbase.out _ (K3.out.trans (hHeld.mono S3)))).mono ?_
   rintro e w4 ⟨x,y,z,rfl,o1,o2,o3,b⟩;have b4:Below nB w3 w4:=hHeld.trans (b.mono (hle.out _ hHeld));have hO:=Hd (show OwnV w4 nB x g.vs/\OwnEd w4 nB y g.es/\OwnI w4 nB z g.ds from⟨own_low o1 (hle.out _ hHeld),own_low o2 (hle.out _ hHeld),own_low o3 (hle.out _ hHeld)⟩);clear b o1 o2 o3;go_wp2_with fail;refine hK.out _ _ ?_ (fun hHeld=>?_)
   ·exact b4
   clear hK K;try simp only[Act.put,zT,z0,zS]
   refine rdy [3,7] ?_;refine arC rfl (fun K hK=>?_) ?_
   ·skip
    go_simp;with_reducible refine(cA.out hg.out hkk.out x y z nB _ (hbase.out _ (K3.out.trans (hHeld.mono S3))) (hle.out _ hHeld) S0 hO.out.1 hO.out.2.1 hO.out.2.2).mono ?_
    rintro e w5 h5;obtain⟨x1,n1,d1,x2,n2,d2,x3,n3,d3,okb,rfl,b5,hm⟩:=h5.uni;have hM:=Hd hm;have b6:Below nB w3 w5:=hHeld.trans b5.1;clear h5 hm b5;go_wp2_with fail;refine hK.out _ _ ?_ (fun hHeld=>?_)
    ·exact b6
    clear hK K;try simp only[Act.put,zT,z0,zS]
    refine tkP 4 rfl ?_;refine tkP 5 rfl ?_;refine tkP 6 rfl ?_;refine rdy [7] ?_;refine arC rfl (fun K hK=>?_) ?_
    ·skip
     go_simp;obtain⟨xA,hxA,hxl⟩:∃xA,xA=(w5).heap.size/\Hid (nB<=xA):=⟨_,rfl,hle.out _ hHeld⟩;obtain⟨wA,hwA⟩:∃wA,wA=(w5).alloc (.cells #[.slice none 0 0,.slice none 0 0,.slice none 0 0] 26):=⟨_,rfl⟩;have hA:Below nB w3 wA:=by rw[hwA];exact hHeld.alloc (hle.out _ hHeld) _
     have hBA:=Hd (show Below (w5).heap.size (w5) wA from by rw[hwA];exact(Below.refl _ _).alloc (Nat.le_refl _) _);have hx0:=Hd (show ∀W2,Below wA.heap.size wA W2->W2.heap[xA]?=some (.cells #[.slice none 0 0,.slice none 0 0,.slice none 0 0] 26 (0,0))from fun W2 b2=>by rw[b2.block _ (by rw[hwA,hxA];simp[heap_drew]),hwA,hxA];exact heap_alloc_new (w5) _);have hM:=Hd (hM.out _ hBA.out);have hxA':=Hd hxA;refine hK.out _ _ ?_ (fun hHeld=>?_)
     ·rw[<-hwA];exact hA
     clear hK K;try simp only[Act.put,zT,z0,zS]
     rw[<-hwA];try simp only[heap_drew]at hxA
     rw[<-hxA];replace hHeld:=hA;clear hA hwA hxA hxA' hBA;refine rdy [8] ?_;refine arC rfl (fun K hK=>?_) ?_
     ·skip
      have hx:=hx0.out _ (Below.refl _ _);refine wp_store_row 26 (.tmp 6) (.tmp 22) rfl xA #[.slice x1 n1 d1,.slice x2 n2 d2,.slice x3 n3 d3] rfl rfl 26 _ hx (size26b _ _ _) rfl (by simp[Value.oneCell']) ?_;obtain⟨W8,hW8⟩:∃W8,W8=World.setRow wA xA #[.slice x1 n1 d1,.slice x2 n2 d2,.slice x3 n3 d3]:=⟨_,rfl⟩;have b8:Below nB w3 W8:=by rw[hW8];exact below_setRow' hHeld hxl.out _
      have c8:W8.heap[xA]?=some (.cells #[.slice x1 n1 d1,.slice x2 n2 d2,.slice x3 n3 d3] 26 (0,0)):=by rw[hW8];exact setRow_heap _ _ _ _ _ _ hx
      have hM8:=Hd (show ActM g c nB W8 (.agg #[.slice x1 n1 d1,.slice x2 n2 d2,.slice x3 n3 d3]) okb from by rw[hW8];exact ActM.row hM.out hx _);refine hK.out _ _ ?_ (fun hHeld=>?_)
      ·rw[<-hW8];exact b8
      clear hK K;try simp only[Act.put,zT,z0,zS]
      rw[<-hW8];replace hHeld:=b8;clear hW8 hx;refine tkP 9 rfl ?_;refine wpAnyF_done (by kernel_rfl) ?_ _;go_wp2_with fail
      go_meet
      case rel=>exact⟨xA,okb,x1,x2,x3,n1,n2,n3,d1,d2,d3,rfl,rfl,c8,b8,hM8.out⟩
     exact AllReadyF.nil
    exact AllReadyF.nil
   refine arC rfl (fun K hK=>?_) ?_
   ·skip
    go_simp;obtain⟨xA,hxA,hxl⟩:∃xA,xA=(w4).heap.size/\Hid (nB<=xA):=⟨_,rfl,hle.out _ hHeld⟩;obtain⟨wA,hwA⟩:∃wA,wA=(w4).alloc (.cells #[.slice none 0 0,.slice none 0 0,.slice none 0 0] 26):=⟨_,rfl⟩;have hA:Below nB w3 wA:=by rw[hwA];exact hHeld.alloc (hle.out _ hHeld) _
    have hBA:=Hd (show Below (w4).heap.size (w4) wA from by rw[hwA];exact(Below.refl _ _).alloc (Nat.le_refl _) _);have hx0:=Hd (show ∀W2,Below wA.heap.size wA W2->W2.heap[xA]?=some (.cells #[.slice none 0 0,.slice none 0 0,.slice none 0 0] 26 (0,0))from fun W2 b2=>by rw[b2.block _ (by rw[hwA,hxA];simp[heap_drew]),hwA,hxA];exact heap_alloc_new (w4) _);have hO:=Hd (show OwnV wA nB x g.vs/\OwnEd wA nB y g.es/\OwnI wA nB z g.ds from⟨own_below hO.out.1 hBA.out,own_below hO.out.2.1 hBA.out,own_below hO.out.2.2 hBA.out⟩);have hxA':=Hd hxA;refine hK.out _ _ ?_ (fun hHeld=>?_)
    ·rw[<-hwA];exact hA
    clear hK K;try simp only[Act.put,zT,z0,zS]
    rw[<-hwA];try simp only[heap_drew]at hxA
    rw[<-hxA];replace hHeld:=hA;clear hA hwA hxA hxA' hBA;refine rdy [3] ?_;refine arC rfl (fun K hK=>?_) ?_
    ·skip
     go_simp;with_reducible refine(cA.out hg.out hkk.out x y z nB _ (hbase.out _ (K3.out.trans (hHeld.mono S3))) (hle.out _ hHeld) S0 hO.out.1 hO.out.2.1 hO.out.2.2).mono ?_
     rintro e w5 h5;obtain⟨x1,n1,d1,x2,n2,d2,x3,n3,d3,okb,rfl,b5,hm⟩:=h5.uni;have hM:=Hd hm;have hx3:=Hd (b5.2 xA _ (hx0.out _ (Below.refl _ _)));have b6:Below nB w3 w5:=hHeld.trans b5.1;clear h5 hm b5;go_wp2_with fail;refine hK.out _ _ ?_ (fun hHeld=>?_)
     ·exact b6
     clear hK K;try simp only[Act.put,zT,z0,zS]
     refine tkP 4 rfl ?_;refine tkP 5 rfl ?_;refine tkP 6 rfl ?_;refine rdy [8] ?_;refine arC rfl (fun K hK=>?_) ?_
     ·skip
      have hx:=hx3.out;refine wp_store_row 26 (.tmp 6) (.tmp 22) rfl xA #[.slice x1 n1 d1,.slice x2 n2 d2,.slice x3 n3 d3] rfl rfl 26 _ hx (size26b _ _ _) rfl (by simp[Value.oneCell']) ?_;obtain⟨W8,hW8⟩:∃W8,W8=World.setRow w5 xA #[.slice x1 n1 d1,.slice x2 n2 d2,.slice x3 n3 d3]:=⟨_,rfl⟩;have b8:Below nB w3 W8:=by rw[hW8];exact below_setRow' hHeld hxl.out _
      have c8:W8.heap[xA]?=some (.cells #[.slice x1 n1 d1,.slice x2 n2 d2,.slice x3 n3 d3] 26 (0,0)):=by rw[hW8];exact setRow_heap _ _ _ _ _ _ hx
      have hM8:=Hd (show ActM g c nB W8 (.agg #[.slice x1 n1 d1,.slice x2 n2 d2,.slice x3 n3 d3]) okb from by rw[hW8];exact ActM.row (hM.out _ (Below.refl _ _)) hx _);refine hK.out _ _ ?_ (fun hHeld=>?_)
      ·rw[<-hW8];exact b8
      clear hK K;try simp only[Act.put,zT,z0,zS]
      rw[<-hW8];replace hHeld:=b8;clear hW8 hx;refine tkP 9 rfl ?_;refine wpAnyF_done (by kernel_rfl) ?_ _;go_wp2_with fail
      go_meet
      case rel=>exact⟨xA,okb,x1,x2,x3,n1,n2,n3,d1,d2,d3,rfl,rfl,c8,b8,hM8.out⟩
     exact AllReadyF.nil
    exact AllReadyF.nil
   exact AllReadyF.nil
  refine arC rfl (fun K hK=>?_) ?_
  ·skip
   go_simp;obtain⟨xA,hxA,hxl⟩:∃xA,xA=(w3.drew).heap.size/\Hid (nB<=xA):=⟨_,rfl,hle.out _ hHeld⟩;obtain⟨wA,hwA⟩:∃wA,wA=(w3.alloc (.cells #[.slice none 0 0,.slice none 0 0,.slice none 0 0] 26)).drew:=⟨_,rfl⟩;have hA:Below nB w3 wA:=by rw[hwA];exact hHeld.alloc (hle.out _ hHeld) _
   have hBA:=Hd (show Below (w3.drew).heap.size (w3.drew) wA from by rw[hwA];exact(Below.refl _ _).alloc (Nat.le_refl _) _);have hx0:=Hd (show ∀W2,Below wA.heap.size wA W2->W2.heap[xA]?=some (.cells #[.slice none 0 0,.slice none 0 0,.slice none 0 0] 26 (0,0))from fun W2 b2=>by rw[b2.block _ (by rw[hwA,hxA];simp[heap_drew]),hwA,hxA];exact heap_alloc_new (w3.drew) _);have hxA':=Hd hxA;refine hK.out _ _ ?_ (fun hHeld=>?_)
   ·rw[<-hwA];exact hA
   clear hK K;try simp only[Act.put,zT,z0,zS]
   rw[<-hwA];try simp only[heap_drew]at hxA
   rw[<-hxA];replace hHeld:=hA;clear hA hwA hxA hxA' hBA;refine rdy [1] ?_;refine arC rfl (fun K hK=>?_) ?_
   ·skip
    go_simp;with_reducible refine(cC.out hg.out _ (hbase.out _ (K3.out.trans (hHeld.mono S3)))).mono ?_
    rintro e w4 ⟨x,y,z,rfl,o1,o2,o3,b⟩;have b4:Below nB w3 w4:=hHeld.trans (b.mono (hle.out _ hHeld));have hO:=Hd (show OwnV w4 nB x g.vs/\OwnEd w4 nB y g.es/\OwnI w4 nB z g.ds from⟨own_low o1 (hle.out _ hHeld),own_low o2 (hle.out _ hHeld),own_low o3 (hle.out _ hHeld)⟩);have hx1:=Hd (hx0.out _ b);clear b o1 o2 o3;go_wp2_with fail;refine hK.out _ _ ?_ (fun hHeld=>?_)
    ·exact b4
    clear hK K;try simp only[Act.put,zT,z0,zS]
    refine rdy [3] ?_;refine arC rfl (fun K hK=>?_) ?_
    ·skip
     go_simp;with_reducible refine(cA.out hg.out hkk.out x y z nB _ (hbase.out _ (K3.out.trans (hHeld.mono S3))) (hle.out _ hHeld) S0 hO.out.1 hO.out.2.1 hO.out.2.2).mono ?_
     rintro e w5 h5;obtain⟨x1,n1,d1,x2,n2,d2,x3,n3,d3,okb,rfl,b5,hm⟩:=h5.uni;have hM:=Hd hm;have hx3:=Hd (b5.2 xA _ (hx1.out));have b6:Below nB w3 w5:=hHeld.trans b5.1;clear h5 hm b5;go_wp2_with fail;refine hK.out _ _ ?_ (fun hHeld=>?_)
     ·exact b6
     clear hK K;try simp only[Act.put,zT,z0,zS]
     refine tkP 4 rfl ?_;refine tkP 5 rfl ?_;refine tkP 6 rfl ?_;refine rdy [8] ?_;refine arC rfl (fun K hK=>?_) ?_
     ·skip
      have hx:=hx3.out;refine wp_store_row 26 (.tmp 6) (.tmp 22) rfl xA #[.slice x1 n1 d1,.slice x2 n2 d2,.slice x3 n3 d3] rfl rfl 26 _ hx (size26b _ _ _) rfl (by simp[Value.oneCell']) ?_;obtain⟨W8,hW8⟩:∃W8,W8=World.setRow w5 xA #[.slice x1 n1 d1,.slice x2 n2 d2,.slice x3 n3 d3]:=⟨_,rfl⟩;have b8:Below nB w3 W8:=by rw[hW8];exact below_setRow' hHeld hxl.out _
      have c8:W8.heap[xA]?=some (.cells #[.slice x1 n1 d1,.slice x2 n2 d2,.slice x3 n3 d3] 26 (0,0)):=by rw[hW8];exact setRow_heap _ _ _ _ _ _ hx
      have hM8:=Hd (show ActM g c nB W8 (.agg #[.slice x1 n1 d1,.slice x2 n2 d2,.slice x3 n3 d3]) okb from by rw[hW8];exact ActM.row (hM.out _ (Below.refl _ _)) hx _);refine hK.out _ _ ?_ (fun hHeld=>?_)
      ·rw[<-hW8];exact b8
      clear hK K;try simp only[Act.put,zT,z0,zS]
      rw[<-hW8];replace hHeld:=b8;clear hW8 hx;refine tkP 9 rfl ?_;refine wpAnyF_done (by kernel_rfl) ?_ _;go_wp2_with fail
      go_meet
      case rel=>exact⟨xA,okb,x1,x2,x3,n1,n2,n3,d1,d2,d3,rfl,rfl,c8,b8,hM8.out⟩
     exact AllReadyF.nil
    exact AllReadyF.nil
   exact AllReadyF.nil
  exact AllReadyF.nil
 case rest =>
 obtain⟨q,okb,x1,x2,x3,n1,n2,n3,d1,d2,d3,rfl,rfl,hq,b4,hM⟩:=hcut;rename_i w4;have K4:=Hd (K3.out.trans (b4.mono S3));have hMh:=Hd hM;have hqh:=Hd hq;have r8:=Hd (hR.out _ K4.out);clear hM b4;cases okb with
 | false =>
  have hn:actK g c=none:=hMh.out.no;have hf:=Hd (show AppR g c w0 (.returned (.tuple #[.agg #[.slice none 0 0,.slice none 0 0,.slice none 0 0],.int .i64 30])) (World.setRow _ (B+2) #[.slice none 0 0,.slice none 0 0,.slice none 0 0])from⟨below_row (hbase.out _ K4.out) (show w0.heap.size<=B+2 by rw[hB.out];omega) #[.slice none 0 0,.slice none 0 0,.slice none 0 0],by rw[hact.out,hn]⟩);clear hn hq
  go_wp2_with (refine wpList_store_row rfl 26 (.tmp 4) (.tmp 26) rfl (B+2) #[.slice none 0 0,.slice none 0 0,.slice none 0 0] rfl rfl 26 _ r8.out (size26b _ _ _) rfl (by simp[Value.oneCell']) ?_)
  refine bodyPost_ret (results_cell_tmp1_row (fn:=Tryz.f20) rfl _ _ (B+2) 26 #[.slice none 0 0,.slice none 0 0,.slice none 0 0] (0,0) _ _ rfl rfl (setRow_heap _ _ _ _ _ _ r8.out) Tryz.underlying26 rfl (size26b _ _ _)) rfl ?_;exact hf.out
 | true =>
  obtain⟨p,hp,hgp,hge⟩:=hMh.out.yes;have hgs:=Hd (GV.shut0 hgp r8.out #[.slice x1 n1 d1,.slice x2 n2 d2,.slice x3 n3 d3]);have hf:=Hd (show AppR g c w0 (.returned (.tuple #[.agg #[.slice x1 n1 d1,.slice x2 n2 d2,.slice x3 n3 d3],.int .i64 0])) (World.setRow _ (B+2) #[.slice x1 n1 d1,.slice x2 n2 d2,.slice x3 n3 d3])from⟨below_row (hbase.out _ K4.out) (show w0.heap.size<=B+2 by rw[hB.out];omega) #[.slice x1 n1 d1,.slice x2 n2 d2,.slice x3 n3 d3],by rw[hact.out,hp];exact⟨_,rfl,hgs.out,hge.low S0⟩⟩);obtain⟨t0,t1,t2⟩:=box3 hq;clear hp hgp hge hq
  go_wp2_with (refine wpList_store_row rfl 26 (.tmp 4) (.tmp 27) rfl (B+2) #[.slice x1 n1 d1,.slice x2 n2 d2,.slice x3 n3 d3] rfl rfl 26 _ r8.out (size26b _ _ _) rfl (by simp[Value.oneCell']) ?_)
  refine bodyPost_ret (results_cell_tmp1_row (fn:=Tryz.f20) rfl _ _ (B+2) 26 #[.slice x1 n1 d1,.slice x2 n2 d2,.slice x3 n3 d3] (0,0) _ _ rfl rfl (setRow_heap _ _ _ _ _ _ r8.out) Tryz.underlying26 rfl (size26b _ _ _)) rfl ?_;exact hf.out
end Go.Proofs.YtlaldnlgapeckaaGreat
