/- GraphMatchesReference, AT EVERY INPUT: the call returns true, and each argument reads behind the call as it read before. Conditions: those of the given statement alone. -/
import Derived.Test.YtlaldnlgapeckaaGreatVMI
set_option linter.unusedSimpArgs false
set_option maxRecDepth 1000000
set_option maxHeartbeats 8000000
namespace Go.Proofs.YtlaldnlgapeckaaGreat
open Go.RowKit
theorem wp_Qn{C:Code}{Q:Exit->Act->World->Prop}{a:Act}{w:World}(h:Code.wp Tryz.prog C (Qn fun a w=>Q .normal a w) a w):Code.wp Tryz.prog C Q a w:=wp_mono h (fun e a w h=>by cases e<;>first|exact h|exact h.elim)
theorem OwnX.vals{w0 W:World}{B:Nat}{va:Option Addr}{vn vd:Nat}{l:List Ch}(h:OwnX w0 W B (.slice va vn vd) l)(hl:l≠[]):∃g,va=some ⟨g,0,none⟩/\vn=l.length/\vn<=vd/\vd<=9223372036854775807:=by
 obtain⟨ts,rfl,h1,_⟩:=h
 unfold OwnR at h1
 have hts:ts≠[]:=fun e=>hl (by rw[e];rfl)
 rcases h1.2 with⟨h0,h2⟩|⟨g,cap,cur,he,hb,hg,hc,hm,hs,ht⟩
 · exact absurd (List.length_eq_zero_iff.1 (by first|exact h0|exact h2|omega)) hts
 · injection he with e1 e2 e3
   subst e1 e2 e3
   unfold maxLen at hm
   exact⟨g,rfl,by simp,hc,by omega⟩
theorem VL.uptoM{W:World}{a:Option Addr}{n c:Nat}{l:List Vx}(h:VL W (.slice a n c) l)(hn:n=l.length)(m:Nat):VL W (.slice a (min n m) c) (l.take m):=by
 subst hn;exact(h.upto m).1
theorem EL.uptoM{W:World}{a:Option Addr}{n c:Nat}{l:List Ed}(h:EL W (.slice a n c) l)(hn:n=l.length)(m:Nat):EL W (.slice a (min n m) c) (l.take m):=by
 subst hn;exact(h.upto m).1
theorem DL.uptoM{W:World}{a:Option Addr}{n c:Nat}{l:List Int}(h:DL W (.slice a n c) l)(hn:n=l.length)(m:Nat):DL W (.slice a (min n m) c) (l.take m):=by
 subst hn;exact(h.upto m).1
theorem MatchM_any(n:Int)(vl:Value)(l:List F5)(wide:Bool)(vx:Value)(xs:List F6)(id:Int)(raw:Gr)(odd:Ch)(r1 r3 r5 oa ob:Option Addr)(n1 r2 n2 r4 n3 r6 k1 oc k2 od:Nat)(w:World)
  (hl:L5 w vl l) (hn:i64B n) (hlen:l.length<=9223372036854775807) (hr:∀r∈l,i64B r.a/\i64B r.b/\i64B r.c/\i64B r.d/\i64B r.e) (hx:L6 w vx xs) (_hxlen:xs.length<=9223372036854775807) (hxr:∀r∈xs,r.inB) (hid:inI id)
  (hv:VL w (.slice r1 n1 r2) raw.vs) (he:EL w (.slice r3 n2 r4) raw.es) (hd:DL w (.slice r5 n3 r6) raw.ds) (hnn:n1=raw.vs.length/\n2=raw.es.length/\n3=raw.ds.length) (hcap:n1<=r2/\n2<=r4/\n3<=r6) (hbig:n1<=9223372036854775807/\n2<=9223372036854775807/\n3<=9223372036854775807)
  (hoA:DL w (.slice oa k1 oc) odd.ends) (hoB:DL w (.slice ob k2 od) odd.deps) (hkk:k1=odd.ends.length/\k2=odd.deps.length) (hkc:k1<=oc/\k2<=od/\k1<=9223372036854775807/\k2<=9223372036854775807) (hri:∀n∈chN odd,inI n) :
  Calls Tryz.prog 3 #[.agg #[.slice r1 n1 r2,.slice r3 n2 r4,.slice r5 n3 r6],.int .i64 n,vl,.bool wide,.agg (chCells odd (.slice oa k1 oc) (.slice ob k2 od)),vx,.int .i64 id] w fun e w'=>e= .returned (.bool true)/\Below w.heap.size w w':=by
 obtain⟨la,lc,rfl⟩:=hx.shape
 obtain⟨N,hN⟩:∃N,Hid (N=xs.length):=⟨_,rfl⟩
 obtain⟨W0,hW0⟩:∃W0,W0=(w.alloc (.cells #[.slice r1 n1 r2,.slice r3 n2 r4,.slice r5 n3 r6] 26)).alloc (.cells (chCells odd (.slice oa k1 oc) (.slice ob k2 od)) 33):=⟨_,rfl⟩
 obtain⟨b0,hb0⟩:∃b,Hid (b=w.heap.size):=⟨_,rfl⟩
 have z0:W0.heap.size=b0+2:=by rw[hW0,hb0.out];simp
 have B0:=Hd (show Below w.heap.size w W0 by rw[hW0];exact((Below.refl _ w).alloc (Nat.le_refl _) _).alloc (by simp) _)
 have g8:=Hd (show W0.heap[b0]?=some (.cells #[.slice r1 n1 r2,.slice r3 n2 r4,.slice r5 n3 r6] 26 (0,0))by rw[hW0,hb0.out];exact al_keep1 (heap_alloc_new w _))
 have g11:=Hd (show W0.heap[b0+1]?=some (.cells (chCells odd (.slice oa k1 oc) (.slice ob k2 od)) 33 (0,0))by rw[hW0,hb0.out];have h:=heap_alloc_new (w.alloc (.cells #[.slice r1 n1 r2,.slice r3 n2 r4,.slice r5 n3 r6] 26)) (.cells (chCells odd (.slice oa k1 oc) (.slice ob k2 od)) 33);simpa using h)
 have cS:=Hd (sane_any W0)
 have up0:=Hd (fun W (B:Below W0.heap.size W0 W)=>B0.out.trans (B.mono B0.out.size))
 obtain⟨G,hG⟩:∃G,Hid (G=madeG n l wide):=⟨_,rfl⟩
 have hok:Ok G:=by rw[hG.out];exact made_ok n l wide
 replace hok:=Hd hok
 have cM:=Hd (show ∀W (B:Below W0.heap.size W0 W),Calls Tryz.prog 11 #[.int .i64 n,vl,.bool wide] W fun e w'=>∃a1 a2 b1 b2 c1 c2,∃n1 n2 n3:Nat,e= .returned (.agg #[.slice a1 n1 a2,.slice b1 n2 b2,.slice c1 n3 c2])/\GV w' (.agg #[.slice a1 n1 a2,.slice b1 n2 b2,.slice c1 n3 c2]) G/\Below W.heap.size W w' from fun W B=>(Made_any n vl l wide W (hl.below (up0.out W B)) hn hlen hr).mono fun e w' h=>by
  obtain⟨x,y,z,he,o1,o2,o3,hb⟩:=h
  rw[<-hG.out]at o1 o2 o3
  obtain⟨a1,a2,rfl⟩:=o1.VL.shape
  obtain⟨b1,b2,rfl⟩:=o2.EL.shape
  obtain⟨c1,c2,rfl⟩:=o3.DL.shape
  exact⟨_,_,_,_,_,_,_,_,_,he,⟨_,_,_,rfl,o1.VL,o2.EL,o3.DL⟩,hb⟩)
 have hV:=Hd (fun W (B:Below W0.heap.size W0 W)=>(⟨_,_,_,rfl,(hv.uptoM hnn.1 8).below (up0.out W B),(he.uptoM hnn.2.1 10).below (up0.out W B),(hd.uptoM hnn.2.2 4).below (up0.out W B)⟩:GV W (.agg #[.slice r1 (min n1 8) r2,.slice r3 (min n2 10) r4,.slice r5 (min n3 4) r6]) (fewG raw)))
 have hO:=Hd (fun W (B:Below W0.heap.size W0 W)=>And.intro ((hoA.uptoM hkk.1 82).below (up0.out W B)) ((hoB.uptoM hkk.2 5).below (up0.out W B)))
 have hX:=Hd (show ∀k (hk:k<xs.length),∃b o,la=some ⟨b,o,none⟩/\ ∀W,Below W0.heap.size W0 W->W.cell? ⟨b,o+k*6,none⟩=some (.int .i64 xs[k].a)/\W.cell? ⟨b,o+k*6+1,none⟩=some (.int .i64 xs[k].b)/\W.cell? ⟨b,o+k*6+2,none⟩=some (.int .i64 xs[k].c)/\W.cell? ⟨b,o+k*6+3,none⟩=some (.int .i64 xs[k].d)/\W.cell? ⟨b,o+k*6+4,none⟩=some (.int .i64 xs[k].e)/\W.cell? ⟨b,o+k*6+5,none⟩=some (.int .i64 xs[k].f)from fun k hk=>by
  obtain⟨b,o,c,he,_,hc⟩:=hx.at_ k hk
  injection he with he _ _
  exact⟨b,o,he,fun W BB=>hc W (up0.out W BB)⟩)
 have kfew:=Hd (fun W=>few_x r1 r3 r5 n1 r2 n2 r4 n3 r6 W hcap.1 hcap.2.1 hcap.2.2 hbig)
 have kcut:=Hd (fun W=>cut_x odd oa ob k1 oc k2 od W hkc.1 hkc.2.1 hkc.2.2)
 have hcl:=Hd (show(cutC odd).ends.length<=1000/\(cutC odd).deps.length<=1000 by simp only[cutC,List.length_take];omega)
 have hci:=Hd (show chIn (cutC odd)from fun n hn=>by
  have h:=hri n (by unfold chN;simp only[List.mem_append];exact .inl (.inl (.inr (List.mem_of_mem_take hn))))
  exact h)
 replace hxr:=Hd hxr
 replace hid:=Hd hid
 have hfF:=Hd (show Few (fewG raw)by refine⟨?_,?_,?_⟩<;>simp only[fewG,List.length_take]<;>omega)
 have hfG:=Hd hok.out.few
 replace z0:=Hd z0
 simp only[chCells]at hW0
 replace hW0:=Hd hW0
 rw[<-hN.out]at _hxlen ⊢
 clear hl hn hlen hr hv he hd hnn hoA hoB hx hkk hkc hri hG
 unfold chCells
 go_enter Tryz.func3,Tryz.ntmps3
 go_wp2_with fail
 rw[<-hW0.out,<-hb0.out]
 refine cS.out.mono ?_
 rintro e w1 ⟨rfl,b1⟩
 have b1:=Hd b1
 go_wp2_with fail
 refine(cM.out w1 b1.out).mono ?_
 rintro e w2 ⟨g1,g2,g3,g4,g5,g6,m1,m2,m3,rfl,hgv,b2⟩
 obtain⟨w3,hw3⟩:∃W,W=w2.alloc (.cells #[.slice g1 m1 g2,.slice g3 m2 g4,.slice g5 m3 g6] 26):=⟨_,rfl⟩
 obtain⟨p16,hp16⟩:∃p,Hid (p=w2.heap.size):=⟨_,rfl⟩
 have hB2:=Hd (b1.out.trans (b2.mono b1.out.size))
 have hA3:=Hd (show Below w2.heap.size w2 w3 by rw[hw3];exact(Below.refl _ _).alloc (Nat.le_refl _) _)
 have hB3:=Hd (hB2.out.trans (hA3.out.mono hB2.out.size))
 have gx16:=Hd (show w3.heap[p16]?=some (.cells #[.slice g1 m1 g2,.slice g3 m2 g4,.slice g5 m3 g6] 26 (0,0))by rw[hw3,hp16.out];exact heap_alloc_new w2 _)
 have hgv3:=Hd (hgv.below hA3.out)
 replace hw3:=Hd hw3
 clear hgv b2 b1
 go_upto_region 5 with(fail)
 rw[<-hw3.out,<-hp16.out]
 have low:=Hd (fun W (BB:Below w3.heap.size w3 W)=>(hB3.out.trans (BB.mono hB3.out.size):Below W0.heap.size W0 W))
 have hl7:=Hd (fun W (BB:Below w3.heap.size w3 W)=>(box3c (((low.out W BB).block b0 (by have:=z0.out;omega)).trans g8.out)).1)
 have hl16:=Hd (fun W (BB:Below w3.heap.size w3 W)=>(BB.block p16 (Array.getElem?_eq_some_iff.1 gx16.out).1).trans gx16.out)
 have hg16:=Hd (fun W (BB:Below w3.heap.size w3 W)=>hgv3.out.below BB)
 have hx11:=Hd (fun W (BB:Below w3.heap.size w3 W)=>((low.out W BB).block (b0+1) (by have:=z0.out;omega)).trans g11.out)
 clear hgv3 gx16 hB2 hA3 hW0 cS cM hw3
 go_cut [49,50,51]from 46 to 51 (fun s l z wx=>Hid (∃gb,s= .slice (some ⟨gb,0,none⟩) 2 2/\l= .int .i64 2/\z= .int .i64 0/\Hid (wx.heap[gb]?=some (.cells #[.slice r1 (min n1 8) r2,.slice r3 (min n2 10) r4,.slice r5 (min n3 4) r6,.slice g1 m1 g2,.slice g3 m2 g4,.slice g5 m3 g6] 26 (0,0)))/\Hid (Below w3.heap.size w3 wx)))
 case first =>
  refine wp_region_F (fun W=>Below w3.heap.size w3 W) 999 (by kernel_rfl) (Below.refl _ w3).drew (fun hHeld=>?_)
  refine tkP 0 rfl ?_ (by(intro w h;obtain⟨u0,u1,u2⟩:=hl7.out w h;clear h;go_simp)<;>with_reducible rfl)
  refine tkP 2 rfl ?_ (by(intro w h;obtain⟨u0,u1,u2⟩:=(box3c (hl16.out w h)).1;clear h;go_simp)<;>with_reducible rfl)
  refine tkP 5 rfl ?_
  refine rdy [1] ?_
  refine arC rfl (fun K hK=>?_) AllReadyF.nil
  go_simp
  refine(kfew.out _).mono ?_
  rintro e w5 ⟨rfl,b5⟩
  have hb5:Below w3.heap.size w3 w5:=(Below.refl _ w3).drew.trans b5
  go_wp2_with fail
  refine hK.out _ _ hb5 (fun hHeld=>?_)
  clear hK K
  try simp only[Act.put,zT,z0,zS]
  refine rdy [3] ?_
  refine arC rfl (fun K hK=>?_) AllReadyF.nil
  go_simp
  go_wp2_with fail
  have hb6:Below w3.heap.size w3 (w5.alloc (.cells #[.slice r1 (min n1 8) r2,.slice r3 (min n2 10) r4,.slice r5 (min n3 4) r6,.slice g1 m1 g2,.slice g3 m2 g4,.slice g5 m3 g6] 26)):=hb5.alloc hb5.size _
  refine hK.out _ _ hb6 (fun hHeld=>?_)
  clear hK K
  try simp only[Act.put,zT,z0,zS]
  refine tkP 4 rfl ?_
  refine wpAnyF_done (by kernel_rfl) ?_ _
  have hb6:=Hd hb6
  clear hHeld hb5 b5
  go_wp2_with fail
  go_meet
  case rel=>exact⟨_,rfl,rfl,rfl,heap_alloc_new w5 _,hb6⟩
 case rest =>
 obtain⟨gb,rfl,rfl,rfl,hrow,hb⟩:=hcut.out
 obtain⟨wx,rfl⟩:∃w',w'=wc:=⟨_,rfl⟩
 clear hcut
 have hsel:∀k,k<2-> ∃(C:Gr) (a1 a3 a5:Option Addr) (e1 a2 e2 a4 e3 a6:Nat),Hid (∀W,Below wx.heap.size wx W->(W.cell? ⟨gb,k*3,none⟩=some (.slice a1 e1 a2)/\W.cell? ⟨gb,k*3+1,none⟩=some (.slice a3 e2 a4)/\W.cell? ⟨gb,k*3+2,none⟩=some (.slice a5 e3 a6))/\GV W (.agg #[.slice a1 e1 a2,.slice a3 e2 a4,.slice a5 e3 a6]) C)/\Hid (Few C):=by
  intro k hk
  have hrw:=fun W (BB:Below wx.heap.size wx W)=>(BB.block gb (Array.getElem?_eq_some_iff.1 hrow.out).1).trans hrow.out
  rcases(by omega:k=0\/k=1)with rfl|rfl
  · refine⟨fewG raw,_,_,_,_,_,_,_,_,_,fun W BB=>⟨⟨?_,?_,?_⟩,hV.out W (low.out W (hb.out.trans (BB.mono hb.out.size)))⟩,hfF⟩<;>(rw[cell_of_row W gb _ _ _ _ (hrw W BB)];rfl)
  · refine⟨G,_,_,_,_,_,_,_,_,_,fun W BB=>⟨⟨?_,?_,?_⟩,hg16.out W (hb.out.trans (BB.mono hb.out.size))⟩,hfG⟩<;>(rw[cell_of_row W gb _ _ _ _ (hrw W BB)];rfl)
 replace hsel:=Hd hsel
 have lowx:=Hd (fun W (BB:Below wx.heap.size wx W)=>(low.out W (hb.out.trans (BB.mono hb.out.size)):Below W0.heap.size W0 W))
 have hq16:=Hd (fun W (BB:Below wx.heap.size wx W)=>hl16.out W (hb.out.trans (BB.mono hb.out.size)))
 have hG16:=Hd (fun W (BB:Below wx.heap.size wx W)=>hg16.out W (hb.out.trans (BB.mono hb.out.size)))
 have hx11:=Hd (fun W (BB:Below wx.heap.size wx W)=>ch_cells (hx11.out W (hb.out.trans (BB.mono hb.out.size))))
 have hOx:=Hd (fun W (BB:Below wx.heap.size wx W)=>hO.out W (lowx.out W BB))
 have hXx:=Hd (fun k (hk:k<xs.length)=>by
  obtain⟨b,o,he,h⟩:=hX.out k hk
  exact(⟨b,o,he,fun W BB=>h W (lowx.out W BB)⟩:∃b o,la=some ⟨b,o,none⟩/\ ∀W,Below wx.heap.size wx W->W.cell? ⟨b,o+k*6,none⟩=some (.int .i64 xs[k].a)/\W.cell? ⟨b,o+k*6+1,none⟩=some (.int .i64 xs[k].b)/\W.cell? ⟨b,o+k*6+2,none⟩=some (.int .i64 xs[k].c)/\W.cell? ⟨b,o+k*6+3,none⟩=some (.int .i64 xs[k].d)/\W.cell? ⟨b,o+k*6+4,none⟩=some (.int .i64 xs[k].e)/\W.cell? ⟨b,o+k*6+5,none⟩=some (.int .i64 xs[k].f)))
 have hfin:=Hd (fun W (BB:Below wx.heap.size wx W)=>(up0.out W (lowx.out W BB):Below w.heap.size w W))
 clear hV kfew hl7 hl16 hg16 hO hX low hrow hb hfF hB3 up0 g8 g11 B0 z0 hb0 lowx
 go_wp2_with fail
 go_loopw [51] (fun i wr=>∃(k:Nat),k<=2/\i= .int .i64 k/\Hid (Below wx.heap.size wx wr)) (fun i _=>2-(intOf i).toNat)
 case atStart=>exact⟨0,Nat.zero_le _,rfl,Below.refl _ _⟩
 case round =>
  obtain⟨k,hk,rfl,hb⟩:=hrel
  by_cases hlt:k<2
  rotate_left
  · have i1:¬(k:Int)<2:=by omega
    go_wp2_with fail
    go_ret
    exact⟨rfl,hfin.out _ hb.out⟩
  · have i0':(0:Int)<=(k:Int):=by omega
    have i1:(k:Int)<2:=by omega
    obtain⟨C,a1,a3,a5,e1,a2,e2,a4,e3,a6,hat,hF⟩:=hsel.out k hlt
    clear hsel hfin
    have hCC:=Hd (hat.out wr hb.out)
    obtain⟨u0,u1,u2⟩:=hCC.out.1
    obtain⟨v1,hv1⟩:∃W,W=wr.alloc (.cells #[.slice a1 e1 a2,.slice a3 e2 a4,.slice a5 e3 a6] 26):=⟨_,rfl⟩
    obtain⟨p18,hp18⟩:∃p,Hid (p=wr.heap.size):=⟨_,rfl⟩
    have hA1:=Hd (show Below wr.heap.size wr v1 by rw[hv1];exact(Below.refl _ _).alloc (Nat.le_refl _) _)
    have hx1:=Hd (show v1.heap[p18]?=some (.cells #[.slice a1 e1 a2,.slice a3 e2 a4,.slice a5 e3 a6] 26 (0,0))by rw[hv1,hp18.out];exact heap_alloc_new wr _)
    have hg1:=Hd (hCC.out.2.below hA1.out)
    have hB1:=Hd (hb.out.trans (hA1.out.mono hb.out.size))
    replace hv1:=Hd hv1
    go_upto_region 8 with(fail)
    rw[<-hv1.out,<-hp18.out]
    clear u0 u1 u2 hv1 hat hCC hA1
    obtain⟨t0,t1,t2,t3,t4,t5,t6,t7,t8,t9,tA,tB,tC⟩:=hx11.out v1 hB1.out
    go_wp2_with fail
    refine(kcut.out v1).mono ?_
    rintro e v2 ⟨rfl,b2⟩
    have b2:=Hd b2
    clear t0 t1 t2 t3 t4 t5 t6 t7 t8 t9 tA tB tC
    have hB2:=Hd (hB1.out.trans (b2.out.mono hB1.out.size))
    obtain⟨v3,hv3⟩:∃W,W=v2.alloc (.cells (chCells odd (.slice oa (min k1 82) oc) (.slice ob (min k2 5) od)) 33):=⟨_,rfl⟩
    have hA3:=Hd (show Below v2.heap.size v2 v3 by rw[hv3];exact(Below.refl _ _).alloc (Nat.le_refl _) _)
    obtain⟨B,hBd⟩:∃B,Hid (B=v2.heap.size):=⟨_,rfl⟩
    have hOw:=Hd (show OwnX wx v3 B (.slice (some ⟨B,0,none⟩) 1 1) [cutC odd]by rw[hv3,hBd.out];exact OwnX.one wx v2 (cutC odd) _ _ _ _ _ _ _ _ rfl rfl (fun W' BB=>hOx.out W' BB))
    have hzB:=Hd (show wx.heap.size<=B/\p18<B/\B<=v3.heap.size by
     have h1:=hB2.out.size
     have h2:=hA3.out.size
     have h3:=(Array.getElem?_eq_some_iff.1 hx1.out).1
     have h4:=b2.out.size
     rw[hBd.out];omega)
    have low:=Hd (fun W (BB:Below B v3 W)=>by
     have h:=hA3.out.trans (by rw[hBd.out]at BB;exact BB)
     exact(hB2.out.trans (h.mono hB2.out.size):Below wx.heap.size wx W))
    have lo1:=Hd (fun W (BB:Below B v3 W)=>by
     have h:=hA3.out.trans (by rw[hBd.out]at BB;exact BB)
     exact(b2.out.trans (h.mono b2.out.size):Below v1.heap.size v1 W))
    have h18:=Hd (fun W (BB:Below B v3 W)=>(((lo1.out W BB).block p18 (Array.getElem?_eq_some_iff.1 hx1.out).1).trans hx1.out:W.heap[p18]?=some (.cells #[.slice a1 e1 a2,.slice a3 e2 a4,.slice a5 e3 a6] 26 (0,0))))
    have hg18:=Hd (fun W (BB:Below B v3 W)=>hg1.out.below (lo1.out W BB))
    unfold chCells at hv3
    replace hv3:=Hd hv3
    clear b2 hB1 hx1 hg1 hA3 hB2
    unfold chCells
    go_upto_region 9 with(fail)
    rw[<-hv3.out,<-hBd.out]
    clear hv3 hBd hp18
    have kch:=Hd (fun W (h:GV W (.agg #[.slice a1 e1 a2,.slice a3 e2 a4,.slice a5 e3 a6]) C) x (hx:x.inB)=>ChangedO_any _ C x W h ⟨by have:=hF.out.1;omega,by have:=hF.out.2.1;omega,by have:=hF.out.2.2;omega⟩ hx)
    go_wp2_with fail
    go_loopw [19,20] (fun lv i wr=>∃(j:Nat) (va:Option Addr) (vn vd:Nat),lv= .slice va vn vd/\i= .int .i64 j/\j<=N/\j<=12/\Hid (OwnX wx wr B (.slice va vn vd) (cutC odd::(xs.take j).map (changedC C)))/\Hid (Below B v3 wr)) (fun _ i _=>12-(intOf i).toNat)
    case atStart=>exact⟨0,_,_,_,rfl,rfl,Nat.zero_le _,Nat.zero_le _,hOw,Below.refl _ _⟩
    case round =>
     obtain⟨j,va,vn,vd,rfl,rfl,hjN,hj12,hL,hb⟩:=hrel
     clear hOw
     have j0:(0:Int)<=(j:Int):=by omega
     by_cases hgo:j<N/\j<12
     · have hjl:j<xs.length:=by rw[<-hN.out];exact hgo.1
       obtain⟨xb,xo,rfl,hxc⟩:=hXx.out j hjl
       have hxB:=Hd (hxr.out xs[j] (List.getElem_mem hjl))
       have hsn:=Hd (show(cutC odd::(xs.take (j+1)).map (changedC C))=(cutC odd::(xs.take j).map (changedC C))++[changedC C xs[j]]by rw[List.take_succ_eq_append_getElem hjl];simp only[List.map_append,List.map_cons,List.map_nil,List.cons_append])
       have hLl:=Hd (show(cutC odd::(xs.take j).map (changedC C)).length<=100 by simp;omega)
       obtain⟨L,hLe⟩:∃L,Hid (L=(cutC odd::(xs.take j).map (changedC C))):=⟨_,rfl⟩
       obtain⟨x,hxe⟩:∃x,Hid (x=xs[j]):=⟨xs[j],Hd rfl⟩
       rw[<-hLe.out]at hL hsn hLl
       rw[<-hxe.out]at hxB hsn hxc
       have i1:(j:Int)<(N:Int):=by omega
       have i2:(j:Int)<12:=by omega
       have hT:=Hd (fun W (BB:Below B v3 W)=>And.intro (box3c (h18.out W BB)).1 (hxc W (low.out W BB)))
       clear hxc hLe hxe
       go_upto_region 12 with(fail)
       refine wp_region_F (fun W=>Below B v3 W) 999 (by kernel_rfl) hb.out.drew (fun hHeld=>?_)
       refine tkP 0 rfl ?_
       refine tkP 1 rfl ?_ (by(intro w h;obtain⟨⟨u0,u1,u2⟩,t0,t1,t2,t3,t4,t5⟩:=hT.out w h;clear h;go_simp)<;>with_reducible rfl)
       refine tkP 2 rfl ?_
       refine tkP 3 rfl ?_
       refine tkP 4 rfl ?_
       refine tkP 5 rfl ?_ (by(intro w h;obtain⟨⟨u0,u1,u2⟩,t0,t1,t2,t3,t4,t5⟩:=hT.out w h;clear h;go_simp)<;>with_reducible rfl)
       refine rdy [6] ?_
       refine arC rfl (fun K hK=>?_) AllReadyF.nil
       go_simp
       refine(kch.out _ (hg18.out _ hHeld) x hxB.out).mono ?_
       rintro e w5 ⟨r,rfl,hr,b5⟩
       obtain⟨y,y',rfl,o1,o2⟩:=hr
       obtain⟨y1,y2,rfl⟩:=o1.DL.shape
       obtain⟨y3,y4,rfl⟩:=o2.DL.shape
       have hb5:Below B v3 w5:=hHeld.trans (b5.mono (Nat.le_trans hzB.out.2.2 hb.out.size))
       have hL5:=Hd (show OwnX wx w5 B (.slice va vn vd) L from hL.out.below ((Below.refl _ wr).drew.trans b5))
       have hO5:=Hd (show OwnI w5 0 _ _/\OwnI w5 0 _ _ from⟨own_low o1 (Nat.zero_le _),own_low o2 (Nat.zero_le _)⟩)
       clear o1 o2 b5 hL
       go_wp2_with fail
       refine hK.out _ _ hb5 (fun hHeld=>?_)
       clear hK K
       try simp only[Act.put,zT,z0,zS]
       have hzw:B<=w5.heap.size:=Nat.le_trans hzB.out.2.2 hb5.size
       obtain⟨z1,z2,z3,w6,hr6,hL6,hb6⟩:=OwnX.snoc wx w5 B (.slice va vn vd) L (changedC C x) _ _ hL5.out hO5.out.1 hO5.out.2 (by have:=hLl.out;omega) hzw
       have hb7:Below B v3 w6:=hb5.trans hb6
       have hL7:=Hd (hsn.out▸hL6)
       have hb7h:=Hd hb7
       unfold chCells at hr6
       clear hb6 hL5 hL6 hO5
       refine rdy [7] ?_
       refine arC rfl (fun K hK=>?_) AllReadyF.nil
       unfold chCells
       go_simp
       go_wp2_with fail
       refine hK.out _ _ (hb5.alloc hzw _) (fun hHeld=>?_)
       clear hK K
       try simp only[Act.put,zT,z0,zS]
       refine rdy [8] ?_
       refine arC rfl (fun K hK=>?_) AllReadyF.nil
       refine wp_append_run (.tmp 68) (.tmp 75) 40 rfl _ _ rfl rfl _ _ hr6 ?_
       refine hK.out _ _ hb7 (fun hHeld=>?_)
       clear hK K hb7 hr6
       try simp only[Act.put,zT,z0,zS]
       refine tkP 9 rfl ?_
       refine wpAnyF_done (by kernel_rfl) ?_ _
       clear hHeld hT
       go_wp2_with fail
       go_roundw
       case rel=>exact⟨j+1,_,_,_,rfl,by go_num,by omega,by omega,hL7,hb7h⟩
       case measure=>simp[intOf];omega
     · have hlen:((xs.take j).map (changedC C)).length<=12:=by simp;omega
       obtain⟨xb,rfl,ve1,ve2,ve3⟩:=hL.out.vals (by simp)
       have qv:=Hd (show 1<=vn/\vn<=vd/\vn<=1000/\vd<=9223372036854775807 by rw[List.length_cons]at ve1;omega)
       have hzw:B<=wr.heap.size:=Nat.le_trans hzB.out.2.2 hb.out.size
       have toB:=Hd (show ∀W,Below wr.heap.size wr W->Below B v3 W from fun W BB=>hb.out.trans (BB.mono hzw))
       have qg:=Hd (fun W (BB:Below wr.heap.size wr W)=>And.intro (h18.out W (toB.out W BB)) (hg18.out W (toB.out W BB)))
       have qG:=Hd (fun W (BB:Below wr.heap.size wr W)=>And.intro (hq16.out W (low.out W (toB.out W BB))) (hG16.out W (low.out W (toB.out W BB))))
       have qL:=Hd (fun W (BB:Below wr.heap.size wr W)=>(hL.out.below BB).LC (low.out W (toB.out W BB)))
       have q51:=Hd (fun W (BB:Below wr.heap.size wr W)=>low.out W (toB.out W BB))
       have ql:=Hd (show(cutC odd::(xs.take j).map (changedC C)).length<=100/\(∀c∈(cutC odd::(xs.take j).map (changedC C)),c.ends.length<=1000/\c.deps.length<=1000)/\ ∀c∈(cutC odd::(xs.take j).map (changedC C)),chIn c from by
        refine⟨by rw[List.length_cons];omega,fun c hc=>?_,fun c hc=>?_⟩
        · rcases List.mem_cons.1 hc with rfl|hc
          · exact hcl.out
          · obtain⟨x,_,rfl⟩:=List.mem_map.1 hc
            have h:=changed_len C x (by have:=hF.out.1;omega)
            omega
        · rcases List.mem_cons.1 hc with rfl|hc
          · exact hci.out
          · obtain⟨x,_,rfl⟩:=List.mem_map.1 hc
            exact changed_in C x)
       clear hzw toB ve1 ve2 ve3 hlen h18 hg18
       by_cases h1:j<N
       · have i1:(j:Int)<(N:Int):=by omega
         have i2:¬(j:Int)<12:=by omega
         clear h1 hgo
         rename_i K0 hK0
         replace hK0:=Hd hK0
         clear kch hxr hXx hcl hci
         go_wp2_with fail
         refine hK0.out _ _ ?_
         refine wp_eq (D:=tl3 3) (by kernel_rfl) (wp_Qn ?_)
         refine gmr1 _ _ _ _ _ _ _ _ _ _ _ _ _ _ _ _ _ _ _ _ _ _ _ _ _ _ _ _ _ _ _ _ _ _ _ _ _ _ _ _ _ _ _ _ _ _ _ _ _ _ _ _ _ _ _ _ _ _ _ _ _ _ _ _ _ _ _ _ _ _ _ _ _ _ _ _ _ _ _ _ _ _ _ _ _ _ _ _ _ _ _ _ _ _ _ _ _ _ _ _ _ _ _ _ _ _ _ _ _ _ _ _ _ _ _ _ _ _ _ _ _ _ _ _ _ _ _ _ _ _ _ _ _ _ _ _ _ _ _ _ _ _ _ _ _ _ _ _ _ _ _ _ _ _ _ _ _ _ _ _ _ _ _ _ _ _ _ _ _ _ _ _ _ _ _ _ _ _ _ _ _ _ _ _ _ _ _ _ _ _ _ _ _ _ _ _ _ _ _ _ _ _ _ _ _ _ _ _ _ _ _ _ _ _ _ _ _ _ _ _ _ _ _ _ _ _ _ _ wr id p16 p18 xb 0 vn vd C G (cutC odd) ((xs.take j).map (changedC C)) a1 a3 a5 e1 a2 e2 a4 e3 a6 g1 g3 g5 m1 g2 m2 g4 m3 g6 hid hF hfG qg qG qL ql qv (fun _ _ _ _ _ _ _ _ _ _ _ _ _ _ _ _ _ _ _ _ _ _ _ _ _ _ _ _ _ _ _ _ _ _ _ _ _ _ _ _ _ _ _ _ _ _ _ _ _ _ _ _ _ _ _ _ _ _ _ _ _ _ _ _ _ _ _ _ _ _ _ _ _ _ _ _ _ _ _ _ _ _ _ _ _ _ _ _ _ _ _ _ _ _ _ _ _ _ _ _ _ _ _ _ _ _ _ _ _ _ _ _ _ _ _ _ _ _ _ _ _ _ _ _ _ _ _ _ _ _ _ _ _ _ _ _ _ _ _ _ _ _ _ _ _ _ _ _ _ _ _ _ _ _ _ _ _ _ _ _ _ _ _ _ _ _ _ _ _ _ W BB=>?_)
         have hend:=Hd (q51.out W BB)
         show Exit.inBlock _ _ _ _ _
         dsimp only[Exit.inBlock,Exit.then]
         clear qg qG qL ql qv q51 hK0 BB hL hb
         go_wp2_with fail
         go_roundw
         case rel=>exact⟨k+1,by omega,by go_num,hend⟩
         case measure=>simp[intOf];omega
       · have i1:¬(j:Int)<(N:Int):=by omega
         clear h1 hgo
         rename_i K0 hK0
         replace hK0:=Hd hK0
         clear kch hxr hXx hcl hci
         go_wp2_with fail
         refine hK0.out _ _ ?_
         refine wp_eq (D:=tl3 3) (by kernel_rfl) (wp_Qn ?_)
         refine gmr1 _ _ _ _ _ _ _ _ _ _ _ _ _ _ _ _ _ _ _ _ _ _ _ _ _ _ _ _ _ _ _ _ _ _ _ _ _ _ _ _ _ _ _ _ _ _ _ _ _ _ _ _ _ _ _ _ _ _ _ _ _ _ _ _ _ _ _ _ _ _ _ _ _ _ _ _ _ _ _ _ _ _ _ _ _ _ _ _ _ _ _ _ _ _ _ _ _ _ _ _ _ _ _ _ _ _ _ _ _ _ _ _ _ _ _ _ _ _ _ _ _ _ _ _ _ _ _ _ _ _ _ _ _ _ _ _ _ _ _ _ _ _ _ _ _ _ _ _ _ _ _ _ _ _ _ _ _ _ _ _ _ _ _ _ _ _ _ _ _ _ _ _ _ _ _ _ _ _ _ _ _ _ _ _ _ _ _ _ _ _ _ _ _ _ _ _ _ _ _ _ _ _ _ _ _ _ _ _ _ _ _ _ _ _ _ _ _ _ _ _ _ _ _ _ _ _ _ _ wr id p16 p18 xb 0 vn vd C G (cutC odd) ((xs.take j).map (changedC C)) a1 a3 a5 e1 a2 e2 a4 e3 a6 g1 g3 g5 m1 g2 m2 g4 m3 g6 hid hF hfG qg qG qL ql qv (fun _ _ _ _ _ _ _ _ _ _ _ _ _ _ _ _ _ _ _ _ _ _ _ _ _ _ _ _ _ _ _ _ _ _ _ _ _ _ _ _ _ _ _ _ _ _ _ _ _ _ _ _ _ _ _ _ _ _ _ _ _ _ _ _ _ _ _ _ _ _ _ _ _ _ _ _ _ _ _ _ _ _ _ _ _ _ _ _ _ _ _ _ _ _ _ _ _ _ _ _ _ _ _ _ _ _ _ _ _ _ _ _ _ _ _ _ _ _ _ _ _ _ _ _ _ _ _ _ _ _ _ _ _ _ _ _ _ _ _ _ _ _ _ _ _ _ _ _ _ _ _ _ _ _ _ _ _ _ _ _ _ _ _ _ _ _ _ _ _ _ W BB=>?_)
         have hend:=Hd (q51.out W BB)
         show Exit.inBlock _ _ _ _ _
         dsimp only[Exit.inBlock,Exit.then]
         clear qg qG qL ql qv q51 hK0 BB hL hb
         go_wp2_with fail
         go_roundw
         case rel=>exact⟨k+1,by omega,by go_num,hend⟩
         case measure=>simp[intOf];omega
end Go.Proofs.YtlaldnlgapeckaaGreat
namespace Go.Proofs.YtlaldnlgapeckaaGreat.pGraphMatchesReference
open Go.ChangeShapes Go.WideShapes Go.ChangeAt Go.RowKit
open Go.ChangeMaps (open_string)
set_option linter.unusedVariables false
set_option maxRecDepth 100000 in
theorem contract(H:Type)(enc:TypeId × Value->H)(W:World)(base:Nat)(args:Array Value)(ds gs:List (DataW H))(before:List MemPlace)
    (hval:∀(j:Nat) t v,Tryz.f3.params[j]?=some t->args[j]?=some v->Value.okWide Tryz.prog W .any base t v)
    (hW:DataW.Whole enc Tryz.prog Tryz.f3.params.toList Rows.graphMatchesReferenceSpec.vars false W args.toList ds gs before) :
    Calls Tryz.prog 3 args W fun e W'=>∃v,e= .returned v/\Rows.graphMatchesReferenceSpec.post enc Tryz.prog Tryz.f3 false true false false W args v W':=by
  have hW':=hW
  obtain⟨p,q,hA0,hV,rfl,hfz,hnd⟩:=hW
  have hA:DataW.TrodAll enc Tryz.prog W 0 (fun _=>true) true Tryz.f3.params.toList args.toList ds p:=hA0
  rw[Tryz.params3]at hA hval
  obtain⟨v0,vs0,d0,ds0,p0,q0,hargs,rfl,rfl,h0,r0⟩:=trodAll_cons hA
  obtain⟨v1,vs1,d1,ds1,p1,q1,rfl,rfl,rfl,h1,r1⟩:=trodAll_cons r0
  obtain⟨v2,vs2,d2,ds2,p2,q2,rfl,rfl,rfl,h2,r2⟩:=trodAll_cons r1
  obtain⟨v3,vs3,d3,ds3,p3,q3,rfl,rfl,rfl,h3,r3⟩:=trodAll_cons r2
  obtain⟨v4,vs4,d4,ds4,p4,q4,rfl,rfl,rfl,h4,r4⟩:=trodAll_cons r3
  obtain⟨v5,vs5,d5,ds5,p5,q5,rfl,rfl,rfl,h5,r5⟩:=trodAll_cons r4
  obtain⟨v6,vs6,d6,ds6,p6,q6,rfl,rfl,rfl,h6,r6⟩:=trodAll_cons r5
  obtain⟨rfl,rfl,rfl⟩:=trodAll_nil r6
  obtain rfl:args= #[v0,v1,v2,v3,v4,v5,v6]:=by cases args;simp_all
  obtain⟨rfl,rfl⟩:=trodVars_none hV
  have k0:=h0
  have lt0:∀x∈p0,x.block<W.heap.size:=by obtain⟨m,hm⟩:=k0;exact DataW.trod_lt m _ _ _ hm
  have k1:=h1
  have lt1:∀x∈p1,x.block<W.heap.size:=by obtain⟨m,hm⟩:=k1;exact DataW.trod_lt m _ _ _ hm
  have k2:=h2
  have lt2:∀x∈p2,x.block<W.heap.size:=by obtain⟨m,hm⟩:=k2;exact DataW.trod_lt m _ _ _ hm
  have k3:=h3
  have lt3:∀x∈p3,x.block<W.heap.size:=by obtain⟨m,hm⟩:=k3;exact DataW.trod_lt m _ _ _ hm
  have k4:=h4
  have lt4:∀x∈p4,x.block<W.heap.size:=by obtain⟨m,hm⟩:=k4;exact DataW.trod_lt m _ _ _ hm
  have k5:=h5
  have lt5:∀x∈p5,x.block<W.heap.size:=by obtain⟨m,hm⟩:=k5;exact DataW.trod_lt m _ _ _ hm
  have k6:=h6
  have lt6:∀x∈p6,x.block<W.heap.size:=by obtain⟨m,hm⟩:=k6;exact DataW.trod_lt m _ _ _ hm
  obtain⟨gr0,ra0,rb0,rc0,na0,ca0,nb0,cb0,nc0,cc0,rfl,gv0,ge0,gd0,gn0,gc0,gb0⟩:=open_graph (hval 0 26 v0 rfl rfl) h0
  obtain⟨x1,rfl,rfl,rfl,wf1⟩:=open_int Tryz.underlying3 (hval 1 3 v1 rfl rfl) h1
  have bd1:=bounds_i64 wf1
  obtain⟨l2,bd2⟩:=open_arg5 (hval 2 27 v2 rfl rfl) h2
  obtain⟨x3,rfl,rfl,rfl⟩:=open_bool Tryz.underlying4 (hval 3 4 v3 rfl rfl) h3
  obtain⟨ch4,oa4,ob4,ka4,oc4,kb4,od4,rfl,cd4,cf4,cn4,cp4,ci4⟩:=open_change (hval 4 33 v4 rfl rfl) h4
  obtain⟨l5,bd5⟩:=open_arg6 (hval 5 34 v5 rfl rfl) h5
  obtain⟨x6,rfl,rfl,rfl,wf6⟩:=open_int Tryz.underlying3 (hval 6 3 v6 rfl rfl) h6
  have bd6:=bounds_i64 wf6
  clear hA0
  simp only[List.append_nil]at hW'
  refine(MatchM_any x1 v2 l2 x3 v5 l5 x6 gr0 ch4 ra0 rb0 rc0 oa4 ob4 na0 ca0 nb0 cb0 nc0 cc0 ka4 oc4 kb4 od4 W bd2.1 bd1 bd2.2.1 bd2.2.2 bd5.1 bd5.2.1 bd5.2.2 bd6 gv0 ge0 gd0 gn0 gc0 gb0 cd4 cf4 cn4 cp4 (chN_in ci4 cn4 cp4)).mono fun e W' ⟨he,bel⟩=>?_
  subst he
  exact⟨_,rfl,_,_,_,[],_,[],hW',trodAll_mk1 (shut_bool Tryz.underlying4 _),(trodAll_cons_mk (Below.trod laidOut (by kernel_rfl) (of_decide_eq_true (by kernel_rfl)) k0 bel lt0) (trodAll_cons_mk (Below.trod laidOut (by kernel_rfl) (of_decide_eq_true (by kernel_rfl)) k1 bel lt1) (trodAll_cons_mk (Below.trod laidOut (by kernel_rfl) (of_decide_eq_true (by kernel_rfl)) k2 bel lt2) (trodAll_cons_mk (Below.trod laidOut (by kernel_rfl) (of_decide_eq_true (by kernel_rfl)) k3 bel lt3) (trodAll_cons_mk (Below.trod laidOut (by kernel_rfl) (of_decide_eq_true (by kernel_rfl)) k4 bel lt4) (trodAll_cons_mk (Below.trod laidOut (by kernel_rfl) (of_decide_eq_true (by kernel_rfl)) k5 bel lt5) (trodAll_cons_mk (Below.trod laidOut (by kernel_rfl) (of_decide_eq_true (by kernel_rfl)) k6 bel lt6) trodAll_mk0))))))),rfl,bel.frame _,fun h=>by cases h⟩
theorem laid_met(os:Os):laidMet Tryz.prog Rows.graphMatchesReferenceRow.laid ((laidWorld os).forCall (fun _ _=>0) ⟨#[],#[.agg #[.slice none 0 0,.slice none 0 0,.slice none 0 0],.int .i64 0,.slice none 0 0,.bool false,.agg #[.int .i64 0,.int .i64 0,.int .i64 0,.int .i64 0,.int .i64 0,.int .i64 0,.bool false,.int .i64 0,.int .i64 0,.int .i64 0,.int .i64 0,.slice none 0 0,.slice none 0 0],.slice none 0 0,.int .i64 0],[]⟩).memory :=
  laidMet_of_run' 8 (by kernel_rfl) (by kernel_rfl)
theorem reads(os:Os){H:Type}(enc:TypeId × Value->H):∃places,DataW.whole enc Tryz.prog ((laidWorld os).forCall (fun _ _=>0) ⟨#[],#[.agg #[.slice none 0 0,.slice none 0 0,.slice none 0 0],.int .i64 0,.slice none 0 0,.bool false,.agg #[.int .i64 0,.int .i64 0,.int .i64 0,.int .i64 0,.int .i64 0,.int .i64 0,.bool false,.int .i64 0,.int .i64 0,.int .i64 0,.int .i64 0,.slice none 0 0,.slice none 0 0],.slice none 0 0,.int .i64 0],[]⟩).memory Tryz.f3.params.toList Rows.graphMatchesReferenceSpec.vars false (#[.agg #[.slice none 0 0,.slice none 0 0,.slice none 0 0],.int .i64 0,.slice none 0 0,.bool false,.agg #[.int .i64 0,.int .i64 0,.int .i64 0,.int .i64 0,.int .i64 0,.int .i64 0,.bool false,.int .i64 0,.int .i64 0,.int .i64 0,.int .i64 0,.slice none 0 0,.slice none 0 0],.slice none 0 0,.int .i64 0]:Array Value).toList 8=some ([.agg [.nil,.nil,.nil],.lit (.int .i64 0),.nil,.lit (.bool false),.agg [.lit (.int .i64 0),.agg [.lit (.int .i64 0),.lit (.int .i64 0)],.agg [.lit (.int .i64 0),.lit (.int .i64 0),.lit (.int .i64 0),.lit (.bool false),.lit (.int .i64 0),.lit (.int .i64 0)],.lit (.int .i64 0),.lit (.int .i64 0),.nil,.nil],.nil,.lit (.int .i64 0)],[],places) :=
  ⟨[],by kernel_rfl⟩
set_option maxRecDepth 100000 in
theorem lifted(os:Os)(started:os.Started)(H:Type)(enc:TypeId × Value->H)(F:Stop.Interp):
    ReturnsInHanded {} Tryz.checked os 3 .any ((OpenSpec.ofChange Rows.graphMatchesReferenceSpec).preRow enc Tryz.prog Tryz.f3 Rows.graphMatchesReferenceRow.domain false Rows.graphMatchesReferenceRow.laid) (((OpenSpec.ofChange Rows.graphMatchesReferenceSpec).at F).post enc Tryz.prog Tryz.f3 false true false false):=by
  obtain⟨places,hx⟩:=reads os enc
  refine returnsInHanded_of_row (C:=Tryz.checked) (s:=OpenSpec.ofChange Rows.graphMatchesReferenceSpec) own started (by kernel_rfl) Tryz.func3
    (witness_row_at (enc:=enc) (C:=Tryz.checked) false (laidWorld os) #[.agg #[.slice none 0 0,.slice none 0 0,.slice none 0 0],.int .i64 0,.slice none 0 0,.bool false,.agg #[.int .i64 0,.int .i64 0,.int .i64 0,.int .i64 0,.int .i64 0,.int .i64 0,.bool false,.int .i64 0,.int .i64 0,.int .i64 0,.int .i64 0,.slice none 0 0,.slice none 0 0],.slice none 0 0,.int .i64 0] rfl (by kernel_rfl) (by kernel_rfl) (by kernel_rfl)
      (OpenSpec.preRow_of_cond 8 hx (by kernel_rfl) (fun k hk=>by cases hk) (by kernel_rfl) (laid_met os))) ?_
  intro W base args ds gs before hval hW _ _ _ hL _ _
  exact contract H enc W base args ds gs before hval hW
theorem said:Rows.GraphMatchesReferenceSaid :=
  OpenClaim.holds_of_cond 3 Tryz.f3 rfl rfl rfl rfl rfl rfl rfl ⟨rfl,rfl,rfl,rfl,rfl⟩ rfl rfl rfl rfl rfl (by kernel_rfl) Tryz.func3 (by kernel_rfl)
    (of_decide_eq_true (by kernel_rfl)) (by unfold Func.isWrapper;first|(rw[if_pos (by decide +kernel)];kernel_rfl)|(rw[if_neg (by decide +kernel)];exact⟨rfl,rfl⟩))
    (fun os started H enc _ F=>by rw[OpenClaim.pre_eq_preRow];exact lifted os started H enc F)
end Go.Proofs.YtlaldnlgapeckaaGreat.pGraphMatchesReference
