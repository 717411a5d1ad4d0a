/- Facts. -/
import Derived.Test.YtlaldnlgapeckaaGreatVYMw
set_option linter.unusedSimpArgs false
set_option maxRecDepth 100000
set_option maxHeartbeats 4000000
namespace Go.Proofs.YtlaldnlgapeckaaGreat
open Go.RowKit
def F6.cells(x:F6):Array Value:= #[.int .i64 x.a,.int .i64 x.b,.int .i64 x.c,.int .i64 x.d,.int .i64 x.e,.int .i64 x.f]
def F6.inB(x:F6):Prop:=i64B x.a/\i64B x.b/\i64B x.c/\i64B x.d/\i64B x.e/\i64B x.f
structure ChS(w0:World)(b:Nat)(va vb vc:Value)(x:F6)(c0:Array Value)(W:World):Prop where
 gbox:W.heap[b]?=some (.cells #[va,vb,vc] 26 (0,0))
 xbox:W.heap[b+1]?=some (.cells x.cells 42 (0,0))
 res:W.heap[b+2]?=some (.cells (chCells zC (.slice none 0 0) (.slice none 0 0)) 33 (0,0))
 cbox:W.heap[b+3]?=some (.cells c0 33 (0,0))
 below:Below b w0 W
 sz:b+4<=W.heap.size
theorem ChS.to{w0 W W':World}{b:Nat}{va vb vc:Value}{x:F6}{c0:Array Value}(h:ChS w0 b va vb vc x c0 W)(B:Below W.heap.size W W'):ChS w0 b va vb vc x c0 W':=by
 have hs:=h.sz;exact⟨(B.block _ (by omega)).trans h.gbox,(B.block _ (by omega)).trans h.xbox,(B.block _ (by omega)).trans h.res,(B.block _ (by omega)).trans h.cbox,h.below.trans (B.mono (by omega)),Nat.le_trans hs B.size⟩
theorem ChS.drew{w0 W:World}{b:Nat}{va vb vc:Value}{x:F6}{c0:Array Value}(h:ChS w0 b va vb vc x c0 W):ChS w0 b va vb vc x c0 W.drew:=h.to (Below.refl _ _).drew
theorem ChS.set{w0 W:World}{b:Nat}{va vb vc:Value}{x:F6}{c0:Array Value}(h:ChS w0 b va vb vc x c0 W)(i:Nat)(u:Value):ChS w0 b va vb vc x (c0.setIfInBounds i u) (W.setCell ⟨b+3,i,none⟩ u):=by
 have o:=fun k (hk:k≠b+3)=>heap_setCell_other W ⟨b+3,i,none⟩ k u hk;exact⟨(o _ (by omega)).trans h.gbox,(o _ (by omega)).trans h.xbox,(o _ (by omega)).trans h.res,heap_setCell_same W (b+3) i _ 33 u h.cbox,h.below.setCell (by simp) _,by simpa using h.sz⟩
theorem ChS.g{w0 W:World}{b:Nat}{va vb vc:Value}{x:F6}{c0:Array Value}(h:ChS w0 b va vb vc x c0 W):W.cell? ⟨b,0,none⟩=some va/\W.cell? ⟨b,1,none⟩=some vb/\W.cell? ⟨b,2,none⟩=some vc :=
 ⟨by rw[cell_of_row _ _ _ _ _ _ h.gbox];rfl,by rw[cell_of_row _ _ _ _ _ _ h.gbox];rfl,by rw[cell_of_row _ _ _ _ _ _ h.gbox];rfl⟩
theorem ChS.xs{w0 W:World}{b:Nat}{va vb vc:Value}{x:F6}{c0:Array Value}(h:ChS w0 b va vb vc x c0 W):W.cell? ⟨b+1,0,none⟩=some (.int .i64 x.a)/\W.cell? ⟨b+1,1,none⟩=some (.int .i64 x.b)/\W.cell? ⟨b+1,2,none⟩=some (.int .i64 x.c)/\W.cell? ⟨b+1,3,none⟩=some (.int .i64 x.d)/\W.cell? ⟨b+1,4,none⟩=some (.int .i64 x.e)/\W.cell? ⟨b+1,5,none⟩=some (.int .i64 x.f):=by
 refine⟨?_,?_,?_,?_,?_,?_⟩<;>(rw[cell_of_row _ _ _ _ _ _ h.xbox];rfl)
theorem al4(w:World)(o1 o2 o3 o4:Obj):let W:=(((w.alloc o1).alloc o2).alloc o3).alloc o4
  W.heap[w.heap.size]?=some o1/\W.heap[w.heap.size+1]?=some o2/\W.heap[w.heap.size+2]?=some o3/\W.heap[w.heap.size+3]?=some o4/\Below w.heap.size w W/\W.heap.size=w.heap.size+4:=by
 intro W;refine⟨al_keep1 (al_keep1 (al_keep1 (heap_alloc_new w o1))),?_,?_,?_,((((Below.refl _ w).alloc (Nat.le_refl _) _).alloc (by simp) _).alloc (by simp;omega) _).alloc (by simp;omega) _,by simp[W]⟩
 ·have:=heap_alloc_new (w.alloc o1) o2;simp only[World.size_alloc]at this;exact al_keep1 (al_keep1 this)
 ·have:=heap_alloc_new ((w.alloc o1).alloc o2) o3;simp only[World.size_alloc]at this;exact al_keep1 this
 ·have:=heap_alloc_new (((w.alloc o1).alloc o2).alloc o3) o4;simp only[World.size_alloc]at this;exact this
theorem size33'(c:Ch)(a b:Value):(Tryz.prog.info? 33).map (·.size)=some (chCells c a b).size:=by kernel_rfl
theorem plI_ge(ks:List Int)(x:Int):(0<=plI ks x)↔x∈ks:=by
 have h:=plI_neg ks x;constructor
 ·intro h0;exact Classical.byContradiction fun hn=>by have:=h.2 hn;omega
 ·intro hm;exact Classical.byContradiction fun hn=>(h.1 (by omega)) hm
def FreeI(ks:List Int)(m:Nat)(T:Int)(k:Nat):Prop:=k<m/\(ks.length<m-> ∃t:Nat,T=t/\t<m/\(t:Int)∉ks/\ComesF ks m t k)/\(¬ks.length<m->T=k)
theorem FreeI.start(ks:List Int)(m:Nat)(x:Int)(h0:0<=x)(h1:x<m):FreeI ks m (freeF ks m x) x.toNat:=by
 refine⟨by omega,fun h=>?_,fun h=>?_⟩
 ·have hf:=freeF_new ks m x h0 h1 h;unfold freeF at hf ⊢;rw[if_pos h]at hf ⊢;exact⟨_,rfl,next_lt ks m m _ (by omega),hf,by omega,m,rfl⟩
 ·unfold freeF;rw[if_neg h];omega
theorem FreeI.step{ks:List Int}{m:Nat}{T:Int}{k:Nat}(h:FreeI ks m T k)(hk:(k:Int)∈ks)(hl:ks.length<m):FreeI ks m T ((k+1)%m)/\(T.toNat+m-(k+1)%m)%m<(T.toNat+m-k)%m:=by
 obtain⟨t,rfl,h1,h2,h3⟩:=h.2.1 hl;obtain⟨h4,h5⟩:=h3.step h2 hk h1;exact⟨⟨h4.1,fun _=>⟨t,rfl,h1,h2,h4⟩,fun h=>absurd hl h⟩,h5⟩
theorem FreeI.stop{ks:List Int}{m:Nat}{T:Int}{k:Nat}(h:FreeI ks m T k)(hk:¬((k:Int)∈ks/\ks.length<m)):T=k:=by
 by_cases hl:ks.length<m
 ·obtain⟨t,rfl,h1,h2,h3⟩:=h.2.1 hl;rw[h3.there (fun e=>hk ⟨e,hl⟩)]
 ·exact h.2.2 hl
theorem tdivB1{n:Int}(h:i64B n)(m:Int)(hm:1<=m): -9223372036854775808<=n.tdiv m/\n.tdiv m<=9223372036854775807\/m=1:=by
 by_cases h2:m=1
 ·exact .inr h2
 ·have:=tdivB h m (by omega);exact .inl (by omega)
theorem tdivB0{n:Int}(h:i64B n)(m:Int)(hm:1<=m): -9223372036854775808<=n.tdiv m/\n.tdiv m<=9223372036854775807:=by
 rcases tdivB1 h m hm with h1|rfl
 ·exact h1
 ·rw[Int.tdiv_one];exact h
theorem ChS.add{w0 W:World}{b:Nat}{va vb vc:Value}{x:F6}{c0:Array Value}(h:ChS w0 b va vb vc x c0 W)(i:Nat)(v:Value)(l:List Int)(ho:OwnI W (b+4) v l)(u:Int)(hl:l.length<=1000):
  ∃z1 z2 z3 w',(Builtin.append_ #[24,24] 24 #[v,.slice (some ⟨W.heap.size,0,none⟩) 1 1]).run Tryz.prog (W.alloc (.cells #[.int .i64 u] 3))= .ok (.slice z1 z2 z3) w'/\ChS w0 b va vb vc x c0 w'/\ChS w0 b va vb vc x (c0.setIfInBounds i (.slice z1 z2 z3)) (w'.setCell ⟨b+3,i,none⟩ (.slice z1 z2 z3))/\OwnI (w'.setCell ⟨b+3,i,none⟩ (.slice z1 z2 z3)) (b+4) (.slice z1 z2 z3) (l++[u])/\ ∀j,j<W.heap.size->v.ownBlock≠some j->w'.heap[j]?=W.heap[j]?:=by
 obtain⟨i0,hi,hz0,hz1,hz2⟩:=info_parts info3;obtain⟨gg,cap,w',hr,ho2,hg⟩:=snocX (b+4) 24 3 i0 _ 1 8 Tryz.underlying24 hi hz0 hz1 hz2 rfl (by omega) (by omega) W v l.length (cI l) #[.int .i64 u] rfl (by simp[Value.oneCell']) ho (by omega) h.sz;have hs:=h.sz;have kp:=fun j (hj:j<W.heap.size) (hb:j<b+4)=>grown_keep hg ho j hj (fun q=>absurd q (by omega));have hown:OwnI w' (b+4) (.slice (some ⟨gg,0,none⟩) (l.length+1) cap) (l++[u]):=by
  unfold OwnI;rw[List.length_append,cI,List.map_append];simpa[cI]using ho2
 have h2:ChS w0 b va vb vc x c0 w':=⟨(kp b (by omega) (by omega)).trans h.gbox,(kp _ (by omega) (by omega)).trans h.xbox,(kp _ (by omega) (by omega)).trans h.res,(kp _ (by omega) (by omega)).trans h.cbox,(h.below.alloc (by omega) _).grown hg (by simp;omega) (fun j hj=>by have:=(own_row ho j hj).1;omega),Nat.le_trans hs (grown_size hg)⟩;refine⟨_,_,_,w',hr,h2,h2.set i _,?_,fun j h1 h2=>(hg.block j (by simp;omega) (fun q=>h2 q.symm)).trans (Below.heap_alloc _ _ _ h1)⟩;exact ownsRow_setCell_other hown (fun e2=>by have:=(own_row hown (b+3) e2).1;omega) _
def chK(g:Gr)(x:F6)(k:Int):Ch :=
 if k=1 then{zC with kind:=1,v:=⟨chFree g x,pk x.e 4⟩}
 else if k=3 then{zC with kind:=3,e:=⟨chSpare g x,chId g x,chOther g x,pk x.d 2==1,pk x.d 12-3,pk x.f 6⟩}
 else if k=2 then{zC with kind:=2,id:=chId g x}
 else if k=4 then{zC with kind:=4,id:=chEdge g x}
 else if k=5 then{zC with kind:=5,id:=chEdge g x,n:=pk x.d 12-3}
 else if k=6 then{zC with kind:=6,id:=chEdge g x,n:=pk x.d 6}
 else if k=7 then{zC with kind:=7,id:=chId g x,n:=chOther g x}
 else if k=8 then{zC with kind:=8,id:=chId g x,v:=⟨chFree g x,pk x.e 4⟩,ends:=chEnds g.es (chId g x) x.e 80}
 else if k=9 then{zC with kind:=9,id:=chId g x,n:=pk x.d 4}
 else{zC with kind:=10,deps:=chDeps (keysV g.vs) x.d (chDepN (keysV g.vs) x.d g.vs.length 0)}
theorem ChS.fin{w0 W:World}{b:Nat}{va vb vc:Value}{x:F6}{c0:Array Value}(h:ChS w0 b va vb vc x c0 W)(hb:b=w0.heap.size)(cs:Array Value):Below w0.heap.size w0 (W.setRow (b+2) cs) :=
 (below_row (b:=b+2) h.below (by omega) cs).mono (by omega)
theorem one33(c:Ch)(a1 a2:Option Addr)(m1 n1 m2 n2:Nat):(chCells c (.slice a1 m1 n1) (.slice a2 m2 n2)).all (·.oneCell')=true:=by simp[chCells,Value.oneCell']
theorem key_at(l:List Vx)(p:Nat)(h:p<l.length):(keysV l).getD p 0=l[p].id:=by simp[keysV,List.getD_eq_getElem?_getD,List.getElem?_eq_getElem h]
theorem keyE_at(l:List Ed)(p:Nat)(h:p<l.length):(keysE l).getD p 0=l[p].id:=by simp[keysE,List.getD_eq_getElem?_getD,List.getElem?_eq_getElem h]
def CVO(W:World)(B:Nat)(r:Value)(c:Ch):Prop:=∃a b,r= .agg (chCells c a b)/\OwnI W B a c.ends/\OwnI W B b c.deps
theorem ownI_nil(W:World)(B:Nat):OwnI W B (.slice none 0 0) []:=⟨rfl,.inl ⟨rfl,rfl⟩⟩
theorem CVO.CV{W:World}{B:Nat}{r:Value}{c:Ch}(h:CVO W B r c):CV W r c:=by
 obtain⟨a,b,e,h1,h2⟩:=h;exact⟨a,b,e,h1.DL,h2.DL⟩
theorem ChangedO_any(v:Value)(g:Gr)(x:F6)(w:World)(hv:GV w v g)(hn:g.vs.length<=1000000/\g.es.length<=1000000/\g.ds.length<=1000000)(hx:x.inB):
  Calls Tryz.prog 14 #[v,.agg x.cells] w fun e w'=>∃r,e= .returned r/\CVO w' w.heap.size r (changedC g x)/\Below w.heap.size w w':=by
 obtain⟨va,vb,vc,rfl,hva,hvb,hvc⟩:=hv;obtain⟨hx0,hx1,hx2,hx3,hx4,hx5⟩:=hx;have pa:=Hd (fun W=>pickR_any x.a 10 W hx0.1 hx0.2 (by omega) (by omega));have pb24:=Hd (fun W=>pickR_any x.b 24 W hx1.1 hx1.2 (by omega) (by omega));have pc24:=Hd (fun W=>pickR_any x.c 24 W hx2.1 hx2.2 (by omega) (by omega));have pb40:=Hd (fun W=>pickR_any x.b 40 W hx1.1 hx1.2 (by omega) (by omega));have pf8:=Hd (fun W=>pickR_any x.f 8 W hx5.1 hx5.2 (by omega) (by omega));have pd24:=Hd (fun W=>pickR_any x.d 24 W hx3.1 hx3.2 (by omega) (by omega));have pe40:=Hd (fun W=>pickR_any x.e 40 W hx4.1 hx4.2 (by omega) (by omega));obtain⟨b,hb⟩:∃b,b=w.heap.size:=⟨_,rfl⟩;obtain⟨K,hK⟩:∃K,Hid (K=1+pk x.a 10):=⟨_,rfl⟩;have hK1:1<=K/\K<=10:=by have:=pk_lo x.a 10 (by omega);have:=pk_lt x.a 10 (by omega);rw[hK.out];omega
 have hKw:IntKind.i64.wrap (1+pk x.a 10)=K:=by rw[<-hK.out];exact IntWalk.i64_in _ (by omega)
 have hKw2:1+pk x.a 10=K:=hK.out.symm;obtain⟨c0,hc0⟩:∃c0,Hid (c0=chCells ⟨K,⟨0,0⟩,⟨0,0,0,false,0,0⟩,0,0,[],[]⟩ (.slice none 0 0) (.slice none 0 0)):=⟨_,rfl⟩;obtain⟨wA,hwA⟩:∃wA,wA=(((w.alloc (.cells #[va,vb,vc] 26)).alloc (.cells x.cells 42)).alloc (.cells (chCells zC (.slice none 0 0) (.slice none 0 0)) 33)).alloc (.cells c0 33):=⟨_,rfl⟩;have hA0:ChS w b va vb vc x c0 wA:=by
  obtain⟨m1,m2,m3,m4,m5,m6⟩:=al4 w (.cells #[va,vb,vc] 26) (.cells x.cells 42) (.cells (chCells zC (.slice none 0 0) (.slice none 0 0)) 33) (.cells c0 33);rw[hwA,hb];exact⟨m1,m2,m3,m4,m5,by omega⟩
 have hS:=Hd hA0;have hGV:=Hd (show ∀W,Below b w W->GV W (.agg #[va,vb,vc]) g from fun W B=>(show GV w (.agg #[va,vb,vc]) g from⟨va,vb,vc,rfl,hva,hvb,hvc⟩).below (by rw[<-hb];exact B));have hvb0:=Hd (show ∀g',va.ownBlock=some g'->g.vs≠[]->g'<b from fun g' e hne=>by
  obtain⟨b',o',c',he,_,h2,_⟩:=hva.own hne;rw[he]at e;simp[Value.ownBlock]at e;rw[<-e,hb];exact h2)
 have hVV:=Hd (show ∀W,Below b w W->VL W va g.vs from fun W B=>hva.below (by rw[<-hb];exact B));have hEE:=Hd (show ∀W,Below b w W->EL W vb g.es from fun W B=>hvb.below (by rw[<-hb];exact B));obtain⟨a1,a2,hae⟩:=hva.shape;obtain⟨b1,b2,hbe⟩:=hvb.shape;obtain⟨c1,c2,hce⟩:=hvc.shape;have hwAh:=Hd hwA;have hbh:=Hd hb;rw[hc0.out]at hwAh;unfold F6.cells chCells zC zV zE at hwAh;unfold F6.cells;clear hva hvb hvc hA0 hwA hb;subst hae hbe hce;have hch:Hid (changedC g x=chK g x K):=by show _=_;rw[hK.out];rfl
 rw[hch.out];generalize pk x.a 10=kA at *
 generalize g.ds.length=n3 at *
 obtain⟨n1,hn1⟩:∃n1,Hid (n1=g.vs.length):=⟨_,rfl⟩;obtain⟨n2,hn2⟩:∃n2,Hid (n2=g.es.length):=⟨_,rfl⟩;rw[<-hn1.out]at hn hwAh hS hGV hVV ⊢;rw[<-hn2.out]at hn hwAh hS hGV hEE ⊢;obtain⟨hl1,hl2,_⟩:=hn;go_enter Tryz.func14,Tryz.ntmps14;go_wp2_with fail;with_reducible refine(pa.out _).mono ?_
 rintro e w1 ⟨rfl,rfl⟩;go_upto_region 2 with(fail);rw[<-hwAh.out,<-hbh.out,show b+1+1+1=b+3 from rfl,show b+1+1=b+2 from rfl];clear pa hwAh hKw2;obtain⟨x0,x1,x2,x3,x4,x5⟩:=hS.out.xs;go_wp2_with fail;with_reducible refine(pb24.out _).mono ?_
 rintro e w1 ⟨rfl,rfl⟩;go_wp2_with fail;with_reducible refine(pc24.out _).mono ?_
 rintro e w1 ⟨rfl,rfl⟩;go_wp2_with fail;with_reducible refine(pb40.out _).mono ?_
 rintro e w1 ⟨rfl,rfl⟩;go_upto_region 5 with(fail);obtain⟨cp,hcp⟩:∃cp,Hid (cp=chPick g x):=⟨_,rfl⟩
 go_cut [36]from 27 to 36 (fun s36 wx=>s36= .bool cp/\wx=wA)
 case first =>
  obtain⟨g0,g1,g2⟩:=hS.out.g;have hcq:Hid (cp=(decide (0<n1)&&decide (0<pk x.f 8))):=by show _=_;rw[hcp.out,chPick,<-hn1.out]
  by_cases h0:0<n1
  ·have i1:(0:Int)<(n1:Int):=by omega
   have e1:decide (0<n1)=true:=by simpa using h0
   rw[e1,Bool.true_and]at hcq;generalize pk x.f 8=p8 at *
   go_wp2_with fail;with_reducible refine(pf8.out _).mono ?_
   rintro e w1 ⟨rfl,rfl⟩;go_wp2_with fail
   go_meet
   case rel=>exact⟨by rw[hcq.out],rfl⟩
  ·have i1:¬(0:Int)<(n1:Int):=by omega
   have e1:decide (0<n1)=false:=by simpa using h0
   rw[e1,Bool.false_and]at hcq;go_wp2_with fail
   go_meet
   case rel=>exact⟨by rw[hcq.out],rfl⟩
 case rest =>
 obtain⟨rfl,rfl⟩:=hcut;obtain⟨wA,rfl⟩:∃wA',wA'=wc:=⟨_,rfl⟩
 go_upto_if 36 with(fail)
 clear x0 x1 x2 x3 x4 x5
 go_cut [6,7]from 37 to 58 (fun s6 s7 wx=>s6= .int .i64 (chId g x)/\s7= .int .i64 (chOther g x)/\ChS w b (.slice a1 n1 a2) (.slice b1 n2 b2) (.slice c1 n3 c2) x c0 wx)
 case first =>
  cases cp with
  | false =>
   have e1:chPick g x=false:=hcp.out.symm;have e2:Hid (chId g x=pk x.b 24):=by show _=_;unfold chId;rw[e1];rfl
   have e3:Hid (chOther g x=pk x.c 24):=by show _=_;unfold chOther;rw[e1];rfl
   go_wp2_with fail
   go_meet
   case rel=>exact⟨by rw[e2.out],by rw[e3.out],hS.out⟩
  | true =>
   have e1:chPick g x=true:=hcp.out.symm;have h0:0<n1:=by unfold chPick at e1;simp only[Bool.and_eq_true,decide_eq_true_eq]at e1;rw[hn1.out];exact e1.1
   obtain⟨p,hp,hpN⟩:∃p:Nat,pk x.b n1=p/\p<n1:=⟨(pk x.b n1).toNat,by have:=pk_lo x.b n1 (by omega);omega,pk_toNat _ _ h0⟩;obtain⟨q,hq,hqN⟩:∃q:Nat,pk x.c n1=q/\q<n1:=⟨(pk x.c n1).toNat,by have:=pk_lo x.c n1 (by omega);omega,pk_toNat _ _ h0⟩;have hpb:=Hd (fun W=>pickR_any x.b n1 W hx1.1 hx1.2 (by omega) (by omega));have hpc:=Hd (fun W=>pickR_any x.c n1 W hx2.1 hx2.2 (by omega) (by omega));rw[hp]at hpb;rw[hq]at hpc;have hpl:p<g.vs.length:=by rw[<-hn1.out];exact hpN
   have hql:q<g.vs.length:=by rw[<-hn1.out];exact hqN
   have e2:Hid (chId g x=g.vs[p].id):=by show _=_;unfold chId;rw[e1,if_pos rfl,<-hn1.out,hp,Int.toNat_natCast,key_at _ _ hpl]
   have e3:Hid (chOther g x=g.vs[q].id):=by show _=_;unfold chOther;rw[e1,if_pos rfl,<-hn1.out,hq,Int.toNat_natCast,key_at _ _ hql]
   obtain⟨vg,vo,vcap,he,_,h2,h3⟩:=(hVV.out wA hS.out.below).own (fun e=>by rw[e]at hpl;simp at hpl);injection he with he1 he2 he3
   replace he3:=he3.symm;subst he1;subst he3;clear he2;have v1:=(h3 p _ (List.getElem?_eq_getElem hpl)).1;have v2:=(h3 q _ (List.getElem?_eq_getElem hql)).1;generalize g.vs[p].id=ip at *
   generalize g.vs[q].id=iq at *
   have sK:=Hd (show ∀W,ChS w b (.slice (some ⟨vg,vo,none⟩) n1 vcap) (.slice b1 n2 b2) (.slice c1 n3 c2) x c0 W->W.cell? ⟨vg,vo+p*2,none⟩=some (.int .i64 ip)->W.cell? ⟨vg,vo+q*2,none⟩=some (.int .i64 iq)->(W.cell? ⟨b,0,none⟩=some (.slice (some ⟨vg,vo,none⟩) n1 vcap)/\W.cell? ⟨b+1,1,none⟩=some (.int .i64 x.b)/\W.cell? ⟨vg,vo+p*2,none⟩=some (.int .i64 ip))/\(W.cell? ⟨b,0,none⟩=some (.slice (some ⟨vg,vo,none⟩) n1 vcap)/\W.cell? ⟨b+1,2,none⟩=some (.int .i64 x.c)/\W.cell? ⟨vg,vo+q*2,none⟩=some (.int .i64 iq))from fun W h i1 i2=>⟨⟨h.g.1,h.xs.2.1,i1⟩,h.g.1,h.xs.2.2.1,i2⟩);have s1:=Hd (sK.out _ hS.out.drew v1 v2).1;have s2:=Hd (sK.out _ hS.out.drew.drew v1 v2).2;have j0:(0:Int)<=(p:Int):=by omega
   have j1:(p:Int)<(n1:Int):=by omega
   have j2:(0:Int)<=(q:Int):=by omega
   have j3:(q:Int)<(n1:Int):=by omega
   clear h2 h3 hp hq v1 v2 sK;go_wp2_with fail;refine wp_region_F (fun w':World=>w'.cell? ⟨b,0,none⟩=some (.slice (some ⟨vg,vo,none⟩) n1 vcap)/\w'.cell? ⟨b+1,1,none⟩=some (.int .i64 x.b)/\w'.cell? ⟨vg,vo+p*2,none⟩=some (.int .i64 ip)) 999 (by kernel_rfl) s1.out (fun hHeld=>?_);refine tkP 0 rfl ?_;refine tkP 1 rfl ?_;refine tkP 2 rfl ?_;refine tkP 3 rfl ?_;refine tkP 4 rfl ?_;refine tkP 5 rfl ?_;refine tkP 6 rfl ?_;refine wpAnyC_take (i:=7) (oi:=⟨some 44,.call {callee:= .value (.func 47),args:= #[(.tmp 40),(.tmp 43)],argTypes:= #[3,3]},_,_,_,none⟩) (v:=(.int .i64 (p:Int))) rfl (by kernel_rfl) (by kernel_rfl) (by kernel_rfl) (by kernel_rfl) (fun _ _ _ h=>h) (by rfl) (fun wq hq=>answers_call Tryz.f47 rfl Tryz.func47 (by kernel_rfl) (by kernel_rfl) #[.int .i64 x.b,.int .i64 (n1:Int)] (by simp[Act.eval]) (hpb.out wq)) (by assumption) ?_;try simp only[Act.put,zT,z0,zS]
   refine tkP 8 rfl ?_;refine tkP 9 rfl ?_;refine tkP 10 rfl ?_;refine tkP 11 rfl ?_;refine wpAnyF_done (by kernel_rfl) ?_ _;go_wp2_with fail;refine wp_region_F (fun w':World=>w'.cell? ⟨b,0,none⟩=some (.slice (some ⟨vg,vo,none⟩) n1 vcap)/\w'.cell? ⟨b+1,2,none⟩=some (.int .i64 x.c)/\w'.cell? ⟨vg,vo+q*2,none⟩=some (.int .i64 iq)) 999 (by kernel_rfl) s2.out (fun hHeld=>?_);refine tkP 0 rfl ?_;refine tkP 1 rfl ?_;refine tkP 2 rfl ?_;refine tkP 3 rfl ?_;refine tkP 4 rfl ?_;refine tkP 5 rfl ?_;refine tkP 6 rfl ?_;refine wpAnyC_take (i:=7) (oi:=⟨some 55,.call {callee:= .value (.func 47),args:= #[(.tmp 51),(.tmp 54)],argTypes:= #[3,3]},_,_,_,none⟩) (v:=(.int .i64 (q:Int))) rfl (by kernel_rfl) (by kernel_rfl) (by kernel_rfl) (by kernel_rfl) (fun _ _ _ h=>h) (by rfl) (fun wq hq=>answers_call Tryz.f47 rfl Tryz.func47 (by kernel_rfl) (by kernel_rfl) #[.int .i64 x.c,.int .i64 (n1:Int)] (by simp[Act.eval]) (hpc.out wq)) (by assumption) ?_;try simp only[Act.put,zT,z0,zS]
   refine tkP 8 rfl ?_;refine tkP 9 rfl ?_;refine tkP 10 rfl ?_;refine tkP 11 rfl ?_;refine wpAnyF_done (by kernel_rfl) ?_ _;go_wp2_with fail
   go_meet
   case rel=>exact⟨by rw[e2.out],by rw[e3.out],hS.out.drew.drew⟩
 case rest =>
 clear hS;obtain⟨rfl,rfl,hSx⟩:=hcut;obtain⟨wB,rfl⟩:∃wB',wB'=wc:=⟨_,rfl⟩;have hS:=Hd hSx;clear hSx hcp pb24 pc24;go_upto_region 8 with(fail);obtain⟨ce,hce⟩:∃ce,Hid (ce=(decide (0<g.es.length)&&decide (0<pk x.f 8))):=⟨_,rfl⟩
 go_cut [68]from 59 to 68 (fun s68 wx=>s68= .bool ce/\wx=wB)
 case first =>
  obtain⟨g0,g1,g2⟩:=hS.out.g;obtain⟨x0,x1,x2,x3,x4,x5⟩:=hS.out.xs;rw[<-hn2.out]at hce;by_cases h0:0<n2
  ·have i1:(0:Int)<(n2:Int):=by omega
   have e1:decide (0<n2)=true:=by simpa using h0
   rw[e1,Bool.true_and]at hce;generalize pk x.f 8=p8 at *
   go_wp2_with fail;with_reducible refine(pf8.out _).mono ?_
   rintro e w1 ⟨rfl,rfl⟩;go_wp2_with fail
   go_meet
   case rel=>exact⟨by rw[hce.out],rfl⟩
  ·have i1:¬(0:Int)<(n2:Int):=by omega
   have e1:decide (0<n2)=false:=by simpa using h0
   rw[e1,Bool.false_and]at hce;go_wp2_with fail
   go_meet
   case rel=>exact⟨by rw[hce.out],rfl⟩
 case rest =>
 obtain⟨rfl,rfl⟩:=hcut;obtain⟨wB,rfl⟩:∃wB',wB'=wc:=⟨_,rfl⟩
 go_upto_if 68 with(fail)
 go_cut [8]from 69 to 79 (fun s8 wx=>s8= .int .i64 (chEdge g x)/\ChS w b (.slice a1 n1 a2) (.slice b1 n2 b2) (.slice c1 n3 c2) x c0 wx)
 case first =>
  cases ce with
  | false =>
   have e2:Hid (chEdge g x=pk x.b 40):=by show _=_;unfold chEdge;rw[<-hce.out];rfl
   go_wp2_with fail
   go_meet
   case rel=>exact⟨by rw[e2.out],hS.out⟩
  | true =>
   have e1:=hce.out.symm;have h0:0<n2:=by simp only[Bool.and_eq_true,decide_eq_true_eq]at e1;rw[hn2.out];exact e1.1
   obtain⟨p,hp,hpN⟩:∃p:Nat,pk x.b n2=p/\p<n2:=⟨(pk x.b n2).toNat,by have:=pk_lo x.b n2 (by omega);omega,pk_toNat _ _ h0⟩;have hpb:=Hd (fun W=>pickR_any x.b n2 W hx1.1 hx1.2 (by omega) (by omega));rw[hp]at hpb;have hpl:p<g.es.length:=by rw[<-hn2.out];exact hpN
   have e2:Hid (chEdge g x=g.es[p].id):=by show _=_;unfold chEdge;rw[e1,if_pos rfl,<-hn2.out,hp,Int.toNat_natCast,keyE_at _ _ hpl]
   obtain⟨eg,eo,ecap,he,_,h2,h3⟩:=(hEE.out wB hS.out.below).own (fun e=>by rw[e]at hpl;simp at hpl);injection he with he1 he2 he3
   replace he3:=he3.symm;subst he1;subst he3;clear he2;have v1:=(h3 p _ (List.getElem?_eq_getElem hpl)).1;generalize g.es[p].id=ie at *
   have sK:=Hd (show ∀W,ChS w b (.slice a1 n1 a2) (.slice (some ⟨eg,eo,none⟩) n2 ecap) (.slice c1 n3 c2) x c0 W->W.cell? ⟨eg,eo+p*6,none⟩=some (.int .i64 ie)->W.cell? ⟨b,1,none⟩=some (.slice (some ⟨eg,eo,none⟩) n2 ecap)/\W.cell? ⟨b+1,1,none⟩=some (.int .i64 x.b)/\W.cell? ⟨eg,eo+p*6,none⟩=some (.int .i64 ie)from fun W h i1=>⟨h.g.2.1,h.xs.2.1,i1⟩);have s1:=Hd (sK.out _ hS.out.drew v1);have j0:(0:Int)<=(p:Int):=by omega
   have j1:(p:Int)<(n2:Int):=by omega
   clear h2 h3 hp v1 sK e1;go_wp2_with fail;refine wp_region_F (fun w':World=>w'.cell? ⟨b,1,none⟩=some (.slice (some ⟨eg,eo,none⟩) n2 ecap)/\w'.cell? ⟨b+1,1,none⟩=some (.int .i64 x.b)/\w'.cell? ⟨eg,eo+p*6,none⟩=some (.int .i64 ie)) 999 (by kernel_rfl) s1.out (fun hHeld=>?_);refine tkP 0 rfl ?_;refine tkP 1 rfl ?_;refine tkP 2 rfl ?_;refine tkP 3 rfl ?_;refine tkP 4 rfl ?_;refine tkP 5 rfl ?_;refine tkP 6 rfl ?_;refine wpAnyC_take (i:=7) (oi:=⟨some 76,.call {callee:= .value (.func 47),args:= #[(.tmp 72),(.tmp 75)],argTypes:= #[3,3]},_,_,_,none⟩) (v:=(.int .i64 (p:Int))) rfl (by kernel_rfl) (by kernel_rfl) (by kernel_rfl) (by kernel_rfl) (fun _ _ _ h=>h) (by rfl) (fun wq hq=>answers_call Tryz.f47 rfl Tryz.func47 (by kernel_rfl) (by kernel_rfl) #[.int .i64 x.b,.int .i64 (n2:Int)] (by simp[Act.eval]) (hpb.out wq)) (by assumption) ?_;try simp only[Act.put,zT,z0,zS]
   refine tkP 8 rfl ?_;refine tkP 9 rfl ?_;refine tkP 10 rfl ?_;refine tkP 11 rfl ?_;refine wpAnyF_done (by kernel_rfl) ?_ _;go_wp2_with fail
   go_meet
   case rel=>exact⟨by rw[e2.out],hS.out.drew⟩
 case rest =>
 clear hS;obtain⟨rfl,hSx⟩:=hcut;obtain⟨wC,rfl⟩:∃wC',wC'=wc:=⟨_,rfl⟩;have hS:=Hd hSx;clear hSx hce pb40 pf8;obtain⟨x0,x1,x2,x3,x4,x5⟩:=hS.out.xs;have fst0:=FreeI.start (keysV g.vs) 24 (pk x.d 24) (pk_lo _ _ (by omega)) (pk_lt _ _ (by omega));obtain⟨k0,hk0⟩:∃k0:Nat,pk x.d 24=k0:=⟨(pk x.d 24).toNat,by have:=pk_lo x.d 24 (by omega);omega⟩;have hfr:Hid (chFree g x=freeF (keysV g.vs) 24 (pk x.d 24)):=rfl;rw[<-hfr.out,hk0,Int.toNat_natCast]at fst0;rw[hk0]at pd24;obtain⟨T,hT⟩:∃T,Hid (T=chFree g x):=⟨_,rfl⟩;rw[<-hT.out]at fst0;have fst:=Hd fst0;clear fst0 hfr hk0;go_wp2_with fail;with_reducible refine(pd24.out _).mono ?_
 rintro e w1 ⟨rfl,rfl⟩;go_wp2_with fail
 go_loopw [9] (fun i wr=>∃k:Nat,i= .int .i64 k/\Hid (FreeI (keysV g.vs) 24 T k)/\Hid (ChS w b (.slice a1 n1 a2) (.slice b1 n2 b2) (.slice c1 n3 c2) x c0 wr)) (fun i _=>(T.toNat+24-(intOf i).toNat)%24)
 case atStart=>exact⟨k0,rfl,fst.out,hS.out⟩
 case round =>
 clear hS x0 x1 x2 x3 x4 x5 fst pd24;obtain⟨k,rfl,hfi,hS⟩:=hrel;have hk1:=hfi.out.1;obtain⟨cb,hcb⟩:∃cb:Bool,Hid (cb=(decide ((k:Int)∈keysV g.vs)&&decide ((keysV g.vs).length<24))):=⟨_,rfl⟩;go_upto_region 11 with(fail)
 go_cut [92]from 83 to 95 (fun sc wx=>sc= .bool cb/\ChS w b (.slice a1 n1 a2) (.slice b1 n2 b2) (.slice c1 n3 c2) x c0 wx)
 case first =>
  have hpl:=Hd (PlaceR_any (.agg #[.slice a1 n1 a2,.slice b1 n2 b2,.slice c1 n3 c2]) g (k:Int) wr (hGV.out wr hS.out.below) (by rw[<-hn1.out];omega));have hkl:(keysV g.vs).length=n1:=by rw[hn1.out];simp[keysV,keysE]
  obtain⟨g0,g1,g2⟩:=hS.out.g;by_cases hm:(k:Int)∈keysV g.vs
  ·have t1:decide (0<=plI (keysV g.vs) (k:Int))=true:=by rw[decide_eq_true_iff];exact(plI_ge _ _).2 hm
   have t2:decide ((k:Int)∈keysV g.vs)=true:=by rw[decide_eq_true_iff];exact hm
   rw[t2,Bool.true_and,hkl]at hcb;have t3:decide ((n1:Int)<24)=decide (n1<24):=by rw[Bool.eq_iff_iff,decide_eq_true_iff,decide_eq_true_iff];omega
   rw[<-t3]at hcb;have t1':(0:Int)<=plI (keysV g.vs) (k:Int):=(plI_ge _ _).2 hm;generalize plI (keysV g.vs) (k:Int)=pl at *
   clear hm t2 t3;go_wp2_with fail;with_reducible refine hpl.out.mono ?_
   rintro e w2 ⟨rfl,b2⟩;have hS2:=Hd (hS.out.to b2);clear g0 g1 g2;obtain⟨g0,g1,g2⟩:=hS2.out.g;go_wp2_with fail
   go_meet
   case rel=>exact⟨by rw[hcb.out],hS2.out⟩
  ·have t1:decide (0<=plI (keysV g.vs) (k:Int))=false:=by rw[decide_eq_false_iff_not];exact fun h=>hm ((plI_ge _ _).1 h)
   have t2:decide ((k:Int)∈keysV g.vs)=false:=by rw[decide_eq_false_iff_not];exact hm
   rw[t2,Bool.false_and]at hcb;have t1':¬(0:Int)<=plI (keysV g.vs) (k:Int):=fun h=>hm ((plI_ge _ _).1 h);generalize plI (keysV g.vs) (k:Int)=pl at *
   clear hm t2;go_wp2_with fail;with_reducible refine hpl.out.mono ?_
   rintro e w2 ⟨rfl,b2⟩;have hS2:=Hd (hS.out.to b2);clear g0 g1 g2;obtain⟨g0,g1,g2⟩:=hS2.out.g;go_wp2_with fail
   go_meet
   case rel=>exact⟨by rw[hcb.out],hS2.out⟩
 case rest =>
 clear hS;obtain⟨rfl,hSx⟩:=hcut;obtain⟨wr,rfl⟩:∃wr',wr'=wc:=⟨_,rfl⟩;have hS:=Hd hSx;clear hSx;cases cb with
 | true =>
  have e1:=hcb.out.symm;simp only[Bool.and_eq_true,decide_eq_true_eq]at e1;have hst:=Hd (hfi.out.step e1.1 e1.2);have i0:(0:Int)<=(k:Int):=by omega
  have em:((k:Int)+1)%24=(((k+1)%24:Nat):Int):=by omega
  clear e1 hcb hfi;go_wp2_with fail
  go_roundw
  case rel=>exact⟨(k+1)%24,by first|rfl|(rw[em])|go_num,hst.out.1,hS.out⟩
  case measure =>
   have h2:=hst.out.2;simp only[intOf]
   first
    | (rw[em,Int.toNat_natCast,Int.toNat_natCast];exact h2)
    | (rw[Int.toNat_natCast];rw[show((k:Int)).toNat=k from Int.toNat_natCast k];exact h2)
    | trace_state
 | false =>
  have e1:¬((k:Int)∈keysV g.vs/\(keysV g.vs).length<24):=fun h=>by have e:=hcb.out.symm;rw[show decide ((k:Int)∈keysV g.vs)=true from decide_eq_true h.1,show decide ((keysV g.vs).length<24)=true from decide_eq_true h.2]at e;cases e
  have hTk:=hfi.out.stop e1;clear e1 hcb hfi;rw[hT.out]at hTk;rw[<-hTk];clear hTk hT hk1;obtain⟨x0,x1,x2,x3,x4,x5⟩:=hS.out.xs;have fst0:=FreeI.start (keysE g.es) 40 (pk x.e 40) (pk_lo _ _ (by omega)) (pk_lt _ _ (by omega));obtain⟨k0,hk0⟩:∃k0:Nat,pk x.e 40=k0:=⟨(pk x.e 40).toNat,by have:=pk_lo x.e 40 (by omega);omega⟩;have hfr:Hid (chSpare g x=freeF (keysE g.es) 40 (pk x.e 40)):=rfl;rw[<-hfr.out,hk0,Int.toNat_natCast]at fst0;rw[hk0]at pe40;obtain⟨T,hT⟩:∃T,Hid (T=chSpare g x):=⟨_,rfl⟩;rw[<-hT.out]at fst0;have fst:=Hd fst0;clear fst0 hfr hk0;go_wp2_with fail;with_reducible refine(pe40.out _).mono ?_
  rintro e w1 ⟨rfl,rfl⟩;go_wp2_with fail
  go_loopw [10] (fun i wr=>∃k:Nat,i= .int .i64 k/\Hid (FreeI (keysE g.es) 40 T k)/\Hid (ChS w b (.slice a1 n1 a2) (.slice b1 n2 b2) (.slice c1 n3 c2) x c0 wr)) (fun i _=>(T.toNat+40-(intOf i).toNat)%40)
  case atStart=>exact⟨k0,rfl,fst.out,hS.out⟩
  case round =>
  clear hS x0 x1 x2 x3 x4 x5 fst pe40;obtain⟨k,rfl,hfi,hS⟩:=hrel;have hk1:=hfi.out.1;obtain⟨cb,hcb⟩:∃cb:Bool,Hid (cb=(decide ((k:Int)∈keysE g.es)&&decide ((keysE g.es).length<40))):=⟨_,rfl⟩;go_upto_region 14 with(fail)
  go_cut [108]from 99 to 111 (fun sc wx=>sc= .bool cb/\ChS w b (.slice a1 n1 a2) (.slice b1 n2 b2) (.slice c1 n3 c2) x c0 wx)
  case first =>
   have hpl:=Hd (FindR_any (.agg #[.slice a1 n1 a2,.slice b1 n2 b2,.slice c1 n3 c2]) g (k:Int) wr (hGV.out wr hS.out.below) (by rw[<-hn2.out];omega));have hkl:(keysE g.es).length=n2:=by rw[hn2.out];simp[keysV,keysE]
   obtain⟨g0,g1,g2⟩:=hS.out.g;by_cases hm:(k:Int)∈keysE g.es
   ·have t1:decide (0<=plI (keysE g.es) (k:Int))=true:=by rw[decide_eq_true_iff];exact(plI_ge _ _).2 hm
    have t2:decide ((k:Int)∈keysE g.es)=true:=by rw[decide_eq_true_iff];exact hm
    rw[t2,Bool.true_and,hkl]at hcb;have t3:decide ((n2:Int)<40)=decide (n2<40):=by rw[Bool.eq_iff_iff,decide_eq_true_iff,decide_eq_true_iff];omega
    rw[<-t3]at hcb;have t1':(0:Int)<=plI (keysE g.es) (k:Int):=(plI_ge _ _).2 hm;generalize plI (keysE g.es) (k:Int)=pl at *
    clear hm t2 t3;go_wp2_with fail;with_reducible refine hpl.out.mono ?_
    rintro e w2 ⟨rfl,b2⟩;have hS2:=Hd (hS.out.to b2);clear g0 g1 g2;obtain⟨g0,g1,g2⟩:=hS2.out.g;go_wp2_with fail
    go_meet
    case rel=>exact⟨by rw[hcb.out],hS2.out⟩
   ·have t1:decide (0<=plI (keysE g.es) (k:Int))=false:=by rw[decide_eq_false_iff_not];exact fun h=>hm ((plI_ge _ _).1 h)
    have t2:decide ((k:Int)∈keysE g.es)=false:=by rw[decide_eq_false_iff_not];exact hm
    rw[t2,Bool.false_and]at hcb;have t1':¬(0:Int)<=plI (keysE g.es) (k:Int):=fun h=>hm ((plI_ge _ _).1 h);generalize plI (keysE g.es) (k:Int)=pl at *
    clear hm t2;go_wp2_with fail;with_reducible refine hpl.out.mono ?_
    rintro e w2 ⟨rfl,b2⟩;have hS2:=Hd (hS.out.to b2);clear g0 g1 g2;obtain⟨g0,g1,g2⟩:=hS2.out.g;go_wp2_with fail
    go_meet
    case rel=>exact⟨by rw[hcb.out],hS2.out⟩
  case rest =>
  clear hS;obtain⟨rfl,hSx⟩:=hcut;obtain⟨wr,rfl⟩:∃wr',wr'=wc:=⟨_,rfl⟩;have hS:=Hd hSx;clear hSx;cases cb with
  | true =>
   have e1:=hcb.out.symm;simp only[Bool.and_eq_true,decide_eq_true_eq]at e1;have hst:=Hd (hfi.out.step e1.1 e1.2);have i0:(0:Int)<=(k:Int):=by omega
   have em:((k:Int)+1)%40=(((k+1)%40:Nat):Int):=by omega
   clear e1 hcb hfi;go_wp2_with fail
   go_roundw
   case rel=>exact⟨(k+1)%40,by first|rfl|(rw[em])|go_num,hst.out.1,hS.out⟩
   case measure =>
    have h2:=hst.out.2;simp only[intOf]
    first
     | (rw[em,Int.toNat_natCast,Int.toNat_natCast];exact h2)
     | (rw[Int.toNat_natCast];rw[show((k:Int)).toNat=k from Int.toNat_natCast k];exact h2)
     | trace_state
  | false =>
   have e1:¬((k:Int)∈keysE g.es/\(keysE g.es).length<40):=fun h=>by have e:=hcb.out.symm;rw[show decide ((k:Int)∈keysE g.es)=true from decide_eq_true h.1,show decide ((keysE g.es).length<40)=true from decide_eq_true h.2]at e;cases e
   have hTk:=hfi.out.stop e1;clear e1 hcb hfi;rw[hT.out]at hTk;rw[<-hTk];clear hTk hT hk1;have pd12:=Hd (fun W=>pickR_any x.d 12 W hx3.1 hx3.2 (by omega) (by omega));have pd6:=Hd (fun W=>pickR_any x.d 6 W hx3.1 hx3.2 (by omega) (by omega));have pd4:=Hd (fun W=>pickR_any x.d 4 W hx3.1 hx3.2 (by omega) (by omega));have pd2:=Hd (fun W=>pickR_any x.d 2 W hx3.1 hx3.2 (by omega) (by omega));have pe4:=Hd (fun W=>pickR_any x.e 4 W hx4.1 hx4.2 (by omega) (by omega));have pf6:=Hd (fun W=>pickR_any x.f 6 W hx5.1 hx5.2 (by omega) (by omega));have q0:=pk_lo x.d 12 (by omega);have q1:=pk_lt x.d 12 (by omega);have fw:IntKind.i64.wrap (pk x.d 12-3)=pk x.d 12-3:=IntWalk.i64_in _ (by omega);have hcb0:=hS.out.cbox;rw[hc0.out]at hcb0;have hS2:=Hd (show ChS w b (.slice a1 n1 a2) (.slice b1 n2 b2) (.slice c1 n3 c2) x (chCells ⟨K,⟨0,0⟩,⟨0,0,0,false,0,0⟩,0,0,[],[]⟩ (.slice none 0 0) (.slice none 0 0)) wr from by have h:=hS.out;rw[hc0.out]at h;exact h);clear hS hc0;obtain⟨x0,x1,x2,x3,x4,x5⟩:=hS2.out.xs;obtain⟨d0,d1,d2,d3,d4,d5,d6,d7,d8,d9,dA,dB,dC⟩:=ch_cells hcb0;have fr:=fun i=>free_of_block (i:=i) hcb0;have fr9:=fr 9;have frA:=fr 10;have fr1:=fr 1;have fr2:=fr 2;clear fr;have hKc:K=1\/K=2\/K=3\/K=4\/K=5\/K=6\/K=7\/K=8\/K=9\/K=10:=by omega
   clear hK hKw hch hK1 hcb0;rcases hKc with rfl|rfl|rfl|rfl|rfl|rfl|rfl|rfl|rfl|rfl
   ·have hk:Hid (chK g x 1=⟨1,⟨chFree g x,pk x.e 4⟩,⟨0,0,0,false,0,0⟩,0,0,[],[]⟩):=rfl;have hf:=Hd ((hS2.out.set 1 (.int .i64 (chFree g x))).set 2 (.int .i64 (pk x.e 4)));have hcf:=hf.out.cbox;simp only[chCells,List.setIfInBounds_toArray,List.set_cons_succ,List.set_cons_zero]at hcf;have hcF:=Hd hcf;have hrF:=Hd hf.out.res;have hBf:=Hd (hf.out.fin hbh.out (chCells ⟨1,⟨chFree g x,pk x.e 4⟩,⟨0,0,0,false,0,0⟩,0,0,[],[]⟩ (.slice none 0 0) (.slice none 0 0)));clear hcf hf hS2;go_wp2_with fail;with_reducible refine(pe4.out _).mono ?_
    rintro e w1 ⟨rfl,rfl⟩
    go_wp2_with (first
     | (refine wpList_load_row rfl 33 (.tmp 5) rfl (b+3) rfl 33 (chCells ⟨1,⟨chFree g x,pk x.e 4⟩,⟨0,0,0,false,0,0⟩,0,0,[],[]⟩ (.slice none 0 0) (.slice none 0 0)) (0,0) _ hcF.out Tryz.underlying33 rfl (size33' _ _ _) ?_)
     | (refine wpList_store_row rfl 33 (.tmp 4) (.tmp 246) rfl (b+2) (chCells ⟨1,⟨chFree g x,pk x.e 4⟩,⟨0,0,0,false,0,0⟩,0,0,[],[]⟩ (.slice none 0 0) (.slice none 0 0)) rfl rfl 33 _ hrF.out (size33' _ _ _) rfl (one33 _ _ _ _ _ _ _) ?_))
    refine bodyPost_ret (v:=_) (results_cell_row (fn:=Tryz.f14) rfl _ _ (b+2) 33 (chCells ⟨1,⟨chFree g x,pk x.e 4⟩,⟨0,0,0,false,0,0⟩,0,0,[],[]⟩ (.slice none 0 0) (.slice none 0 0)) (0,0) _ rfl (setRow_heap _ _ _ _ _ _ hrF.out) Tryz.underlying33 rfl (size33' _ _ _)) rfl ?_;exact⟨_,rfl,by rw[hk.out];exact⟨_,_,rfl,ownI_nil _ _,ownI_nil _ _⟩,hBf.out⟩
   ·have hk:Hid (chK g x 2=⟨2,⟨0,0⟩,⟨0,0,0,false,0,0⟩,chId g x,0,[],[]⟩):=rfl;have hf:=Hd (hS2.out.set 9 (.int .i64 (chId g x)));have hcf:=hf.out.cbox;simp only[chCells,List.setIfInBounds_toArray,List.set_cons_succ,List.set_cons_zero]at hcf;have hcF:=Hd hcf;have hrF:=Hd hf.out.res;have hBf:=Hd (hf.out.fin hbh.out (chCells ⟨2,⟨0,0⟩,⟨0,0,0,false,0,0⟩,chId g x,0,[],[]⟩ (.slice none 0 0) (.slice none 0 0)));clear hcf hf hS2
    go_wp2_with (first
     | (refine wpList_load_row rfl 33 (.tmp 5) rfl (b+3) rfl 33 (chCells ⟨2,⟨0,0⟩,⟨0,0,0,false,0,0⟩,chId g x,0,[],[]⟩ (.slice none 0 0) (.slice none 0 0)) (0,0) _ hcF.out Tryz.underlying33 rfl (size33' _ _ _) ?_)
     | (refine wpList_store_row rfl 33 (.tmp 4) (.tmp 246) rfl (b+2) (chCells ⟨2,⟨0,0⟩,⟨0,0,0,false,0,0⟩,chId g x,0,[],[]⟩ (.slice none 0 0) (.slice none 0 0)) rfl rfl 33 _ hrF.out (size33' _ _ _) rfl (one33 _ _ _ _ _ _ _) ?_))
    refine bodyPost_ret (v:=_) (results_cell_row (fn:=Tryz.f14) rfl _ _ (b+2) 33 (chCells ⟨2,⟨0,0⟩,⟨0,0,0,false,0,0⟩,chId g x,0,[],[]⟩ (.slice none 0 0) (.slice none 0 0)) (0,0) _ rfl (setRow_heap _ _ _ _ _ _ hrF.out) Tryz.underlying33 rfl (size33' _ _ _)) rfl ?_;exact⟨_,rfl,by rw[hk.out];exact⟨_,_,rfl,ownI_nil _ _,ownI_nil _ _⟩,hBf.out⟩
   ·have hk:Hid (chK g x 3=⟨3,⟨0,0⟩,⟨chSpare g x,chId g x,chOther g x,pk x.d 2==1,pk x.d 12-3,pk x.f 6⟩,0,0,[],[]⟩):=rfl;have hf:=Hd ((((((hS2.out.set 3 (.int .i64 (chSpare g x))).set 4 (.int .i64 (chId g x))).set 5 (.int .i64 (chOther g x))).set 6 (.bool (pk x.d 2==1))).set 7 (.int .i64 (pk x.d 12-3))).set 8 (.int .i64 (pk x.f 6))).drew;have hcf:=hf.out.cbox;simp only[chCells,List.setIfInBounds_toArray,List.set_cons_succ,List.set_cons_zero]at hcf;have hcF:=Hd hcf;have hrF:=Hd hf.out.res;have hBf:=Hd (hf.out.fin hbh.out (chCells ⟨3,⟨0,0⟩,⟨chSpare g x,chId g x,chOther g x,pk x.d 2==1,pk x.d 12-3,pk x.f 6⟩,0,0,[],[]⟩ (.slice none 0 0) (.slice none 0 0)));have hS0:=Hd (show wr.drew.cell? ⟨b+1,3,none⟩=some (.int .i64 x.d)/\wr.drew.cell? ⟨b+1,5,none⟩=some (.int .i64 x.f)from⟨hS2.out.drew.xs.2.2.2.1,hS2.out.drew.xs.2.2.2.2.2⟩);have y3:=free_of_block (i:=3) hS2.out.cbox;have y4:=free_of_block (i:=4) hS2.out.cbox;have y5:=free_of_block (i:=5) hS2.out.cbox;have y6:=free_of_block (i:=6) hS2.out.cbox;have y7:=free_of_block (i:=7) hS2.out.cbox;have y8:=free_of_block (i:=8) hS2.out.cbox;have u3:=d3;have u4:=d4;have u5:=d5;have u6:=d6;have u7:=d7;have u8:=d8;clear hcf hf hS2;go_wp2_with fail;refine wp_region_F (fun w':World=>w'.cell? ⟨b+1,3,none⟩=some (.int .i64 x.d)/\w'.cell? ⟨b+1,5,none⟩=some (.int .i64 x.f)) 16 (by kernel_rfl) hS0.out (fun hHeld=>?_);refine tkP 0 rfl ?_;refine tkP 1 rfl ?_;refine tkP 2 rfl ?_;refine tkP 3 rfl ?_;refine tkP 4 rfl ?_;refine wpAnyC_take (i:=5) (oi:=⟨some 129,.call {callee:= .value (.func 47),args:= #[(.tmp 128),(.const (.int .i64 2))],argTypes:= #[3,3]},_,_,_,none⟩) (v:=(.int .i64 (pk x.d 2))) rfl (by kernel_rfl) (by kernel_rfl) (by kernel_rfl) (by kernel_rfl) (fun _ _ _ h=>h) (by rfl) (fun wq hq=>answers_call Tryz.f47 rfl Tryz.func47 (by kernel_rfl) (by kernel_rfl) #[.int .i64 x.d,.int .i64 2] (by simp[Act.eval]) (pd2.out wq)) (by assumption) ?_;try simp only[Act.put,zT,z0,zS]
    refine tkP 6 rfl ?_;refine tkP 7 rfl ?_;refine tkP 8 rfl ?_;refine wpAnyC_take (i:=9) (oi:=⟨some 133,.call {callee:= .value (.func 47),args:= #[(.tmp 132),(.const (.int .i64 12))],argTypes:= #[3,3]},_,_,_,none⟩) (v:=(.int .i64 (pk x.d 12))) rfl (by kernel_rfl) (by kernel_rfl) (by kernel_rfl) (by kernel_rfl) (fun _ _ _ h=>h) (by rfl) (fun wq hq=>answers_call Tryz.f47 rfl Tryz.func47 (by kernel_rfl) (by kernel_rfl) #[.int .i64 x.d,.int .i64 12] (by simp[Act.eval]) (pd12.out wq)) (by assumption) ?_;try simp only[Act.put,zT,z0,zS]
    refine tkP 10 rfl ?_;refine tkP 11 rfl ?_;refine tkP 12 rfl ?_;refine wpAnyC_take (i:=13) (oi:=⟨some 137,.call {callee:= .value (.func 47),args:= #[(.tmp 136),(.const (.int .i64 6))],argTypes:= #[3,3]},_,_,_,none⟩) (v:=(.int .i64 (pk x.f 6))) rfl (by kernel_rfl) (by kernel_rfl) (by kernel_rfl) (by kernel_rfl) (fun _ _ _ h=>h) (by rfl) (fun wq hq=>answers_call Tryz.f47 rfl Tryz.func47 (by kernel_rfl) (by kernel_rfl) #[.int .i64 x.f,.int .i64 6] (by simp[Act.eval]) (pf6.out wq)) (by assumption) ?_;try simp only[Act.put,zT,z0,zS]
    refine tkP 14 rfl ?_;refine tkP 15 rfl ?_;refine rdy [16] ?_;refine AllReadyF.last (o:=⟨none,.store 31 (.tmp 139) (.tmp 138),_,_,_,none⟩) rfl (fun K hK=>?_) ?_
    ·skip
     go_simp;go_wp2_with fail;refine hK.out _ _ ?_;clear hK K;try simp only[Act.put,zT,z0,zS]
     refine wpAnyF_done (by kernel_rfl) ?_ _;clear u3 u4 u5 u6 u7 u8 y3 y4 y5 y6 y7 y8
     go_wp2_with (first
      | (refine wpList_load_row rfl 33 (.tmp 5) rfl (b+3) rfl 33 (chCells ⟨3,⟨0,0⟩,⟨chSpare g x,chId g x,chOther g x,pk x.d 2==1,pk x.d 12-3,pk x.f 6⟩,0,0,[],[]⟩ (.slice none 0 0) (.slice none 0 0)) (0,0) _ hcF.out Tryz.underlying33 rfl (size33' _ _ _) ?_)
      | (refine wpList_store_row rfl 33 (.tmp 4) (.tmp 246) rfl (b+2) (chCells ⟨3,⟨0,0⟩,⟨chSpare g x,chId g x,chOther g x,pk x.d 2==1,pk x.d 12-3,pk x.f 6⟩,0,0,[],[]⟩ (.slice none 0 0) (.slice none 0 0)) rfl rfl 33 _ hrF.out (size33' _ _ _) rfl (one33 _ _ _ _ _ _ _) ?_))
     refine bodyPost_ret (v:=_) (results_cell_row (fn:=Tryz.f14) rfl _ _ (b+2) 33 (chCells ⟨3,⟨0,0⟩,⟨chSpare g x,chId g x,chOther g x,pk x.d 2==1,pk x.d 12-3,pk x.f 6⟩,0,0,[],[]⟩ (.slice none 0 0) (.slice none 0 0)) (0,0) _ rfl (setRow_heap _ _ _ _ _ _ hrF.out) Tryz.underlying33 rfl (size33' _ _ _)) rfl ?_;exact⟨_,rfl,by rw[hk.out];exact⟨_,_,rfl,ownI_nil _ _,ownI_nil _ _⟩,hBf.out⟩
    exact AllReadyF.nil
   ·have hk:Hid (chK g x 4=⟨4,⟨0,0⟩,⟨0,0,0,false,0,0⟩,chEdge g x,0,[],[]⟩):=rfl;have hf:=Hd (hS2.out.set 9 (.int .i64 (chEdge g x)));have hcf:=hf.out.cbox;simp only[chCells,List.setIfInBounds_toArray,List.set_cons_succ,List.set_cons_zero]at hcf;have hcF:=Hd hcf;have hrF:=Hd hf.out.res;have hBf:=Hd (hf.out.fin hbh.out (chCells ⟨4,⟨0,0⟩,⟨0,0,0,false,0,0⟩,chEdge g x,0,[],[]⟩ (.slice none 0 0) (.slice none 0 0)));clear hcf hf hS2
    go_wp2_with (first
     | (refine wpList_load_row rfl 33 (.tmp 5) rfl (b+3) rfl 33 (chCells ⟨4,⟨0,0⟩,⟨0,0,0,false,0,0⟩,chEdge g x,0,[],[]⟩ (.slice none 0 0) (.slice none 0 0)) (0,0) _ hcF.out Tryz.underlying33 rfl (size33' _ _ _) ?_)
     | (refine wpList_store_row rfl 33 (.tmp 4) (.tmp 246) rfl (b+2) (chCells ⟨4,⟨0,0⟩,⟨0,0,0,false,0,0⟩,chEdge g x,0,[],[]⟩ (.slice none 0 0) (.slice none 0 0)) rfl rfl 33 _ hrF.out (size33' _ _ _) rfl (one33 _ _ _ _ _ _ _) ?_))
    refine bodyPost_ret (v:=_) (results_cell_row (fn:=Tryz.f14) rfl _ _ (b+2) 33 (chCells ⟨4,⟨0,0⟩,⟨0,0,0,false,0,0⟩,chEdge g x,0,[],[]⟩ (.slice none 0 0) (.slice none 0 0)) (0,0) _ rfl (setRow_heap _ _ _ _ _ _ hrF.out) Tryz.underlying33 rfl (size33' _ _ _)) rfl ?_;exact⟨_,rfl,by rw[hk.out];exact⟨_,_,rfl,ownI_nil _ _,ownI_nil _ _⟩,hBf.out⟩
   ·have hk:Hid (chK g x 5=⟨5,⟨0,0⟩,⟨0,0,0,false,0,0⟩,chEdge g x,pk x.d 12-3,[],[]⟩):=rfl;have hf:=Hd ((hS2.out.set 9 (.int .i64 (chEdge g x))).set 10 (.int .i64 (pk x.d 12-3)));have hcf:=hf.out.cbox;simp only[chCells,List.setIfInBounds_toArray,List.set_cons_succ,List.set_cons_zero]at hcf;have hcF:=Hd hcf;have hrF:=Hd hf.out.res;have hBf:=Hd (hf.out.fin hbh.out (chCells ⟨5,⟨0,0⟩,⟨0,0,0,false,0,0⟩,chEdge g x,pk x.d 12-3,[],[]⟩ (.slice none 0 0) (.slice none 0 0)));clear hcf hf hS2;go_wp2_with fail;with_reducible refine(pd12.out _).mono ?_
    rintro e w1 ⟨rfl,rfl⟩
    go_wp2_with (first
     | (refine wpList_load_row rfl 33 (.tmp 5) rfl (b+3) rfl 33 (chCells ⟨5,⟨0,0⟩,⟨0,0,0,false,0,0⟩,chEdge g x,pk x.d 12-3,[],[]⟩ (.slice none 0 0) (.slice none 0 0)) (0,0) _ hcF.out Tryz.underlying33 rfl (size33' _ _ _) ?_)
     | (refine wpList_store_row rfl 33 (.tmp 4) (.tmp 246) rfl (b+2) (chCells ⟨5,⟨0,0⟩,⟨0,0,0,false,0,0⟩,chEdge g x,pk x.d 12-3,[],[]⟩ (.slice none 0 0) (.slice none 0 0)) rfl rfl 33 _ hrF.out (size33' _ _ _) rfl (one33 _ _ _ _ _ _ _) ?_))
    refine bodyPost_ret (v:=_) (results_cell_row (fn:=Tryz.f14) rfl _ _ (b+2) 33 (chCells ⟨5,⟨0,0⟩,⟨0,0,0,false,0,0⟩,chEdge g x,pk x.d 12-3,[],[]⟩ (.slice none 0 0) (.slice none 0 0)) (0,0) _ rfl (setRow_heap _ _ _ _ _ _ hrF.out) Tryz.underlying33 rfl (size33' _ _ _)) rfl ?_;exact⟨_,rfl,by rw[hk.out];exact⟨_,_,rfl,ownI_nil _ _,ownI_nil _ _⟩,hBf.out⟩
   ·have hk:Hid (chK g x 6=⟨6,⟨0,0⟩,⟨0,0,0,false,0,0⟩,chEdge g x,pk x.d 6,[],[]⟩):=rfl;have hf:=Hd ((hS2.out.set 9 (.int .i64 (chEdge g x))).set 10 (.int .i64 (pk x.d 6)));have hcf:=hf.out.cbox;simp only[chCells,List.setIfInBounds_toArray,List.set_cons_succ,List.set_cons_zero]at hcf;have hcF:=Hd hcf;have hrF:=Hd hf.out.res;have hBf:=Hd (hf.out.fin hbh.out (chCells ⟨6,⟨0,0⟩,⟨0,0,0,false,0,0⟩,chEdge g x,pk x.d 6,[],[]⟩ (.slice none 0 0) (.slice none 0 0)));clear hcf hf hS2;go_wp2_with fail;with_reducible refine(pd6.out _).mono ?_
    rintro e w1 ⟨rfl,rfl⟩
    go_wp2_with (first
     | (refine wpList_load_row rfl 33 (.tmp 5) rfl (b+3) rfl 33 (chCells ⟨6,⟨0,0⟩,⟨0,0,0,false,0,0⟩,chEdge g x,pk x.d 6,[],[]⟩ (.slice none 0 0) (.slice none 0 0)) (0,0) _ hcF.out Tryz.underlying33 rfl (size33' _ _ _) ?_)
     | (refine wpList_store_row rfl 33 (.tmp 4) (.tmp 246) rfl (b+2) (chCells ⟨6,⟨0,0⟩,⟨0,0,0,false,0,0⟩,chEdge g x,pk x.d 6,[],[]⟩ (.slice none 0 0) (.slice none 0 0)) rfl rfl 33 _ hrF.out (size33' _ _ _) rfl (one33 _ _ _ _ _ _ _) ?_))
    refine bodyPost_ret (v:=_) (results_cell_row (fn:=Tryz.f14) rfl _ _ (b+2) 33 (chCells ⟨6,⟨0,0⟩,⟨0,0,0,false,0,0⟩,chEdge g x,pk x.d 6,[],[]⟩ (.slice none 0 0) (.slice none 0 0)) (0,0) _ rfl (setRow_heap _ _ _ _ _ _ hrF.out) Tryz.underlying33 rfl (size33' _ _ _)) rfl ?_;exact⟨_,rfl,by rw[hk.out];exact⟨_,_,rfl,ownI_nil _ _,ownI_nil _ _⟩,hBf.out⟩
   ·have hk:Hid (chK g x 7=⟨7,⟨0,0⟩,⟨0,0,0,false,0,0⟩,chId g x,chOther g x,[],[]⟩):=rfl;have hf:=Hd ((hS2.out.set 9 (.int .i64 (chId g x))).set 10 (.int .i64 (chOther g x)));have hcf:=hf.out.cbox;simp only[chCells,List.setIfInBounds_toArray,List.set_cons_succ,List.set_cons_zero]at hcf;have hcF:=Hd hcf;have hrF:=Hd hf.out.res;have hBf:=Hd (hf.out.fin hbh.out (chCells ⟨7,⟨0,0⟩,⟨0,0,0,false,0,0⟩,chId g x,chOther g x,[],[]⟩ (.slice none 0 0) (.slice none 0 0)));clear hcf hf hS2
    go_wp2_with (first
     | (refine wpList_load_row rfl 33 (.tmp 5) rfl (b+3) rfl 33 (chCells ⟨7,⟨0,0⟩,⟨0,0,0,false,0,0⟩,chId g x,chOther g x,[],[]⟩ (.slice none 0 0) (.slice none 0 0)) (0,0) _ hcF.out Tryz.underlying33 rfl (size33' _ _ _) ?_)
     | (refine wpList_store_row rfl 33 (.tmp 4) (.tmp 246) rfl (b+2) (chCells ⟨7,⟨0,0⟩,⟨0,0,0,false,0,0⟩,chId g x,chOther g x,[],[]⟩ (.slice none 0 0) (.slice none 0 0)) rfl rfl 33 _ hrF.out (size33' _ _ _) rfl (one33 _ _ _ _ _ _ _) ?_))
    refine bodyPost_ret (v:=_) (results_cell_row (fn:=Tryz.f14) rfl _ _ (b+2) 33 (chCells ⟨7,⟨0,0⟩,⟨0,0,0,false,0,0⟩,chId g x,chOther g x,[],[]⟩ (.slice none 0 0) (.slice none 0 0)) (0,0) _ rfl (setRow_heap _ _ _ _ _ _ hrF.out) Tryz.underlying33 rfl (size33' _ _ _)) rfl ?_;exact⟨_,rfl,by rw[hk.out];exact⟨_,_,rfl,ownI_nil _ _,ownI_nil _ _⟩,hBf.out⟩
   ·have hk:Hid (chK g x 8=⟨8,⟨chFree g x,pk x.e 4⟩,⟨0,0,0,false,0,0⟩,chId g x,0,chEnds g.es (chId g x) x.e 80,[]⟩):=rfl;have hst0:=((hS2.out.set 9 (.int .i64 (chId g x))).set 1 (.int .i64 (chFree g x))).set 2 (.int .i64 (pk x.e 4));have hst:=Hd (show ChS w b (.slice a1 n1 a2) (.slice b1 n2 b2) (.slice c1 n3 c2) x (chCells ⟨8,⟨chFree g x,pk x.e 4⟩,⟨0,0,0,false,0,0⟩,chId g x,0,[],[]⟩ (.slice none 0 0) (.slice none 0 0)) _ from hst0);clear hst0 hS2;generalize chFree g x=FF at *
    generalize pk x.e 4=P4 at *
    generalize chId g x=ID at *
    go_wp2_with fail;with_reducible refine(pe4.out _).mono ?_
    rintro e w1 ⟨rfl,rfl⟩;go_wp2_with fail;clear x0 x1 x2 x3 x4 x5 d0 d1 d2 d3 d4 d5 d6 d7 d8 d9 dA dB dC fr9 frA fr1 fr2
    go_loopw [11] (fun i wr=>∃(k:Nat) (e1:Option Addr) (e2 e3:Nat),k<=80/\i= .int .i64 k/\Hid (ChS w b (.slice a1 n1 a2) (.slice b1 n2 b2) (.slice c1 n3 c2) x (chCells ⟨8,⟨FF,P4⟩,⟨0,0,0,false,0,0⟩,ID,0,[],[]⟩ (.slice e1 e2 e3) (.slice none 0 0)) wr)/\Hid (OwnI wr (b+4) (.slice e1 e2 e3) (chEnds g.es ID x.e k))) (fun i _=>80-(intOf i).toNat)
    case atStart=>exact⟨0,none,0,0,by omega,rfl,hst.out,World.ownsRow_nil _ _ _ _⟩
    case round =>
     clear hst;obtain⟨k,e1,e2,e3,hk8,rfl,hS,hO⟩:=hrel;have i0:(0:Int)<=(k:Int):=by omega
     by_cases hlt:k<80
     ·have i1:(k:Int)<80:=by omega
      obtain⟨bp,hbp⟩:∃bp,Hid (bp=chEndP g.es ID x.e k):=⟨_,rfl⟩;have hsc:=Hd (chEnds_succ g.es ID x.e k);have hel:=chEnds_len g.es ID x.e k;rw[<-hbp.out]at hsc;go_upto_region 40 with(fail)
      go_cut [198]from 181 to 204 (fun s198 wx=>s198= .bool bp/\ChS w b (.slice a1 n1 a2) (.slice b1 n2 b2) (.slice c1 n3 c2) x (chCells ⟨8,⟨FF,P4⟩,⟨0,0,0,false,0,0⟩,ID,0,[],[]⟩ (.slice e1 e2 e3) (.slice none 0 0)) wx/\OwnI wx (b+4) (.slice e1 e2 e3) (chEnds g.es ID x.e k))
      case first =>
       have hen:=Hd (EndR_any (.agg #[.slice a1 n1 a2,.slice b1 n2 b2,.slice c1 n3 c2]) g (k:Int) wr (hGV.out wr hS.out.below) (by rw[<-hn2.out];omega) (by omega) (by omega));have htb:=tdivB0 hx4 (1+(k:Int)) (by omega);have ppk:=Hd (fun W=>pickR_any (x.e.tdiv (1+(k:Int))) 2 W (by omega) (by omega) (by omega) (by omega));have hbq:Hid (bp=(decide (endV g.es (k:Int)=ID)&&(pk (x.e.tdiv (1+(k:Int))) 2==1))):=hbp.out;have w1:IntKind.i64.wrap (1+(k:Int))=1+(k:Int):=IntWalk.i64_in _ (by omega);have w2:IntKind.i64.wrap (x.e.tdiv (1+(k:Int)))=x.e.tdiv (1+(k:Int)):=IntWalk.i64_in _ (by omega);have w3:((1+(k:Int))==0)=false:=by rw[beq_eq_false_iff_ne];omega
       have w4:¬(1+(k:Int))=0:=by omega
       generalize pk (x.e.tdiv (1+(k:Int))) 2=PK at *
       generalize endV g.es (k:Int)=EV at *
       obtain⟨g0,g1,g2⟩:=hS.out.g;by_cases hev:EV=ID
       ·have t1:(EV==ID)=true:=by simpa using hev
        rw[show decide (EV=ID)=true from decide_eq_true hev,Bool.true_and]at hbq;clear hev;go_wp2_with fail;with_reducible refine hen.out.mono ?_
        rintro e w2 ⟨rfl,b2⟩;have hS3:=Hd (hS.out.to b2);have hO3:=Hd (own_below (show wr.ownsRow _ _ _ _ _ _ from hO.out) b2);clear g0 g1 g2;obtain⟨x0,x1,x2,x3,x4,x5⟩:=hS3.out.xs;go_wp2_with fail;with_reducible refine(ppk.out _).mono ?_
        rintro e w1 ⟨rfl,rfl⟩;go_wp2_with fail
        go_meet
        case rel=>exact⟨by rw[hbq.out],hS3.out,hO3.out⟩
       ·have t1:(EV==ID)=false:=by simpa using hev
        rw[show decide (EV=ID)=false from decide_eq_false hev,Bool.false_and]at hbq;clear hev;go_wp2_with fail;with_reducible refine hen.out.mono ?_
        rintro e w2 ⟨rfl,b2⟩;have hS3:=Hd (hS.out.to b2);have hO3:=Hd (own_below (show wr.ownsRow _ _ _ _ _ _ from hO.out) b2);go_wp2_with fail
        go_meet
        case rel=>exact⟨by rw[hbq.out],hS3.out,hO3.out⟩
      case rest =>
      clear hS hO;obtain⟨rfl,hSx,hOx⟩:=hcut;obtain⟨wr,rfl⟩:∃wr',wr'=wc:=⟨_,rfl⟩;have hS:=Hd hSx;have hO:=Hd hOx;clear hSx hOx hbp;cases bp with
      | true =>
       rw[if_pos rfl]at hsc;obtain⟨z1,z2,z3,w',hr,h3,h4,h5,_⟩:=hS.out.add 11 _ _ hO.out (k:Int) (by omega);have c8:=(ch_cells h3.cbox).2.2.2.2.2.2.2.2.2.2.2.1;have f8:=free_of_block (i:=11) h3.cbox;have c7:=(ch_cells hS.out.cbox).2.2.2.2.2.2.2.2.2.2.2.1;have hend:=Hd h4;have hendO:=Hd h5;clear h3 h4 h5 hS hO
       go_wp2_with (at_builtin;refine wpList_append_runB rfl (.tmp 200) (.tmp 202) 24 rfl (.slice e1 e2 e3) (.slice (some ⟨wr.heap.size,0,none⟩) 1 1) rfl rfl _ _ hr ?_)
       go_roundw
       case rel=>exact⟨k+1,_,_,_,by omega,by go_num,hend.out,by show OwnI _ _ _ _;rw[hsc.out];exact hendO.out⟩
       case measure=>simp[intOf];omega
      | false =>
       rw[if_neg (by simp)]at hsc;go_wp2_with fail
       go_roundw
       case rel=>exact⟨k+1,_,_,_,by omega,by go_num,hS.out,by show OwnI _ _ _ _;rw[hsc.out];exact hO.out⟩
       case measure=>simp[intOf];omega
     ·have hk80:k=80:=by omega
      subst hk80;have i1:¬((80:Nat):Int)<80:=by omega
      have hcF:=Hd hS.out.cbox;have hrF:=Hd hS.out.res;have hBf:=Hd (hS.out.fin hbh.out (chCells ⟨8,⟨FF,P4⟩,⟨0,0,0,false,0,0⟩,ID,0,[],[]⟩ (.slice e1 e2 e3) (.slice none 0 0)));have hOw:=Hd (own_low (own_setRowB (cs:=(chCells ⟨8,⟨FF,P4⟩,⟨0,0,0,false,0,0⟩,ID,0,[],[]⟩ (.slice e1 e2 e3) (.slice none 0 0))) hO.out (show b+2<b+4 by omega)) (show w.heap.size<=b+4 by rw[hbh.out];omega));clear hS hO hlt
      go_wp2_with (first
       | (refine wpList_load_row rfl 33 (.tmp 5) rfl (b+3) rfl 33 (chCells ⟨8,⟨FF,P4⟩,⟨0,0,0,false,0,0⟩,ID,0,[],[]⟩ (.slice e1 e2 e3) (.slice none 0 0)) (0,0) _ hcF.out Tryz.underlying33 rfl (size33' _ _ _) ?_)
       | (refine wpList_store_row rfl 33 (.tmp 4) (.tmp 246) rfl (b+2) (chCells ⟨8,⟨FF,P4⟩,⟨0,0,0,false,0,0⟩,ID,0,[],[]⟩ (.slice e1 e2 e3) (.slice none 0 0)) rfl rfl 33 _ hrF.out (size33' _ _ _) rfl (one33 _ _ _ _ _ _ _) ?_))
      refine bodyPost_ret (v:=_) (results_cell_row (fn:=Tryz.f14) rfl _ _ (b+2) 33 (chCells ⟨8,⟨FF,P4⟩,⟨0,0,0,false,0,0⟩,ID,0,[],[]⟩ (.slice e1 e2 e3) (.slice none 0 0)) (0,0) _ rfl (setRow_heap _ _ _ _ _ _ hrF.out) Tryz.underlying33 rfl (size33' _ _ _)) rfl ?_;exact⟨_,rfl,by rw[hk.out];exact⟨_,_,rfl,hOw.out,ownI_nil _ _⟩,hBf.out⟩
   ·have hk:Hid (chK g x 9=⟨9,⟨0,0⟩,⟨0,0,0,false,0,0⟩,chId g x,pk x.d 4,[],[]⟩):=rfl;have hf:=Hd ((hS2.out.set 9 (.int .i64 (chId g x))).set 10 (.int .i64 (pk x.d 4)));have hcf:=hf.out.cbox;simp only[chCells,List.setIfInBounds_toArray,List.set_cons_succ,List.set_cons_zero]at hcf;have hcF:=Hd hcf;have hrF:=Hd hf.out.res;have hBf:=Hd (hf.out.fin hbh.out (chCells ⟨9,⟨0,0⟩,⟨0,0,0,false,0,0⟩,chId g x,pk x.d 4,[],[]⟩ (.slice none 0 0) (.slice none 0 0)));clear hcf hf hS2;go_wp2_with fail;with_reducible refine(pd4.out _).mono ?_
    rintro e w1 ⟨rfl,rfl⟩
    go_wp2_with (first
     | (refine wpList_load_row rfl 33 (.tmp 5) rfl (b+3) rfl 33 (chCells ⟨9,⟨0,0⟩,⟨0,0,0,false,0,0⟩,chId g x,pk x.d 4,[],[]⟩ (.slice none 0 0) (.slice none 0 0)) (0,0) _ hcF.out Tryz.underlying33 rfl (size33' _ _ _) ?_)
     | (refine wpList_store_row rfl 33 (.tmp 4) (.tmp 246) rfl (b+2) (chCells ⟨9,⟨0,0⟩,⟨0,0,0,false,0,0⟩,chId g x,pk x.d 4,[],[]⟩ (.slice none 0 0) (.slice none 0 0)) rfl rfl 33 _ hrF.out (size33' _ _ _) rfl (one33 _ _ _ _ _ _ _) ?_))
    refine bodyPost_ret (v:=_) (results_cell_row (fn:=Tryz.f14) rfl _ _ (b+2) 33 (chCells ⟨9,⟨0,0⟩,⟨0,0,0,false,0,0⟩,chId g x,pk x.d 4,[],[]⟩ (.slice none 0 0) (.slice none 0 0)) (0,0) _ rfl (setRow_heap _ _ _ _ _ _ hrF.out) Tryz.underlying33 rfl (size33' _ _ _)) rfl ?_;exact⟨_,rfl,by rw[hk.out];exact⟨_,_,rfl,ownI_nil _ _,ownI_nil _ _⟩,hBf.out⟩
   ·have hk:Hid (chK g x 10=⟨10,⟨0,0⟩,⟨0,0,0,false,0,0⟩,0,0,[],chDeps (keysV g.vs) x.d (chDepN (keysV g.vs) x.d g.vs.length 0)⟩):=rfl;have hst:=Hd (show ChS w b (.slice a1 n1 a2) (.slice b1 n2 b2) (.slice c1 n3 c2) x (chCells ⟨10,⟨0,0⟩,⟨0,0,0,false,0,0⟩,0,0,[],[]⟩ (.slice none 0 0) (.slice none 0 0)) wr from hS2.out);have hkl:Hid ((keysV g.vs).length=n1):=by show _=_;rw[hn1.out];simp[keysV]
    rw[<-hn1.out]at hk;obtain⟨DN,hDN⟩:∃DN,Hid (DN=chDepN (keysV g.vs) x.d n1 0):=⟨_,rfl⟩;rw[<-hDN.out]at hk;clear hS2;go_wp2_with fail;clear x0 x1 x2 x3 x4 x5 d0 d1 d2 d3 d4 d5 d6 d7 d8 d9 dA dB dC fr9 frA fr1 fr2
    go_loopw [12] (fun i wr=>∃(k:Nat) (e1:Option Addr) (e2 e3:Nat),k<=n1/\i= .int .i64 k/\Hid (ChS w b (.slice a1 n1 a2) (.slice b1 n2 b2) (.slice c1 n3 c2) x (chCells ⟨10,⟨0,0⟩,⟨0,0,0,false,0,0⟩,0,0,[],[]⟩ (.slice none 0 0) (.slice e1 e2 e3)) wr)/\Hid (OwnI wr (b+4) (.slice e1 e2 e3) (chDeps (keysV g.vs) x.d k))/\Hid (DN=chDepN (keysV g.vs) x.d (n1-k) k)) (fun i _=>n1-(intOf i).toNat)
    case atStart=>exact⟨0,none,0,0,by omega,rfl,hst.out,World.ownsRow_nil _ _ _ _,by show _=_;rw[hDN.out];rfl⟩
    case round =>
     clear hst hDN;obtain⟨k,e1,e2,e3,hk10,rfl,hS,hO,hDN⟩:=hrel;have i0:(0:Int)<=(k:Int):=by omega
     have he2:e2=(chDeps (keysV g.vs) x.d k).length:=by obtain⟨_,_,he⟩:=hO.out.DL.shape;injection he
     have hdl:=chDeps_len (keysV g.vs) x.d k;obtain⟨g0,g1,g2⟩:=hS.out.g;obtain⟨x0,x1,x2,x3,x4,x5⟩:=hS.out.xs;have c7:=(ch_cells hS.out.cbox).2.2.2.2.2.2.2.2.2.2.2.2;by_cases hgo:k<n1/\e2<3
     ·obtain⟨hlt,hlt2⟩:=hgo;have i1:(k:Int)<(n1:Int):=by omega
      have i2:(e2:Int)<3:=by omega
      have hst3:Hid (DN=chDepN (keysV g.vs) x.d (n1-(k+1)) (k+1)):=by
       show _=_;rw[hDN.out,show n1-k=(n1-(k+1))+1 by omega];exact chDepN_step _ _ _ _ (by rw[hkl.out];exact hlt) (by rw[<-he2];exact hlt2)
      have htb:=tdivB0 hx3 (1+(k:Int)) (by omega);have ppk:=Hd (fun W=>pickR_any (x.d.tdiv (1+(k:Int))) 3 W (by omega) (by omega) (by omega) (by omega));have hsc0:chDeps (keysV g.vs) x.d (k+1)=if(pk (x.d.tdiv (1+(k:Int))) 3==1)=true then chDeps (keysV g.vs) x.d k++[(keysV g.vs).getD k 0]else chDeps (keysV g.vs) x.d k:=rfl
      have w1:IntKind.i64.wrap (1+(k:Int))=1+(k:Int):=IntWalk.i64_in _ (by omega);have w2:IntKind.i64.wrap (x.d.tdiv (1+(k:Int)))=x.d.tdiv (1+(k:Int)):=IntWalk.i64_in _ (by omega);have w3:((1+(k:Int))==0)=false:=by rw[beq_eq_false_iff_ne];omega
      have w4:¬(1+(k:Int))=0:=by omega
      generalize pk (x.d.tdiv (1+(k:Int))) 3=PK at *
      by_cases hp:PK=1
      ·have t1:(PK==1)=true:=by simpa using hp
       rw[t1,if_pos rfl]at hsc0;have hsc:=Hd hsc0;have hkv:k<g.vs.length:=by rw[<-hn1.out];exact hlt
       obtain⟨vg,vo,vcap,he,_,h2,h3⟩:=(hVV.out wr hS.out.below).own (fun e=>by rw[e]at hkv;simp at hkv);injection he with he1 he2' he3
       replace he3:=he3.symm;subst he1;subst he3;clear he2';have v1:=(h3 k _ (List.getElem?_eq_getElem hkv)).1;rw[key_at _ _ hkv]at hsc;generalize g.vs[k].id=ik at *
       have hvg:vg<wr.drew.heap.size:=h2;have hck:Hid (wr.drew.cell? ⟨vg,vo+k*2,none⟩=some (.int .i64 ik)):=v1;have hadd:=Hd (hS.out.drew.add 12 (.slice e1 e2 e3) _ (show OwnI wr.drew _ _ _ from hO.out) ik (by omega));have hvd:(Value.slice e1 e2 e3).ownBlock≠some vg:=fun q=>by
        obtain⟨hq1,cur,hq2⟩:=own_row hO.out vg q;have:=hvb0.out vg rfl (fun e=>by rw[e]at hkv;simp at hkv);omega
       have sK:=Hd (show ∀W,Below wr.heap.size wr W->W.cell? ⟨b+3,12,none⟩=some (.slice e1 e2 e3)/\W.cell? ⟨b,0,none⟩=some (.slice (some ⟨vg,vo,none⟩) n1 vcap)/\W.cell? ⟨vg,vo+k*2,none⟩=some (.int .i64 ik)from fun W BW=>⟨(ch_cells (hS.out.to BW).cbox).2.2.2.2.2.2.2.2.2.2.2.2,(hS.out.to BW).g.1,by rw[BW.cell (by simpa using h2)];exact v1⟩);have hS0:=Hd (sK.out wr.drew (Below.refl _ _).drew);clear h2 h3 v1 hp he2 hsc0;go_wp2_with fail;with_reducible refine(ppk.out _).mono ?_
       rintro e w1 ⟨rfl,rfl⟩;go_wp2_with fail;refine wp_region_F (fun w':World=>w'.cell? ⟨b+3,12,none⟩=some (.slice e1 e2 e3)/\w'.cell? ⟨b,0,none⟩=some (.slice (some ⟨vg,vo,none⟩) n1 vcap)/\w'.cell? ⟨vg,vo+k*2,none⟩=some (.int .i64 ik)) 11 (by kernel_rfl) hS0.out (fun hHeld=>?_);refine tkP 0 rfl ?_;refine tkP 1 rfl ?_;refine tkP 2 rfl ?_;refine tkP 3 rfl ?_;refine tkP 4 rfl ?_;refine tkP 5 rfl ?_;refine tkP 6 rfl ?_;refine tkP 7 rfl ?_;refine rdy [8] ?_;refine arC rfl (fun K hK=>?_) ?_
       ·skip
        go_simp;go_wp2_with fail;refine hK.out _ _ ?_ (fun hHeld=>?_)
        ·exact sK.out _ ((Below.refl _ wr).drew.alloc (Nat.le_refl _) _)
        clear hK K;try simp only[Act.put,zT,z0,zS]
        refine rdy [9] ?_;refine arC rfl (fun K hK=>?_) ?_
        ·skip
         obtain⟨z1,z2,z3,w',hr,h3,h4,h5,hkp⟩:=hadd.out;have hwe:=(World.cell?_of_block (w:=wr.drew) (hkp vg hvg hvd)).trans hck.out;clear hkp;have f8:=free_of_block (i:=12) h3.cbox;have c8:=(ch_cells h3.cbox).2.2.2.2.2.2.2.2.2.2.2.2;have g8:=h3.g.1;refine wp_append_run (.tmp 236) (.tmp 243) 24 rfl (.slice e1 e2 e3) (.slice (some ⟨wr.heap.size,0,none⟩) 1 1) rfl rfl _ _ hr ?_;refine hK.out _ _ ?_ (fun hHeld=>?_)
         ·exact⟨c8,g8,hwe⟩
         clear hK K;try simp only[Act.put,zT,z0,zS]
         refine tkP 10 rfl ?_;refine rdy [11] ?_;refine AllReadyF.last (o:=⟨none,.store 24 (.tmp 245) (.tmp 244),_,_,_,none⟩) rfl (fun K hK=>?_) ?_
         ·skip
          go_simp;go_wp2_with fail;refine hK.out _ _ ?_;clear hK K;try simp only[Act.put,zT,z0,zS]
          refine wpAnyF_done (by kernel_rfl) ?_ _;have hend:=Hd h4;have hendO:=Hd h5;clear h3 h4 h5 hwe f8 c8 g8 hr;go_wp2_with fail
          go_roundw
          case rel=>exact⟨k+1,_,_,_,by omega,by go_num,hend.out,by show OwnI _ _ _ _;rw[hsc.out];exact hendO.out,hst3.out⟩
          case measure=>simp[intOf];omega
         exact AllReadyF.nil
        exact AllReadyF.nil
       exact AllReadyF.nil
      ·have t1:(PK==1)=false:=by simpa using hp
       rw[t1,if_neg (by simp)]at hsc0;have hsc:=Hd hsc0;clear he2 hsc0 hp;go_wp2_with fail;with_reducible refine(ppk.out _).mono ?_
       rintro e w1 ⟨rfl,rfl⟩;go_wp2_with fail
       go_roundw
       case rel=>exact⟨k+1,_,_,_,by omega,by go_num,hS.out,by show OwnI _ _ _ _;rw[hsc.out];exact hO.out,hst3.out⟩
       case measure=>simp[intOf];omega
     ·have hend2:DN=k:=by
       rw[hDN.out];refine chDepN_eq _ _ n1 hkl.out.symm _ _ (by omega) ?_;by_cases h1:k<n1
       ·right;rw[<-he2];omega
       ·left;omega
      rw[hend2]at hk;clear hDN;by_cases h1:k<n1
      ·have i1:(k:Int)<(n1:Int):=by omega
       have i2:¬(e2:Int)<3:=by omega
       have hcF:=Hd hS.out.cbox;have hrF:=Hd hS.out.res;have hBf:=Hd (hS.out.fin hbh.out (chCells ⟨10,⟨0,0⟩,⟨0,0,0,false,0,0⟩,0,0,[],[]⟩ (.slice none 0 0) (.slice e1 e2 e3)));have hOw:=Hd (own_low (own_setRowB (cs:=(chCells ⟨10,⟨0,0⟩,⟨0,0,0,false,0,0⟩,0,0,[],[]⟩ (.slice none 0 0) (.slice e1 e2 e3))) hO.out (show b+2<b+4 by omega)) (show w.heap.size<=b+4 by rw[hbh.out];omega));clear hS hO hgo he2 hend2
       go_wp2_with (first
        | (refine wpList_load_row rfl 33 (.tmp 5) rfl (b+3) rfl 33 (chCells ⟨10,⟨0,0⟩,⟨0,0,0,false,0,0⟩,0,0,[],[]⟩ (.slice none 0 0) (.slice e1 e2 e3)) (0,0) _ hcF.out Tryz.underlying33 rfl (size33' _ _ _) ?_)
        | (refine wpList_store_row rfl 33 (.tmp 4) (.tmp 246) rfl (b+2) (chCells ⟨10,⟨0,0⟩,⟨0,0,0,false,0,0⟩,0,0,[],[]⟩ (.slice none 0 0) (.slice e1 e2 e3)) rfl rfl 33 _ hrF.out (size33' _ _ _) rfl (one33 _ _ _ _ _ _ _) ?_))
       refine bodyPost_ret (v:=_) (results_cell_row (fn:=Tryz.f14) rfl _ _ (b+2) 33 (chCells ⟨10,⟨0,0⟩,⟨0,0,0,false,0,0⟩,0,0,[],[]⟩ (.slice none 0 0) (.slice e1 e2 e3)) (0,0) _ rfl (setRow_heap _ _ _ _ _ _ hrF.out) Tryz.underlying33 rfl (size33' _ _ _)) rfl ?_;exact⟨_,rfl,by rw[hk.out];exact⟨_,_,rfl,ownI_nil _ _,hOw.out⟩,hBf.out⟩
      ·have i1:¬(k:Int)<(n1:Int):=by omega
       have hcF:=Hd hS.out.cbox;have hrF:=Hd hS.out.res;have hBf:=Hd (hS.out.fin hbh.out (chCells ⟨10,⟨0,0⟩,⟨0,0,0,false,0,0⟩,0,0,[],[]⟩ (.slice none 0 0) (.slice e1 e2 e3)));have hOw:=Hd (own_low (own_setRowB (cs:=(chCells ⟨10,⟨0,0⟩,⟨0,0,0,false,0,0⟩,0,0,[],[]⟩ (.slice none 0 0) (.slice e1 e2 e3))) hO.out (show b+2<b+4 by omega)) (show w.heap.size<=b+4 by rw[hbh.out];omega));clear hS hO hgo he2 hend2
       go_wp2_with (first
        | (refine wpList_load_row rfl 33 (.tmp 5) rfl (b+3) rfl 33 (chCells ⟨10,⟨0,0⟩,⟨0,0,0,false,0,0⟩,0,0,[],[]⟩ (.slice none 0 0) (.slice e1 e2 e3)) (0,0) _ hcF.out Tryz.underlying33 rfl (size33' _ _ _) ?_)
        | (refine wpList_store_row rfl 33 (.tmp 4) (.tmp 246) rfl (b+2) (chCells ⟨10,⟨0,0⟩,⟨0,0,0,false,0,0⟩,0,0,[],[]⟩ (.slice none 0 0) (.slice e1 e2 e3)) rfl rfl 33 _ hrF.out (size33' _ _ _) rfl (one33 _ _ _ _ _ _ _) ?_))
       refine bodyPost_ret (v:=_) (results_cell_row (fn:=Tryz.f14) rfl _ _ (b+2) 33 (chCells ⟨10,⟨0,0⟩,⟨0,0,0,false,0,0⟩,0,0,[],[]⟩ (.slice none 0 0) (.slice e1 e2 e3)) (0,0) _ rfl (setRow_heap _ _ _ _ _ _ hrF.out) Tryz.underlying33 rfl (size33' _ _ _)) rfl ?_;exact⟨_,rfl,by rw[hk.out];exact⟨_,_,rfl,ownI_nil _ _,hOw.out⟩,hBf.out⟩
end Go.Proofs.YtlaldnlgapeckaaGreat
