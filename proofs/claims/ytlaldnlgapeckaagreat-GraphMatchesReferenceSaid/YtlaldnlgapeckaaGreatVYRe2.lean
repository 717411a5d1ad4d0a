/- Facts. -/
import Derived.Test.YtlaldnlgapeckaaGreatVYRs
set_option maxRecDepth 100000
set_option maxHeartbeats 4000000
set_option linter.unusedSimpArgs false
namespace Go.Proofs.YtlaldnlgapeckaaGreat
open Go.RowKit
theorem EL.tail{W:World}{b o n c i:Nat}{l:List Ed}(h:EL W (.slice (some ⟨b,o,none⟩) n c) l)(hn:n=l.length)(hi:i<=n):EL W (.slice (some ⟨b,o+i*6,none⟩) (n-i) (c-i)) (l.drop i):=by
 rcases h with⟨rfl,_⟩|⟨h0,b',o',c',e,h2,h3,h4⟩
 ·exact .inl ⟨by simp,some ⟨b,o+i*6,none⟩,c-i,by rw[hn];simp⟩
 ·injection e with e1 e2 e3
  injection e1 with e1
  injection e1 with e1 e4 _
  subst e1 e4 e3;by_cases hd:l.drop i=[]
  ·have:l.length<=i:=List.drop_eq_nil_iff.1 hd;exact .inl ⟨hd,_,_,by rw[show n-i=0 by omega]⟩
  ·refine .inr ⟨hd,_,_,_,by rw[List.length_drop,hn],by rw[List.length_drop];omega,h3,fun j x hx=>?_⟩;rw[List.getElem?_drop]at hx;have:=h4 (i+j) x hx;rw[show o+i*6+j*6=o+(i+j)*6 by omega];exact this
theorem EL.tail'{W:World}{bo:Option Addr}{n c i:Nat}{l:List Ed}(h:EL W (.slice bo n c) l)(hn:n=l.length)(hi:i<=n):∃bo',sliced bo i n c 6= .slice bo' (n-i) (c-i)/\EL W (.slice bo' (n-i) (c-i)) (l.drop i):=by
 refine⟨_,rfl,?_⟩;by_cases hd:l.drop i=[]
 ·have:l.length<=i:=List.drop_eq_nil_iff.1 hd;exact .inl ⟨hd,_,_,by rw[show n-i=0 by omega]⟩
 ·have hlt:i<l.length:=by
   apply Classical.byContradiction;intro h2;exact hd (List.drop_eq_nil_iff.2 (by omega))
  obtain⟨b,o,c',e,h2,h3,h4⟩:=h.own (fun e=>by rw[e]at hlt;simp at hlt);injection e with e1 e2 e3
  subst e1 e3;have ht:=EL.tail (i:=i) (show EL W (.slice (some ⟨b,o,none⟩) n c) l from h) hn hi;rw[if_neg (by omega)];rw[Option.map_some,Addr.add_lit];exact ht
theorem EL.take'{W:World}{bo:Option Addr}{n c i:Nat}{l:List Ed}(h:EL W (.slice bo n c) l)(hi:i<=l.length):EL W (.slice bo i i) (l.take i):=by
 by_cases hd:l.take i=[]
 ·have:i=0:=by
   have:=congrArg List.length hd;rw[List.length_take,List.length_nil]at this;omega
  exact .inl ⟨hd,_,_,by rw[this]⟩
 ·have hne:l≠[]:=fun e=>hd (by rw[e];simp);obtain⟨b,o,c',e,h2,h3,h4⟩:=h.own hne;injection e with e1 e2 e3
  subst e1;have hti:(l.take i).length=i:=by rw[List.length_take];omega
  refine .inr ⟨hd,b,o,i,by rw[hti],by rw[hti];exact Nat.le_refl _,h3,fun j x hx=>?_⟩;have hj:j<i:=by
   have:=(List.getElem?_eq_some_iff.1 hx).1;rw[hti]at this;exact this
  rw[List.getElem?_take_of_lt hj]at hx;exact h4 j x hx
theorem EL.cells{W:World}{bo:Option Addr}{n c:Nat}{l:List Ed}(h:EL W (.slice bo n c) l):∀b,bo=some b-> ∀j u,(cEd l)[j]?=some u->W.cell? (b.add j)=some u:=fun b hb=>by
 rcases h with⟨rfl,_⟩|⟨_,b',o',c',e,_,_,h4⟩
 ·simp[cEd]
 ·injection e with e _ _
  rw[e]at hb;injection hb with hb
  subst hb;exact lieE_cells h4
theorem EL.none_nil{W:World}{bo:Option Addr}{n c:Nat}{l:List Ed}(h:EL W (.slice bo n c) l):bo=none->l.length=0:=fun hb=>by
 rcases h with⟨rfl,_⟩|⟨_,b',o',c',e,_⟩
 ·rfl
 ·injection e with e _ _
  rw[hb]at e;cases e
theorem app_Eo(W:World)(bo:Option Addr)(n:Nat)(l m:List Ed)(h1:EL W (.slice bo n n) l)(hn:n=l.length)(src:Value)(h2:EL W src m)(hl:l.length<=500000)(hm:m.length<=500000):
  ∃v' W',(Builtin.append_ #[23,23] 23 #[.slice bo n n,src]).run Tryz.prog W= .ok v' W'/\EL W' v' (l++m)/\(∀j,v'.ownBlock=some j->(m=[]/\v'= .slice bo n n)\/W.heap.size<=j)/\Below W.heap.size W W':=by
 obtain⟨i0,hi2,hz0,hz1,hz2⟩:=info_parts info31;obtain⟨a,c',rfl⟩:=h2.shape;rcases app_opt 23 31 i0 _ 6 48 Tryz.underlying23 hi2 hz0 hz1 hz2 rfl (by omega) (by omega) W bo n (fun e=>by rw[hn];exact h1.none_nil e) (cEd l) (by rw[cEd_len,hn]) h1.cells a m.length c' (cEd m) (cEd_len m) h2.cells h2.none_nil (cEd_one m) (by omega)with⟨h0,hr⟩|⟨h0,v',W',hr,ho,hbl⟩
 ·have:m=[]:=List.length_eq_zero_iff.1 h0;subst this;exact⟨_,_,hr,by rw[List.append_nil];exact h1,fun j _=> .inl ⟨rfl,rfl⟩,Below.refl _ _⟩
 ·refine⟨v',W',hr,?_,fun k hk=> .inr (own_row ho k hk).1,hbl⟩;rw[<-cEd_append,hn]at ho;have:OwnEd W' W.heap.size v' (l++m):=by unfold OwnEd;rw[List.length_append];exact ho
  exact this.EL
theorem ins_atE(l:List Ed)(v:Ed)(h:Asc (keysE l))(k:Nat)(hk:k<=l.length)(h1:∀j (hj:j<l.length),j<k->l[j].id<v.id)(h2:k=l.length\/ ∃hk:k<l.length,¬l[k].id<v.id):insE l v=l.take k++v::l.drop k:=by
 have e1:∀j (h:j<l.length),(keysE l)[j]'(by simpa[keysE]using h)=l[j].id:=fun j h=>by simp[keysE]
 have hl:(keysE l).length=l.length:=by simp[keysE]
 have:posK (keysE l) v.id=k:=by
  refine posK_eq _ _ k (by omega) (fun j hj hjk=>?_) (fun j hj hjk=>?_)
  ·rw[e1 j (by omega)];exact h1 j (by omega) hjk
  ·rw[e1 j (by omega)];rcases h2 with h2|⟨hk2,h2⟩
   ·omega
   ·rcases Nat.eq_or_lt_of_le hjk with rfl|hlt
    ·exact h2
    ·have:=List.pairwise_iff_getElem.1 h k j (by omega) hj hlt;rw[e1 k hk2,e1 j (by omega)]at this;omega
 rw[insE_eq l v h,this]
theorem pos_delE(l:List Ed)(x:Int)(h:Asc (keysE l))(p:Nat)(hp:p<l.length)(hx:l[p].id=x):l.take p++l.drop (p+1)=delE l x:=by
 have hm:x∈keysE l:=mem_keysE.2 ⟨_,List.getElem_mem hp,hx⟩;obtain⟨hq,hqx⟩:=posE_lt l x h hm;have:posK (keysE l) x=p:=by
  apply Classical.byContradiction;intro hne;have hh:=List.pairwise_iff_getElem.1 h;have e1:∀j (h:j<l.length),(keysE l)[j]'(by simpa[keysE]using h)=l[j].id:=fun j h=>by simp[keysE]
  rcases Nat.lt_or_gt_of_ne hne with hlt|hlt
  ·have:=hh _ _ (by simpa[keysE]using hq) (by simpa[keysE]using hp) hlt;rw[e1 _ hq,e1 _ hp]at this;omega
  ·have:=hh _ _ (by simpa[keysE]using hp) (by simpa[keysE]using hq) hlt;rw[e1 _ hp,e1 _ hq]at this;omega
 rw[delE_eq l x h hm,this]
theorem EL.keepB{W W':World}{v:Value}{l:List Ed}(h:EL W v l)(hk:∀k,v.ownBlock=some k->k<W.heap.size->W'.heap[k]?=W.heap[k]?)(hs:W.heap.size<=W'.heap.size):EL W' v l:=by
 rcases h with h|⟨h0,b,o,c,rfl,h2,h3,h4⟩
 ·exact .inl h
 ·have hb:=hk b rfl h3;refine .inr ⟨h0,b,o,c,rfl,h2,Nat.lt_of_lt_of_le h3 hs,fun j x hx=>?_⟩;obtain⟨d0,d1,d2,d3,d4,d5⟩:=h4 j x hx;exact⟨by rw[keep_cell hb];exact d0,by rw[keep_cell hb];exact d1,by rw[keep_cell hb];exact d2,by rw[keep_cell hb];exact d3,by rw[keep_cell hb];exact d4,by rw[keep_cell hb];exact d5⟩
theorem actR_4(va vb vc ca cb:Value)(g:Gr)(c:Ch)(B0:Nat)(w0:World)(h1:OwnV w0 B0 va g.vs)(h2:OwnEd w0 B0 vb g.es)(h3:OwnI w0 B0 vc g.ds)(h4:DL w0 ca c.ends)(h5:DL w0 cb c.deps)(hok:Ok g)(hB0:B0<=w0.heap.size)(hl:c.ends.length<=100000/\c.deps.length<=100000)(hk:c.kind=4):
  Calls Tryz.prog 58 #[.agg #[va,vb,vc],.agg (chCells c ca cb)] w0 (ActR g c B0 w0):=by
 obtain⟨a1,a2,rfl⟩:=h1.VL.shape;obtain⟨b1,b2,rfl⟩:=h2.EL.shape;obtain⟨c1,c2,rfl⟩:=h3.DL.shape;obtain⟨e1,e2,rfl⟩:=h4.shape;obtain⟨f1,f2,rfl⟩:=h5.shape;obtain⟨N1,hN1⟩:∃N,Hid (N=g.vs.length):=⟨_,rfl⟩;obtain⟨N2,hN2⟩:∃N,Hid (N=g.es.length):=⟨_,rfl⟩;obtain⟨N3,hN3⟩:∃N,Hid (N=g.ds.length):=⟨_,rfl⟩;obtain⟨m1,hm1⟩:∃N,Hid (N=c.ends.length):=⟨_,rfl⟩;obtain⟨m2,hm2⟩:∃N,Hid (N=c.deps.length):=⟨_,rfl⟩;have z1:=hok.vlen;have z2:=hok.elen;have z3:=hok.dlen;obtain⟨l1,l2⟩:=hl;rw[<-hN1.out]at h1 z1 ⊢;rw[<-hN2.out]at h2 z2 ⊢;rw[<-hN3.out]at h3 z3 ⊢;rw[<-hm1.out]at h4 l1 ⊢;rw[<-hm2.out]at h5 l2 ⊢;unfold chCells;rw[hk];obtain⟨B,w1,hB,hwh,hsz,hB0,hBw,hbox,hcbx,hres,hO1,hO2,hO3,hL4,hL5,hgv,hbase,hT,hR,cP,cF,hlow,hlow3⟩:=act_pre 4 h1 h2 h3 h4 h5 hN1.out hN2.out z1 z2 hB0;have hokh:=Hd hok;have hkh:=Hd hk;have hact:=Hd (show actK g c=act4 g c by unfold actK;simp[hk]);obtain⟨⟨t0,t1,t2⟩,p0,p1,p2,p3,p4,p5,p6,p7,p8,p9,pA,pB,pC⟩:=hT.out w1 (Below.refl _ _);try dsimp only at p0 p1 p2 p3 p4 p5 p6 p7 p8 p9 pA
 clear h1 h2 h3 h4 h5 hok hk;go_enter Tryz.func58,Tryz.ntmps58;go_wp2_with fail;rw[<-hwh.out,<-hB.out];with_reducible refine(cP.out w1 (Below.refl _ _)).mono ?_
 rintro e w2 ⟨rfl,k2⟩;have K2:=Hd k2;clear k2 t0 t1 t2 p0 p1 p2 p3 p4 p5 p6 p7 p8 p9 pA pB pC;obtain⟨⟨t0,t1,t2⟩,p0,p1,p2,p3,p4,p5,p6,p7,p8,p9,pA,pB,pC⟩:=hT.out w2 K2.out;try dsimp only at p0 p1 p2 p3 p4 p5 p6 p7 p8 p9 pA
 go_wp2_with fail;with_reducible refine(cF.out w2 K2.out).mono ?_
 rintro e w3 ⟨rfl,k3⟩;have K3:=Hd (K2.out.trans (k3.mono K2.out.size));clear k3 K2 t0 t1 t2 p0 p1 p2 p3 p4 p5 p6 p7 p8 p9 pA pB pC;obtain⟨⟨t0,t1,t2⟩,p0,p1,p2,p3,p4,p5,p6,p7,p8,p9,pA,pB,pC⟩:=hT.out w3 K3.out;try dsimp only at p0 p1 p2 p3 p4 p5 p6 p7 p8 p9 pA
 have hnoB:=Hd (show ∀W,Below w1.heap.size w1 W->BelK B0 w0 (W.setRow (B+2) #[.slice a1 N1 a2,.slice b1 N2 b2,.slice c1 N3 c2])from fun W BB=>belK_no hBw.out hB.out hB0 (by omega) BB _);generalize plI (keysV g.vs) c.id=P1 at *
 have r8:=Hd (hR.out w3 K3.out);have hf:=Hd (hnoB.out w3 K3.out);by_cases hm:c.id∈keysE g.es;rotate_left
 ·rw[plI_no _ _ hm];have hno:=Hd (show act4 g c=none by unfold act4;simp[hm]);clear hm
  go_wp2_with (refine wpList_store_row rfl 26 (.tmp 4) (.tmp 131) rfl (B+2) #[.slice a1 N1 a2,.slice b1 N2 b2,.slice c1 N3 c2] rfl rfl 26 _ r8.out (size26b _ _ _) rfl (by simp[Value.oneCell']) ?_)
  refine bodyPost_ret (results_cell_tmp_row (fn:=Tryz.f58) rfl _ _ (B+2) 26 #[.slice a1 N1 a2,.slice b1 N2 b2,.slice c1 N3 c2] (0,0) _ _ rfl rfl (setRow_heap _ _ _ _ _ _ r8.out) Tryz.underlying26 rfl (size26b _ _ _)) rfl ?_;exact ActR.no (by rw[hact.out];exact hno.out) rfl hf.out
 ·have hyes:=Hd (show(act4 g c).map (·.1)=some {g with es:=delE g.es c.id}by unfold act4;simp[hm]);obtain⟨p,hp,hpe,hpv⟩:=plI_mem g.es c.id hm;have hpi:g.es[p].id=c.id:=by
   rw[hpv];obtain⟨hq,hqx⟩:=posE_lt g.es c.id hokh.out.easc hm;rw[getE_eq g.es c.id hokh.out.easc hq hqx];exact hqx
  have hdel:=Hd (pos_delE g.es c.id hokh.out.easc p hp hpi);obtain⟨gb,cur,hab,hbb,hcur,hlie⟩:=OwnEd.at (hO2.out w3 K3.out) (fun e=>by rw[e]at hp;simp at hp);subst hab;rw[hpe];have hgb:gb<B:=hlow.out.2 gb (by simp[Value.ownBlock]);have hpN:p<N2:=by rw[hN2.out];exact hp
  have hcap:N2<=b2:=by
   obtain⟨_,_,_,e,h,_⟩:=OwnEd.EL (hO2.out w3 K3.out) |>.own (fun e=>by rw[e]at hp;simp at hp);injection e with _ _ e
   rw[e,hN2.out];exact h
  have i0:(0:Int)<=(p:Int):=by omega
  have i1:(p:Int)<(N2:Int):=by omega
  have i2:(0:Int)<=(p:Int)+1:=by omega
  have i3:(p:Int)+1<=(N2:Int):=by omega
  have i4:(p:Int)<=(b2:Int):=by omega
  have j5:p<=b2:=by omega
  have j6:¬b2<p:=by omega
  have m1':IntKind.i64.wrap ((p:Int)+1)=(p:Int)+1:=IntWalk.i64_in _ (by omega);have hE:=Hd (fun W (BB:Below w3.heap.size w3 W)=>hO2.out W (K3.out.trans (BB.mono K3.out.size)));have hT3:=Hd (fun W (BB:Below w3.heap.size w3 W)=>(hT.out W (K3.out.trans (BB.mono K3.out.size))).1);have K3s:=K3.out.size;clear hm hp hpe hpv hpi hcur hlie;go_upto_region 22 with(fail);clear t0 t1 t2 p0 p1 p2 p3 p4 p5 p6 p7 p8 p9 pA pB pC;refine Rel.b_region w3 [some (.pointer (some ⟨B,1,none⟩)),some (.slice (some ⟨gb,0,none⟩) N2 b2),some (.int .i64 (p:Int)),some (.int .i64 (p:Int)),some (.slice (some ⟨gb,0,none⟩) p p),some (.pointer (some ⟨B,1,none⟩)),some (.slice (some ⟨gb,0,none⟩) N2 b2),some (.int .i64 (p:Int)),some (.int .i64 ((p:Int)+1)),none,none,some (.pointer (some ⟨B,1,none⟩)),none] (fun i v W=>match i with
   | 9=>EL W v (g.es.drop (p+1))
   | 10=>EL W v (g.es.take p++g.es.drop (p+1))/\ ∀k,v.ownBlock=some k->k=gb\/w3.heap.size<=k
   | _=>True) (fun _ W=>∃x,W.heap[B]?=some (.cells #[.slice a1 N1 a2,x,.slice c1 N3 c2] 26 (0,0))/\W.heap[B+2]?=some (.cells #[.slice none 0 0,.slice none 0 0,.slice none 0 0] 26 (0,0))/\EL W x (g.es.take p++g.es.drop (p+1))/\OwnV W B0 (.slice a1 N1 a2) g.vs/\OwnI W B0 (.slice c1 N3 c2) g.ds/\Below B w0 W/\RowGe B0 x) 12 (by kernel_rfl) (by kernel_rfl) rfl (fun i v W W' h Bl=>by split at h<;>first|exact trivial|exact EL.below h Bl|exact⟨EL.below h.1 Bl,h.2⟩) (fun _ _ _ _ h=>h) ((Below.refl _ w3).drew) (fun vals hO=>?_)
  refine Rel.b_pure (.pointer (some ⟨B,1,none⟩)) rfl (by decide) (hO 0 _ rfl) (by rfl) (fun w hC hd=>?_) ?_
  ·clear hd hO;go_simp
  try simp only[Act.put,zT,z0,zS]
  refine Rel.b_pure (.slice (some ⟨gb,0,none⟩) N2 b2) rfl (by decide) (hO 1 _ rfl) (by rfl) (fun w hC hd=>?_) ?_
  ·obtain⟨t0,t1,t2⟩:=hT3.out w hC;clear hd hO;go_simp
  try simp only[Act.put,zT,z0,zS]
  refine Rel.b_pure (.int .i64 (p:Int)) rfl (by decide) (hO 2 _ rfl) (by rfl) (fun w hC hd=>?_) ?_
  ·clear hd hO;go_simp
  try simp only[Act.put,zT,z0,zS]
  refine Rel.b_pure (.int .i64 (p:Int)) rfl (by decide) (hO 3 _ rfl) (by rfl) (fun w hC hd=>?_) ?_
  ·clear hd hO;go_simp
  try simp only[Act.put,zT,z0,zS]
  refine Rel.b_pure (.slice (some ⟨gb,0,none⟩) p p) rfl (by decide) (hO 4 _ rfl) (by rfl) (fun w hC hd=>?_) ?_
  ·clear hd hO;go_simp
  try simp only[Act.put,zT,z0,zS]
  refine Rel.b_pure (.pointer (some ⟨B,1,none⟩)) rfl (by decide) (hO 5 _ rfl) (by rfl) (fun w hC hd=>?_) ?_
  ·clear hd hO;go_simp
  try simp only[Act.put,zT,z0,zS]
  refine Rel.b_pure (.slice (some ⟨gb,0,none⟩) N2 b2) rfl (by decide) (hO 6 _ rfl) (by rfl) (fun w hC hd=>?_) ?_
  ·obtain⟨t0,t1,t2⟩:=hT3.out w hC;clear hd hO;go_simp
  try simp only[Act.put,zT,z0,zS]
  refine Rel.b_pure (.int .i64 (p:Int)) rfl (by decide) (hO 7 _ rfl) (by rfl) (fun w hC hd=>?_) ?_
  ·clear hd hO;go_simp
  try simp only[Act.put,zT,z0,zS]
  refine Rel.b_pure (.int .i64 ((p:Int)+1)) rfl (by decide) (hO 8 _ rfl) (by rfl) (fun w hC hd=>?_) ?_
  ·clear hd hO;go_simp
  try simp only[Act.put,zT,z0,zS]
  refine Rel.b_rel rfl (by decide) (by rfl) (fun w hC hd=>?_) ?_
  ·obtain⟨bo',q1,q2⟩:=(OwnEd.EL (hE.out w hC)).tail' (i:=p+1) hN2.out (by omega);clear hd hO;exact post_value (sliced (some ⟨gb,0,none⟩) (p+1) N2 b2 6) w (by go_simp) ⟨Below.refl _ _,by rw[q1];exact q2⟩
  try simp only[Act.put,zT,z0,zS]
  refine Rel.b_rel rfl (by decide) (by rfl) (fun w hC hd=>?_) ?_
  ·have h1:=hd 9 (by decide);obtain⟨v',w',hr,hv,hob,hbel⟩:=app_Eo w (some ⟨gb,0,none⟩) p (g.es.take p) (g.es.drop (p+1)) ((OwnEd.EL (hE.out w hC)).take' (by rw[<-hN2.out];omega)) (by rw[List.length_take,<-hN2.out];omega) (vals 9) h1 (by rw[List.length_take,<-hN2.out];omega) (by rw[List.length_drop,<-hN2.out];omega);refine post_append (.tmp 136) (.tmp 141) 23 rfl _ _ rfl rfl v' w' hr ⟨hbel,hv,fun j hj=>?_⟩;rcases hob j hj with⟨_,e⟩|h
   ·rw[e]at hj;simp[Value.ownBlock]at hj;exact .inl hj.symm
   ·exact .inr (by have:=hC.size;omega)
  try simp only[Act.put,zT,z0,zS]
  refine Rel.b_pure (.pointer (some ⟨B,1,none⟩)) rfl (by decide) (hO 11 _ rfl) (by rfl) (fun w hC hd=>?_) ?_
  ·clear hd hO;go_simp
  try simp only[Act.put,zT,z0,zS]
  refine Rel.b_last rfl (by rfl) (fun w hC hd=>?_) ?_
  ·obtain⟨h1,h2⟩:=hd 10 (by decide);obtain⟨x1,x2,ex⟩:=h1.shape;obtain⟨M,hM⟩:∃M,Hid (M=(g.es.take p++g.es.drop (p+1)).length):=⟨_,rfl⟩;rw[<-hM.out]at ex;rw[ex]at h1 h2;rw[ex];have KK:=K3.out.trans (hC.mono K3.out.size);have r7:=(KK.block B (by omega)).trans hbox.out;have r8:=hR.out w KK;have fr:=free_of_block (i:=1) r7;obtain⟨_,c7,_⟩:=box3 r7;have hb0:=hBw.out.trans (KK.mono (show B<=w1.heap.size by omega));have hv1:=hO1.out w KK;have hv3:=hO3.out w KK;refine post_skip (w.setCell ⟨B,1,none⟩ (.slice x1 M x2)) (by clear hd hO h1 h2 r7 r8 hb0 ex KK hv1 hv3;go_simp) ?_;refine⟨_,heap_setCell_same w B 1 _ 26 _ r7,(heap_setCell_other w _ (B+2) _ (by simp)).trans r8,EL.keepB h1 (fun k hk _=>heap_setCell_other w _ k _ (by have:=h2 k hk;have:=K3.out.size;simp;omega)) (by simp),ownsRow_setCell_other hv1 (fun e2=>by have:=hlow.out.1 B e2;omega) _,ownsRow_setCell_other hv3 (fun e2=>by have:=hlow3.out B e2;omega) _,hb0.setCell (by exact Nat.le_refl B) _,fun j hj=>by have:=h2 j hj;have:=K3.out.size;omega⟩
  try simp only[Act.put,zT,z0,zS]
  refine Rel.b_end ?_;intro w' hfin;obtain⟨x,r7,r9,g1,g2,g3,g4,g5⟩:=hfin;obtain⟨x1,x2,rfl⟩:=g1.shape;rw[hdel.out]at g1 r7;obtain⟨M,hM⟩:∃M,Hid (M=(delE g.es c.id).length):=⟨_,rfl⟩;rw[<-hM.out]at g1 r7;have hgf:=Hd (show GV w' (.agg #[.slice a1 N1 a2,.slice x1 M x2,.slice c1 N3 c2]) {g with es:=delE g.es c.id}from⟨_,_,_,rfl,OwnV.VL g2,g1,OwnI.DL g3⟩);have r9h:=Hd r9;have hge:=Hd (show RowGe B0 (.slice a1 N1 a2)/\RowGe B0 (.slice x1 M x2)/\RowGe B0 (.slice c1 N3 c2)from⟨own_ge g2,fun j hj=>g5 j (by cases x1 with|none=>exact hj|some a=>exact hj),own_ge g3⟩);have hfin:=Hd (BelK.of (below_row g4 (show B<=B+2 by omega) #[.slice a1 N1 a2,.slice x1 M x2,.slice c1 N3 c2]) hB.out hB0);obtain⟨t0,t1,t2⟩:=box3 r7;clear r7 r9 g1 g2 g3 g4 g5
  go_wp2_with (refine wpList_store_row rfl 26 (.tmp 4) (.tmp 144) rfl (B+2) #[.slice a1 N1 a2,.slice x1 M x2,.slice c1 N3 c2] rfl rfl 26 _ r9h.out (size26b _ _ _) rfl (by simp[Value.oneCell']) ?_)
  refine bodyPost_ret (results_cell_tmp_row (fn:=Tryz.f58) rfl _ _ (B+2) 26 #[.slice a1 N1 a2,.slice x1 M x2,.slice c1 N3 c2] (0,0) _ _ rfl rfl (setRow_heap _ _ _ _ _ _ r9h.out) Tryz.underlying26 rfl (size26b _ _ _)) rfl ?_;exact ActR.yesM (by rw[hact.out];exact hyes.out) rfl (GV.shut0 hgf.out r9h.out _) hge.out hfin.out
end Go.Proofs.YtlaldnlgapeckaaGreat
