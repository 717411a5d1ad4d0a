/- Facts. -/
import Derived.Test.YtlaldnlgapeckaaGreatVYG
import Derived.Test.YtlaldnlgapeckaaGreatVYRc
set_option linter.unusedSimpArgs false
set_option maxRecDepth 100000
set_option maxHeartbeats 4000000
namespace Go.Proofs.YtlaldnlgapeckaaGreat
open Go.RowKit
theorem plV_mem(l:List Vx)(x:Int)(hx:x∈keysV l):∃(p:Nat) (hp:p<l.length),plI (keysV l) x=p/\l[p]=getV l x:=by
 induction l with
 | nil=>simp[keysV]at hx
 | cons e t ih =>
  by_cases h:e.id=x
  ·refine⟨0,by simp,?_,?_⟩
   ·exact plI_at _ _ 0 (by simp[keysV]) (fun j h hj=>by omega) (by simp[keysV,h])
   ·simp[getV,h]
  ·have hx':x∈keysV t:=by
    rw[mem_keysV]at hx ⊢;obtain⟨v,hv,he⟩:=hx;rcases List.mem_cons.1 hv with rfl|hv
    ·exact absurd he h
    ·exact⟨v,hv,he⟩
   obtain⟨p,hp,h1,h2⟩:=ih hx';refine⟨p+1,by simpa using hp,?_,?_⟩
   ·unfold plI at h1 ⊢;have hpos:posE (keysV (e::t)) x=posE (keysV t) x+1:=by
     unfold posE;rw[show keysV (e::t)=e.id::keysV t from rfl,List.takeWhile_cons_of_pos (by simpa using h),List.length_cons]
    rw[hpos,show(keysV (e::t)).length=(keysV t).length+1 by simp[keysV]]
    split at h1
    ·rw[if_pos (by omega)];omega
    ·omega
   ·rw[List.getElem_cons_succ,h2];unfold getV;rw[List.find?_cons_of_neg (by simpa using h)]
theorem plI_no(ks:List Int)(x:Int)(h:x∉ks):plI ks x= -1:=plI_none ks x (fun _ hj e=>h (e▸List.getElem_mem hj))
theorem edges_in{W:World}{a c:Value}{p:Option Addr}{n q:Nat}{g:Gr}(h:GV W (.agg #[a,.slice p n q,c]) g)(k:Nat)(hk:k<g.es.length):∃eb eo,p=some ⟨eb,eo,none⟩/\ ∀W',Below W.heap.size W W'->EdAt W' eb (eo+k*6) g.es[k]:=by
 obtain⟨eb,eo,e,h2⟩:=edges_at h (fun e=>by rw[e]at hk;simp at hk);exact⟨eb,eo,e,fun W' B=>h2 k hk W' B⟩
theorem verts_in{W:World}{b c:Value}{p:Option Addr}{n q:Nat}{g:Gr}(h:GV W (.agg #[.slice p n q,b,c]) g)(k:Nat)(hk:k<g.vs.length):∃eb eo,p=some ⟨eb,eo,none⟩/\ ∀W',Below W.heap.size W W'->W'.cell? ⟨eb,eo+k*2,none⟩=some (.int .i64 g.vs[k].id)/\W'.cell? ⟨eb,eo+k*2+1,none⟩=some (.int .i64 g.vs[k].side):=by
 obtain⟨a',b',c',he,h1,_,_⟩:=h;injection he with he
 simp only[Array.mk.injEq,List.cons.injEq]at he;obtain⟨he,_⟩:=he;subst he;obtain⟨b,o,c2,e1,_,e2,e3⟩:=h1.own (fun e=>by rw[e]at hk;simp at hk);injection e1 with e1 _ _
 exact⟨b,o,e1,fun W' B=>(e3.below e2 B) k _ (List.getElem?_eq_getElem hk)⟩
theorem app_opt(T e:TypeId)(i0:TypeInfo)(z:Value)(k by_:Nat)(hT:Tryz.prog.underlying T=some (.slice e))(hi:Tryz.prog.info? e=some i0)(hz:i0.zero=some z)(hk:i0.size=k)(hby:i0.bytes=by_)(hzs:z.cells.size=k)(h0:0<k)(hb:by_<=200)
  (W:World) (bo:Option Addr) (n:Nat) (hbo:bo=none->n=0) (olds:List Value) (hlo:olds.length=n*k) (holds:∀b,bo=some b-> ∀j u,olds[j]?=some u->W.cell? (b.add j)=some u) (a:Option Addr) (m c:Nat) (news:List Value) (hl:news.length=m*k) (hnews:∀x,a=some x-> ∀j u,news[j]?=some u->W.cell? (x.add j)=some u) (ha:a=none->m=0) (hone:∀u∈news,u.oneCell'=true) (hnm:n+m<=1000000) :
  (m=0/\(Builtin.append_ #[T,T] T #[.slice bo n n,.slice a m c]).run Tryz.prog W= .ok (.slice bo n n) W) \/
  (0<m/\ ∃v' W',(Builtin.append_ #[T,T] T #[.slice bo n n,.slice a m c]).run Tryz.prog W= .ok v' W'/\W'.ownsRow W.heap.size e k v' (n+m) (olds++news)/\Below W.heap.size W W'):=by
 cases bo with
 | some b=>exact app_gen T e i0 z k by_ hT hi hz hk hby hzs h0 hb W b n olds hlo (holds b rfl) a m c news hl hnews ha hnm
 | none =>
  obtain rfl:=hbo rfl;have ho0:olds=[]:=List.length_eq_zero_iff.1 (by rw[hlo,Nat.zero_mul]);subst ho0;by_cases hm:m=0
  ·refine .inl ⟨hm,?_⟩;subst hm;have hfn:=run_firstCells_none (P:=Tryz.prog) (w:=W) i0.size 0 0 c;have hfs:=fun a=>run_firstCells_some (P:=Tryz.prog) W i0.size 0 a 0 c [] (by simp) (by simp);cases a with
   | none=>simp[Builtin.append_,run_underlying hT,sizeOf,typeInfo,zeroValue,hi,hz,Builtin.lenOf,Question.forced,hfn]
   | some x=>simp[Builtin.append_,run_underlying hT,sizeOf,typeInfo,zeroValue,hi,hz,Builtin.lenOf,Question.forced,hfs]
  ·refine .inr ⟨by omega,?_⟩;cases a with
   | none=>exact absurd (ha rfl) hm
   | some x =>
    have hmul:(0+m)*by_<=1000000*200:=Nat.mul_le_mul hnm hb;obtain⟨v',w',hr,ho,hg,_⟩:=run_append_own (P:=Tryz.prog) W W.heap.size T T e i0 z k by_ hT hi hz hk hby hzs h0 (.slice none 0 0) 0 [] (World.ownsRow_nil _ _ _ _) x m c news hl (hnews x rfl) hone (by unfold maxLen;omega) (by omega) (by simp);exact⟨v',w',hr,ho,(Below.refl _ W).grown hg (Nat.le_refl _) (fun j hj=>by simp[Value.ownBlock]at hj)⟩
theorem VL.tail'{W:World}{bo:Option Addr}{n c i:Nat}{l:List Vx}(h:VL W (.slice bo n c) l)(hn:n=l.length)(hi:i<=n):∃bo',sliced bo i n c 2= .slice bo' (n-i) (c-i)/\VL W (.slice bo' (n-i) (c-i)) (l.drop i):=by
 refine⟨_,rfl,?_⟩;by_cases hd:l.drop i=[]
 ·have:l.length<=i:=List.drop_eq_nil_iff.1 hd;exact .inl ⟨hd,_,_,by rw[show n-i=0 by omega]⟩
 ·have hlt:i<l.length:=by
   apply Classical.byContradiction;intro h2;exact hd (List.drop_eq_nil_iff.2 (by omega))
  obtain⟨b,o,c',e,h2,h3,h4⟩:=h.own (fun e=>by rw[e]at hlt;simp at hlt);injection e with e1 e2 e3
  subst e1 e3;have ht:=VL.tail (i:=i) (show VL W (.slice (some ⟨b,o,none⟩) n c) l from h) hn hi;rw[if_neg (by omega)];rw[Option.map_some,Addr.add_lit];exact ht
theorem VL.take'{W:World}{bo:Option Addr}{n c i:Nat}{l:List Vx}(h:VL W (.slice bo n c) l)(hi:i<=l.length):VL W (.slice bo i i) (l.take i):=by
 by_cases hd:l.take i=[]
 ·have:i=0:=by
   have:=congrArg List.length hd;rw[List.length_take,List.length_nil]at this;omega
  exact .inl ⟨hd,_,_,by rw[this]⟩
 ·have hne:l≠[]:=fun e=>hd (by rw[e];simp);obtain⟨b,o,c',e,h2,h3,h4⟩:=h.own hne;injection e with e1 e2 e3
  subst e1;have hti:(l.take i).length=i:=by rw[List.length_take];omega
  refine .inr ⟨hd,b,o,i,by rw[hti],by rw[hti];exact Nat.le_refl _,h3,fun j x hx=>?_⟩;have hj:j<i:=by
   have:=(List.getElem?_eq_some_iff.1 hx).1;rw[hti]at this;exact this
  rw[List.getElem?_take_of_lt hj]at hx;exact h4 j x hx
theorem VL.cells{W:World}{bo:Option Addr}{n c:Nat}{l:List Vx}(h:VL W (.slice bo n c) l):∀b,bo=some b-> ∀j u,(cVx l)[j]?=some u->W.cell? (b.add j)=some u:=fun b hb=>by
 rcases h with⟨rfl,_⟩|⟨_,b',o',c',e,_,_,h4⟩
 ·simp[cVx]
 ·injection e with e _ _
  rw[e]at hb;injection hb with hb
  subst hb;exact lieV_cells h4
theorem VL.none_nil{W:World}{bo:Option Addr}{n c:Nat}{l:List Vx}(h:VL W (.slice bo n c) l):bo=none->l.length=0:=fun hb=>by
 rcases h with⟨rfl,_⟩|⟨_,b',o',c',e,_⟩
 ·rfl
 ·injection e with e _ _
  rw[hb]at e;cases e
theorem app_Vo(W:World)(bo:Option Addr)(n:Nat)(l m:List Vx)(h1:VL W (.slice bo n n) l)(hn:n=l.length)(src:Value)(h2:VL W src m)(hl:l.length<=500000)(hm:m.length<=500000):
  ∃v' W',(Builtin.append_ #[22,22] 22 #[.slice bo n n,src]).run Tryz.prog W= .ok v' W'/\VL W' v' (l++m)/\(∀j,v'.ownBlock=some j->(m=[]/\v'= .slice bo n n)\/W.heap.size<=j)/\Below W.heap.size W W':=by
 obtain⟨i0,hi2,hz0,hz1,hz2⟩:=info_parts info29;obtain⟨a,c',rfl⟩:=h2.shape;rcases app_opt 22 29 i0 _ 2 16 Tryz.underlying22 hi2 hz0 hz1 hz2 rfl (by omega) (by omega) W bo n (fun e=>by rw[hn];exact h1.none_nil e) (cVx l) (by rw[cVx_len,hn]) h1.cells a m.length c' (cVx m) (cVx_len m) h2.cells h2.none_nil (cVx_one m) (by omega)with⟨h0,hr⟩|⟨h0,v',W',hr,ho,hbl⟩
 ·have:m=[]:=List.length_eq_zero_iff.1 h0;subst this;exact⟨_,_,hr,by rw[List.append_nil];exact h1,fun j _=> .inl ⟨rfl,rfl⟩,Below.refl _ _⟩
 ·refine⟨v',W',hr,?_,fun k hk=> .inr (own_row ho k hk).1,hbl⟩;rw[<-cVx_append,hn]at ho;have:OwnV W' W.heap.size v' (l++m):=by unfold OwnV;rw[List.length_append];exact ho
  exact this.VL
theorem ins_at(l:List Vx)(v:Vx)(h:Asc (keysV l))(k:Nat)(hk:k<=l.length)(h1:∀j (hj:j<l.length),j<k->l[j].id<v.id)(h2:k=l.length\/ ∃hk:k<l.length,¬l[k].id<v.id):insV l v=l.take k++v::l.drop k:=by
 have e1:∀j (h:j<l.length),(keysV l)[j]'(by simpa[keysV]using h)=l[j].id:=fun j h=>by simp[keysV]
 have hl:(keysV l).length=l.length:=by simp[keysV]
 have:posK (keysV l) v.id=k:=by
  refine posK_eq _ _ k (by omega) (fun j hj hjk=>?_) (fun j hj hjk=>?_)
  ·rw[e1 j (by omega)];exact h1 j (by omega) hjk
  ·rw[e1 j (by omega)];rcases h2 with h2|⟨hk2,h2⟩
   ·omega
   ·rcases Nat.eq_or_lt_of_le hjk with rfl|hlt
    ·exact h2
    ·have:=List.pairwise_iff_getElem.1 h k j (by omega) hj hlt;rw[e1 k hk2,e1 j (by omega)]at this;omega
 rw[insV_eq l v h,this]
def WvPost2(g:Gr)(u:Vx)(b c:Value)(w0:World)(e:Ending)(w':World):Prop :=
 ∃x,(if(u.ok&&!decide (u.id∈keysV g.vs))=true then e= .returned (.tuple #[.agg #[x,b,c],.bool true])/\VL w' x (insV g.vs u)/\ ∀j,x.ownBlock=some j->w0.heap.size<=j else e= .returned (.tuple #[.agg #[x,b,c],.bool false]))/\(∃a1 n1 d1,x= .slice a1 n1 d1)/\Below w0.heap.size w0 w'
theorem withVertexR_own(a b c:Value)(g:Gr)(u:Vx)(w0:World)(h1:VL w0 a g.vs)(h2:EL w0 b g.es)(h3:DL w0 c g.ds)(hok:Asc (keysV g.vs))(hn:g.vs.length<=400000):
  Calls Tryz.prog 80 #[.agg #[a,b,c],.agg #[.int .i64 u.id,.int .i64 u.side]] w0 (WvPost2 g u b c w0):=by
 obtain⟨bo,a2,rfl⟩:=h1.shape;obtain⟨b1,b2,rfl⟩:=h2.shape;obtain⟨c1,c2,rfl⟩:=h3.shape;have hca:g.vs.length<=a2:=by
  rcases h1 with⟨e,_⟩|⟨_,b',o',c',e,h,_⟩
  ·rw[e];simp
  ·injection e with _ _ e;rw[e];exact h
 obtain⟨N1,hN1⟩:∃N,Hid (N=g.vs.length):=⟨_,rfl⟩;obtain⟨N2,hN2⟩:∃N,Hid (N=g.es.length):=⟨_,rfl⟩;obtain⟨N3,hN3⟩:∃N,Hid (N=g.ds.length):=⟨_,rfl⟩;rw[<-hN1.out]at h1 hn hca ⊢;rw[<-hN2.out]at h2 ⊢;rw[<-hN3.out]at h3 ⊢;obtain⟨B,hB⟩:∃B,Hid (B=w0.heap.size):=⟨_,rfl⟩;obtain⟨w1,hw1⟩:∃W,W=((w0.alloc (.cells #[.slice bo N1 a2,.slice b1 N2 b2,.slice c1 N3 c2] 26)).alloc (.cells #[.int .i64 u.id,.int .i64 u.side] 29)).alloc (.cells #[.slice none 0 0,.slice none 0 0,.slice none 0 0] 26):=⟨_,rfl⟩;have hB0:=Hd (show Below B w0 w1 by rw[hB.out,hw1];exact(((Below.refl _ w0).alloc (Nat.le_refl _) _).alloc (by simp) _).alloc (by simp;omega) _);have hsz:w1.heap.size=B+3:=by rw[hw1,hB.out];simp
 have hbox:=Hd (show w1.heap[B]?=some (.cells #[.slice bo N1 a2,.slice b1 N2 b2,.slice c1 N3 c2] 26 (0,0))by rw[hw1,hB.out];exact al_keep1 (al_keep1 (heap_alloc_new w0 _)));have hvbx:=Hd (show w1.heap[B+1]?=some (.cells #[.int .i64 u.id,.int .i64 u.side] 29 (0,0))by rw[hw1,hB.out];have h:=al_keep1 (p:= .cells #[.slice none 0 0,.slice none 0 0,.slice none 0 0] 26) (heap_alloc_new (w0.alloc (.cells #[.slice bo N1 a2,.slice b1 N2 b2,.slice c1 N3 c2] 26)) (.cells #[.int .i64 u.id,.int .i64 u.side] 29));simpa using h);have hres:=Hd (show w1.heap[B+2]?=some (.cells #[.slice none 0 0,.slice none 0 0,.slice none 0 0] 26 (0,0))by rw[hw1,hB.out];have h:=heap_alloc_new ((w0.alloc (.cells #[.slice bo N1 a2,.slice b1 N2 b2,.slice c1 N3 c2] 26)).alloc (.cells #[.int .i64 u.id,.int .i64 u.side] 29)) (.cells #[.slice none 0 0,.slice none 0 0,.slice none 0 0] 26);simpa using h);rw[hB.out]at hB0;have hV:=Hd (fun W (BB:Below w1.heap.size w1 W)=>h1.below (hB0.out.trans (BB.mono hB0.out.size)));have hE:=Hd (fun W (BB:Below w1.heap.size w1 W)=>h2.below (hB0.out.trans (BB.mono hB0.out.size)));have hD:=Hd (fun W (BB:Below w1.heap.size w1 W)=>h3.below (hB0.out.trans (BB.mono hB0.out.size)));have hh1:=Hd h1;have hh2:=Hd h2;have hh3:=Hd h3;rw[<-hB.out]at hB0;have hT:=Hd (show ∀W,Below w1.heap.size w1 W->(W.cell? ⟨B,0,none⟩=some (.slice bo N1 a2)/\W.cell? ⟨B,1,none⟩=some (.slice b1 N2 b2)/\W.cell? ⟨B,2,none⟩=some (.slice c1 N3 c2))/\W.cell? ⟨B+1,0,none⟩=some (.int .i64 u.id)/\W.cell? ⟨B+1,1,none⟩=some (.int .i64 u.side)from fun W BB=>by
  have hq:=(BB.block (B+1) (by omega)).trans hvbx.out;exact⟨box3 ((BB.block B (by omega)).trans hbox.out),by rw[cell_of_row _ _ _ _ _ _ hq];rfl,by rw[cell_of_row _ _ _ _ _ _ hq];rfl⟩)
 have cX:=Hd (fun W=>vertexR_any u W);have cP:=Hd (fun W (BB:Below w1.heap.size w1 W)=>PlaceR_any (.agg #[.slice bo N1 a2,.slice b1 N2 b2,.slice c1 N3 c2]) g u.id W ⟨_,_,_,rfl,hV.out W BB,hE.out W BB,hD.out W BB⟩ (by rw[<-hN1.out];omega));unfold Vx.val at cX;have hwh:=Hd hw1;have hord:=Hd hok;obtain⟨t0,t1,t2⟩:=(hT.out w1 (Below.refl _ _)).1;obtain⟨u0,u1⟩:=(hT.out w1 (Below.refl _ _)).2;obtain⟨okv,hokv⟩:∃o,Hid (o=u.ok):=⟨_,rfl⟩;rw[<-hokv.out]at cX;clear h1 h2 h3 hw1 hok;go_enter Tryz.func80,Tryz.ntmps80;go_wp2_with fail;rw[<-hwh.out,<-hB.out];with_reducible refine(cX.out w1).mono ?_
 rintro e w2 ⟨rfl,k2⟩;have K2:=Hd k2;clear k2 t0 t1 t2 u0 u1;obtain⟨⟨t0,t1,t2⟩,u0,u1⟩:=hT.out w2 K2.out;cases okv with
 | false =>
  have r8:=Hd ((K2.out.block (B+2) (by omega)).trans hres.out)
  go_wp2_with (refine wpList_store_row rfl 26 (.tmp 4) (.tmp 17) rfl (B+2) #[.slice bo N1 a2,.slice b1 N2 b2,.slice c1 N3 c2] rfl rfl 26 _ r8.out (size26b _ _ _) rfl (by simp[Value.oneCell']) ?_)
  refine bodyPost_ret (results_cell_tmp_row (fn:=Tryz.f80) rfl _ _ (B+2) 26 #[.slice bo N1 a2,.slice b1 N2 b2,.slice c1 N3 c2] (0,0) _ _ rfl rfl (setRow_heap _ _ _ _ _ _ r8.out) Tryz.underlying26 rfl (size26b _ _ _)) rfl ?_;have hbl:=below_row (hB0.out.trans (K2.out.mono (by omega))) (show B<=B+2 by omega) #[.slice bo N1 a2,.slice b1 N2 b2,.slice c1 N3 c2];exact⟨_,by rw[if_neg (by rw[<-hokv.out];simp)];rfl,⟨_,_,_,rfl⟩,by rw[<-hB.out];exact hbl⟩
 | true =>
 go_wp2_with fail;with_reducible refine(cP.out w2 K2.out).mono ?_
 rintro e w3 ⟨rfl,k3⟩;have K3:=Hd (K2.out.trans (k3.mono K2.out.size));clear k3 t0 t1 t2 u0 u1;obtain⟨⟨t0,t1,t2⟩,u0,u1⟩:=hT.out w3 K3.out;by_cases hm:u.id∈keysV g.vs
 ·have hp:=(plI_ge (keysV g.vs) u.id).2 hm;have r8:=Hd ((K3.out.block (B+2) (by omega)).trans hres.out);have hmh:=Hd hm;generalize plI (keysV g.vs) u.id=P at *
  clear hm
  go_wp2_with (refine wpList_store_row rfl 26 (.tmp 4) (.tmp 17) rfl (B+2) #[.slice bo N1 a2,.slice b1 N2 b2,.slice c1 N3 c2] rfl rfl 26 _ r8.out (size26b _ _ _) rfl (by simp[Value.oneCell']) ?_)
  refine bodyPost_ret (results_cell_tmp_row (fn:=Tryz.f80) rfl _ _ (B+2) 26 #[.slice bo N1 a2,.slice b1 N2 b2,.slice c1 N3 c2] (0,0) _ _ rfl rfl (setRow_heap _ _ _ _ _ _ r8.out) Tryz.underlying26 rfl (size26b _ _ _)) rfl ?_;have hbl:=below_row (hB0.out.trans (K3.out.mono (by omega))) (show B<=B+2 by omega) #[.slice bo N1 a2,.slice b1 N2 b2,.slice c1 N3 c2];exact⟨_,by rw[if_neg (by simp[hmh.out])];rfl,⟨_,_,_,rfl⟩,by rw[<-hB.out];exact hbl⟩
 rw[plI_no _ _ hm];have hmh:Hid (u.id∉keysV g.vs):=hm;clear hm;go_wp2_with fail
 go_loopw [6] (fun i wr=>∃k:Nat,k<=N1/\i= .int .i64 k/\Hid (Below w1.heap.size w1 wr)/\Hid (∀j (hj:j<g.vs.length),j<k->g.vs[j].id<u.id)) (fun i _=>N1-(intOf i).toNat)
 case atStart=>exact⟨0,by omega,rfl,K3.out,fun j _ h=>by omega⟩
 case round =>
 clear K3 t0 t1 t2 u0 u1;obtain⟨k,hk,rfl,kr,hlow⟩:=hrel;have i0:(0:Int)<=(k:Int):=by omega
 by_cases hlt:k<N1
 ·have i1:(k:Int)<(N1:Int):=by omega
  obtain⟨vb,vo,hbo,hcl⟩:=verts_in (show GV w1 (.agg #[.slice bo N1 a2,.slice b1 N2 b2,.slice c1 N3 c2]) g from⟨_,_,_,rfl,hV.out w1 (Below.refl _ _),hE.out w1 (Below.refl _ _),hD.out w1 (Below.refl _ _)⟩) k (by rw[<-hN1.out];exact hlt);have hc0:=Hd (fun W (BB:Below w1.heap.size w1 W)=>(hcl W BB).1);obtain⟨y,hy⟩:∃y,Hid (y=(g.vs[k]'(by rw[<-hN1.out];exact hlt)).id):=⟨(g.vs[k]'(by rw[<-hN1.out];exact hlt)).id,Hd rfl⟩;rw[<-hy.out]at hc0;clear hcl;by_cases hlt2:y<u.id
  ·have q1:decide (y<u.id)=true:=decide_eq_true hlt2;have hlow2:Hid (∀j (hj:j<g.vs.length),j<k+1->g.vs[j].id<u.id):=fun j hj hjk=>by
    by_cases e:j=k
    ·subst e;rw[<-hy.out];exact hlt2
    ·exact hlow.out j hj (by omega)
   clear hlow;subst hbo;go_upto_region 4 with(fail);refine q_region (fun W=>Below w1.heap.size w1 W) (by kernel_rfl) (by kernel_rfl) (kr.out.drew) ?_;iterate 16 (refine q_take (v:=?_) (by rfl) ?_ ?_;rotate_left;(first|((intro w h;go_simp)<;>with_reducible rfl)|((intro w h;obtain⟨⟨t0,t1,t2⟩,u0,u1⟩:=hT.out w h;have c0:=hc0.out w h;go_simp)<;>with_reducible rfl));try simp only[Act.put,zT,z0,zS])
   refine q_nil ?_;intro wq kq;have kq1:=Hd kq;clear kq hlt2;go_wp2_with fail
   go_roundw
   case rel=>exact⟨k+1,by omega,by go_num,kq1.out,hlow2.out⟩
   case measure=>simp[intOf];omega
  ·have q1:decide (y<u.id)=false:=decide_eq_false hlt2;have hstop:Hid (k=g.vs.length\/ ∃hk:k<g.vs.length,¬g.vs[k].id<u.id):= .inr ⟨by rw[<-hN1.out];exact hlt,by rw[<-hy.out];exact hlt2⟩;clear hlt2;subst hbo;go_upto_region 4 with(fail);refine q_region (fun W=>Below w1.heap.size w1 W) (by kernel_rfl) (by kernel_rfl) (kr.out.drew) ?_;iterate 16 (refine q_take (v:=?_) (by rfl) ?_ ?_;rotate_left;(first|((intro w h;go_simp)<;>with_reducible rfl)|((intro w h;obtain⟨⟨t0,t1,t2⟩,u0,u1⟩:=hT.out w h;have c0:=hc0.out w h;go_simp)<;>with_reducible rfl));try simp only[Act.put,zT,z0,zS])
   refine q_nil ?_;intro wq kq;have kq1:=Hd kq;clear kq;have hins:=ins_at g.vs u hord.out k (by rw[<-hN1.out];omega) hlow.out hstop.out;have hinh:=Hd hins;clear hins hlow hstop;have j5:k<=a2:=by omega
   have j6:¬a2<k:=by omega
   have j7:(k:Int)<=(a2:Int):=by omega
   have j8:(k:Int)<=(N1:Int):=by omega
   have j9:¬N1<k:=by omega
   go_upto_region 6 with(fail);refine Rel.b_region w1 [some (.pointer (some ⟨B,0,none⟩)),some (.slice (some ⟨vb,vo,none⟩) N1 a2),some (.int .i64 (k:Int)),some (.int .i64 (k:Int)),some (.slice (some ⟨vb,vo,none⟩) k k),some (.agg #[.int .i64 u.id,.int .i64 u.side]),none,some (.pointer (some ⟨B,0,none⟩)),some (.slice (some ⟨vb,vo,none⟩) N1 a2),some (.int .i64 (k:Int)),none,none,none,some (.pointer (some ⟨B,0,none⟩)),none] (fun i v W=>match i with
  | 6=>∃nb,v= .slice (some ⟨nb,0,none⟩) 1 1/\B+3<=nb/\VL W v [u]
  | 10=>VL W v (g.vs.drop k)
  | 11=>VL W v (u::g.vs.drop k)/\ ∀j,v.ownBlock=some j->B+3<=j
  | 12=>VL W v (g.vs.take k++u::g.vs.drop k)/\ ∀j,v.ownBlock=some j->B+3<=j
  | _=>True) (fun _ W=>∃x,W.heap[B]?=some (.cells #[x,.slice b1 N2 b2,.slice c1 N3 c2] 26 (0,0))/\W.heap[B+2]?=some (.cells #[.slice none 0 0,.slice none 0 0,.slice none 0 0] 26 (0,0))/\VL W x (g.vs.take k++u::g.vs.drop k)/\(∀j,x.ownBlock=some j->B+3<=j)/\Below B w0 W) 14 (by kernel_rfl) (by kernel_rfl) rfl (fun i v W W' h Bl=>by split at h<;>first|exact trivial|exact VL.below h Bl|exact⟨VL.below h.1 Bl,h.2⟩|(obtain⟨nb,e,h1,h2⟩:=h;exact⟨nb,e,h1,VL.below h2 Bl⟩)) (fun _ _ _ i h=>by have:=i 12 (by decide);exact h) (kq1.out.drew) (fun vals hO=>?_)
   refine Rel.b_pure (.pointer (some ⟨B,0,none⟩)) rfl (by decide) (hO 0 _ rfl) (by rfl) (fun w hC hd=>?_) ?_
   ·clear hd hO;go_simp
   try simp only[Act.put,zT,z0,zS]
   refine Rel.b_pure (.slice (some ⟨vb,vo,none⟩) N1 a2) rfl (by decide) (hO 1 _ rfl) (by rfl) (fun w hC hd=>?_) ?_
   ·obtain⟨⟨t0,t1,t2⟩,u0,u1⟩:=hT.out w hC;clear hd hO;go_simp
   try simp only[Act.put,zT,z0,zS]
   refine Rel.b_pure (.int .i64 (k:Int)) rfl (by decide) (hO 2 _ rfl) (by rfl) (fun w hC hd=>?_) ?_
   ·clear hd hO;go_simp
   try simp only[Act.put,zT,z0,zS]
   refine Rel.b_pure (.int .i64 (k:Int)) rfl (by decide) (hO 3 _ rfl) (by rfl) (fun w hC hd=>?_) ?_
   ·clear hd hO;go_simp
   try simp only[Act.put,zT,z0,zS]
   refine Rel.b_pure (.slice (some ⟨vb,vo,none⟩) k k) rfl (by decide) (hO 4 _ rfl) (by rfl) (fun w hC hd=>?_) ?_
   ·clear hd hO;go_simp
   try simp only[Act.put,zT,z0,zS]
   refine Rel.b_pure (.agg #[.int .i64 u.id,.int .i64 u.side]) rfl (by decide) (hO 5 _ rfl) (by rfl) (fun w hC hd=>?_) ?_
   ·obtain⟨⟨t0,t1,t2⟩,u0,u1⟩:=hT.out w hC;clear hd hO;go_simp
   try simp only[Act.put,zT,z0,zS]
   refine Rel.b_rel rfl (by decide) (by rfl) (fun w hC hd=>?_) ?_
   ·have hB3:B+3<=w.heap.size:=by have:=hC.size;omega
    clear hd hO;refine post_value (.slice (some ⟨w.heap.size,0,none⟩) 1 1) (w.alloc (.cells #[.int .i64 u.id,.int .i64 u.side] 29)) (by go_simp) ⟨(Below.refl _ w).alloc (Nat.le_refl _) _,_,rfl,hB3,?_⟩;refine .inr ⟨by simp,w.heap.size,0,1,rfl,by simp,by simp,fun j x hx=>?_⟩;have hr:=heap_alloc_new w (.cells #[.int .i64 u.id,.int .i64 u.side] 29);cases j with
    | zero=>simp at hx;subst hx;exact⟨by rw[cell_of_row _ _ _ _ _ _ hr];rfl,by rw[cell_of_row _ _ _ _ _ _ hr];rfl⟩
    | succ j=>simp at hx
   try simp only[Act.put,zT,z0,zS]
   refine Rel.b_pure (.pointer (some ⟨B,0,none⟩)) rfl (by decide) (hO 7 _ rfl) (by rfl) (fun w hC hd=>?_) ?_
   ·clear hd hO;go_simp
   try simp only[Act.put,zT,z0,zS]
   refine Rel.b_pure (.slice (some ⟨vb,vo,none⟩) N1 a2) rfl (by decide) (hO 8 _ rfl) (by rfl) (fun w hC hd=>?_) ?_
   ·obtain⟨⟨t0,t1,t2⟩,u0,u1⟩:=hT.out w hC;clear hd hO;go_simp
   try simp only[Act.put,zT,z0,zS]
   refine Rel.b_pure (.int .i64 (k:Int)) rfl (by decide) (hO 9 _ rfl) (by rfl) (fun w hC hd=>?_) ?_
   ·clear hd hO;go_simp
   try simp only[Act.put,zT,z0,zS]
   refine Rel.b_rel rfl (by decide) (by rfl) (fun w hC hd=>?_) ?_
   ·obtain⟨bo',e1,e2⟩:=(hV.out w hC).tail' (i:=k) hN1.out (by omega);clear hd hO;exact post_value (sliced (some ⟨vb,vo,none⟩) k N1 a2 2) w (by go_simp) ⟨Below.refl _ _,by rw[e1];exact e2⟩
   try simp only[Act.put,zT,z0,zS]
   refine Rel.b_rel rfl (by decide) (by rfl) (fun w hC hd=>?_) ?_
   ·obtain⟨nb,e1,h2,h3⟩:=hd 6 (by decide);have h4:=hd 10 (by decide);rw[e1]at h3;obtain⟨v',w',hr,hv,hob,hbel⟩:=app_Vo w (some ⟨nb,0,none⟩) 1 [u] (g.vs.drop k) h3 rfl (vals 10) h4 (by simp) (by rw[List.length_drop,<-hN1.out];omega);refine post_append (.tmp 42) (.tmp 46) 22 rfl _ _ e1 rfl v' w' hr ⟨hbel,hv,fun j hj=>?_⟩;rcases hob j hj with⟨_,e⟩|h
    ·rw[e]at hj;simp[Value.ownBlock]at hj;omega
    ·have:=hC.size;omega
   try simp only[Act.put,zT,z0,zS]
   refine Rel.b_rel rfl (by decide) (by rfl) (fun w hC hd=>?_) ?_
   ·obtain⟨h1,_⟩:=hd 11 (by decide);obtain⟨v',w',hr,hv,hob,hbel⟩:=app_Vo w (some ⟨vb,vo,none⟩) k (g.vs.take k) (u::g.vs.drop k) ((hV.out w hC).take' (by rw[<-hN1.out];omega)) (by rw[List.length_take,<-hN1.out];omega) (vals 11) h1 (by rw[List.length_take,<-hN1.out];omega) (by rw[List.length_cons,List.length_drop,<-hN1.out];omega);refine post_append (.tmp 40) (.tmp 47) 22 rfl _ _ rfl rfl v' w' hr ⟨hbel,hv,fun j hj=>?_⟩;rcases hob j hj with⟨e,_⟩|h
    ·cases e
    ·have:=hC.size;omega
   try simp only[Act.put,zT,z0,zS]
   refine Rel.b_pure (.pointer (some ⟨B,0,none⟩)) rfl (by decide) (hO 13 _ rfl) (by rfl) (fun w hC hd=>?_) ?_
   ·clear hd hO;go_simp
   try simp only[Act.put,zT,z0,zS]
   refine Rel.b_last rfl (by rfl) (fun w hC hd=>?_) ?_
   ·obtain⟨h1,h2⟩:=hd 12 (by decide);obtain⟨x1,x2,ex⟩:=h1.shape;obtain⟨M,hM⟩:∃M,Hid (M=(g.vs.take k++u::g.vs.drop k).length):=⟨_,rfl⟩;rw[<-hM.out]at ex;rw[ex]at h1 h2;rw[ex];have r7:=(hC.block B (by omega)).trans hbox.out;have r8:=(hC.block (B+2) (by omega)).trans hres.out;have fr:=free_of_block (i:=0) r7;obtain⟨c7,_,_⟩:=box3 r7;have hb0:=hB0.out.trans (hC.mono (by omega));refine post_skip (w.setCell ⟨B,0,none⟩ (.slice x1 M x2)) (by clear hd hO h1 h2 r7 r8 hb0 ex;go_simp) ?_;exact⟨_,heap_setCell_same w B 0 _ 26 _ r7,(heap_setCell_other w _ (B+2) _ (by simp)).trans r8,VL.keep h1 (fun j hj _=>heap_setCell_other w _ j _ (by have:=h2 j hj;simp;omega)) (by simp),h2,hb0.setCell (by exact Nat.le_refl B) _⟩
   try simp only[Act.put,zT,z0,zS]
   refine Rel.b_end ?_;intro w' hfin;obtain⟨x,r7,r8,h1,h2,h4⟩:=hfin;obtain⟨x1,x2,rfl⟩:=h1.shape;obtain⟨M,hM⟩:∃M,Hid (M=(g.vs.take k++u::g.vs.drop k).length):=⟨_,rfl⟩;rw[<-hM.out]at r7 h1 h2;have o1:=Hd h1;have o2:=Hd h2;have o4:=Hd h4;have q7:=Hd r7;have q8:=Hd r8;obtain⟨t0,t1,t2⟩:=box3 r7;clear h1 h2 h4 r7 r8
   go_wp2_with (refine wpList_store_row rfl 26 (.tmp 4) (.tmp 50) rfl (B+2) #[.slice x1 M x2,.slice b1 N2 b2,.slice c1 N3 c2] rfl rfl 26 _ q8.out (size26b _ _ _) rfl (by simp[Value.oneCell']) ?_)
   refine bodyPost_ret (results_cell_tmp_row (fn:=Tryz.f80) rfl _ _ (B+2) 26 #[.slice x1 M x2,.slice b1 N2 b2,.slice c1 N3 c2] (0,0) _ _ rfl rfl (setRow_heap _ _ _ _ _ _ q8.out) Tryz.underlying26 rfl (size26b _ _ _)) rfl ?_;have hbl:=below_row o4.out (show B<=B+2 by omega) #[.slice x1 M x2,.slice b1 N2 b2,.slice c1 N3 c2];have hbl2:Below w0.heap.size w0 (w'.setRow (B+2) #[.slice x1 M x2,.slice b1 N2 b2,.slice c1 N3 c2]):=by rw[<-hB.out];exact hbl
   refine⟨.slice x1 M x2,?_,⟨_,_,_,rfl⟩,hbl2⟩;rw[if_pos (by rw[<-hokv.out];simp[hmh.out])];refine⟨rfl,?_,fun j hj=>by have:=o2.out j hj;rw[<-hB.out];omega⟩;rw[hinh.out];exact VL.keep o1.out (fun j hj _=>setRow_other _ _ _ _ (by have:=o2.out j hj;omega)) (by simp)
 ·have hk2:k=N1:=by omega
  have i1:¬(k:Int)<(N1:Int):=by omega
  have q1:decide ((k:Int)<(N1:Int))=false:=decide_eq_false i1;have hstop:Hid (k=g.vs.length\/ ∃hk:k<g.vs.length,¬g.vs[k].id<u.id):= .inl (by rw[<-hN1.out];exact hk2);clear hk2;go_upto_region 4 with(fail);refine q_region (fun W=>Below w1.heap.size w1 W) (by kernel_rfl) (by kernel_rfl) (kr.out.drew) ?_;iterate 15 (first|(refine q_skip (by rfl) ?_;try simp only[Act.put,zT,z0,zS])|(refine q_take (v:=?_) (by rfl) ?_ ?_;rotate_left;(first|((intro w h;go_simp)<;>with_reducible rfl)|((intro w h;obtain⟨⟨t0,t1,t2⟩,u0,u1⟩:=hT.out w h;go_simp)<;>with_reducible rfl));try simp only[Act.put,zT,z0,zS]))
  refine q_take (v:= .bool false) (by rfl) (fun w hSw=>?_) ?_
  ·go_simp
  try simp only[Act.put,zT,z0,zS]
  refine q_nil ?_;intro wq kq;have kq1:=Hd kq;clear kq;have hins:=ins_at g.vs u hord.out k (by rw[<-hN1.out];omega) hlow.out hstop.out;have hinh:=Hd hins;clear hins hlow hstop;have j5:k<=a2:=by omega
  have j6:¬a2<k:=by omega
  have j7:(k:Int)<=(a2:Int):=by omega
  have j8:(k:Int)<=(N1:Int):=by omega
  have j9:¬N1<k:=by omega
  go_upto_region 6 with(fail);refine Rel.b_region w1 [some (.pointer (some ⟨B,0,none⟩)),some (.slice bo N1 a2),some (.int .i64 (k:Int)),some (.int .i64 (k:Int)),some (.slice bo k k),some (.agg #[.int .i64 u.id,.int .i64 u.side]),none,some (.pointer (some ⟨B,0,none⟩)),some (.slice bo N1 a2),some (.int .i64 (k:Int)),none,none,none,some (.pointer (some ⟨B,0,none⟩)),none] (fun i v W=>match i with
  | 6=>∃nb,v= .slice (some ⟨nb,0,none⟩) 1 1/\B+3<=nb/\VL W v [u]
  | 10=>VL W v (g.vs.drop k)
  | 11=>VL W v (u::g.vs.drop k)/\ ∀j,v.ownBlock=some j->B+3<=j
  | 12=>VL W v (g.vs.take k++u::g.vs.drop k)/\ ∀j,v.ownBlock=some j->B+3<=j
  | _=>True) (fun _ W=>∃x,W.heap[B]?=some (.cells #[x,.slice b1 N2 b2,.slice c1 N3 c2] 26 (0,0))/\W.heap[B+2]?=some (.cells #[.slice none 0 0,.slice none 0 0,.slice none 0 0] 26 (0,0))/\VL W x (g.vs.take k++u::g.vs.drop k)/\(∀j,x.ownBlock=some j->B+3<=j)/\Below B w0 W) 14 (by kernel_rfl) (by kernel_rfl) rfl (fun i v W W' h Bl=>by split at h<;>first|exact trivial|exact VL.below h Bl|exact⟨VL.below h.1 Bl,h.2⟩|(obtain⟨nb,e,h1,h2⟩:=h;exact⟨nb,e,h1,VL.below h2 Bl⟩)) (fun _ _ _ i h=>by have:=i 12 (by decide);exact h) (kq1.out.drew) (fun vals hO=>?_)
  refine Rel.b_pure (.pointer (some ⟨B,0,none⟩)) rfl (by decide) (hO 0 _ rfl) (by rfl) (fun w hC hd=>?_) ?_
  ·clear hd hO;go_simp
  try simp only[Act.put,zT,z0,zS]
  refine Rel.b_pure (.slice bo N1 a2) rfl (by decide) (hO 1 _ rfl) (by rfl) (fun w hC hd=>?_) ?_
  ·obtain⟨⟨t0,t1,t2⟩,u0,u1⟩:=hT.out w hC;clear hd hO;go_simp
  try simp only[Act.put,zT,z0,zS]
  refine Rel.b_pure (.int .i64 (k:Int)) rfl (by decide) (hO 2 _ rfl) (by rfl) (fun w hC hd=>?_) ?_
  ·clear hd hO;go_simp
  try simp only[Act.put,zT,z0,zS]
  refine Rel.b_pure (.int .i64 (k:Int)) rfl (by decide) (hO 3 _ rfl) (by rfl) (fun w hC hd=>?_) ?_
  ·clear hd hO;go_simp
  try simp only[Act.put,zT,z0,zS]
  refine Rel.b_pure (.slice bo k k) rfl (by decide) (hO 4 _ rfl) (by rfl) (fun w hC hd=>?_) ?_
  ·clear hd hO;go_simp
  try simp only[Act.put,zT,z0,zS]
  refine Rel.b_pure (.agg #[.int .i64 u.id,.int .i64 u.side]) rfl (by decide) (hO 5 _ rfl) (by rfl) (fun w hC hd=>?_) ?_
  ·obtain⟨⟨t0,t1,t2⟩,u0,u1⟩:=hT.out w hC;clear hd hO;go_simp
  try simp only[Act.put,zT,z0,zS]
  refine Rel.b_rel rfl (by decide) (by rfl) (fun w hC hd=>?_) ?_
  ·have hB3:B+3<=w.heap.size:=by have:=hC.size;omega
   clear hd hO;refine post_value (.slice (some ⟨w.heap.size,0,none⟩) 1 1) (w.alloc (.cells #[.int .i64 u.id,.int .i64 u.side] 29)) (by go_simp) ⟨(Below.refl _ w).alloc (Nat.le_refl _) _,_,rfl,hB3,?_⟩;refine .inr ⟨by simp,w.heap.size,0,1,rfl,by simp,by simp,fun j x hx=>?_⟩;have hr:=heap_alloc_new w (.cells #[.int .i64 u.id,.int .i64 u.side] 29);cases j with
   | zero=>simp at hx;subst hx;exact⟨by rw[cell_of_row _ _ _ _ _ _ hr];rfl,by rw[cell_of_row _ _ _ _ _ _ hr];rfl⟩
   | succ j=>simp at hx
  try simp only[Act.put,zT,z0,zS]
  refine Rel.b_pure (.pointer (some ⟨B,0,none⟩)) rfl (by decide) (hO 7 _ rfl) (by rfl) (fun w hC hd=>?_) ?_
  ·clear hd hO;go_simp
  try simp only[Act.put,zT,z0,zS]
  refine Rel.b_pure (.slice bo N1 a2) rfl (by decide) (hO 8 _ rfl) (by rfl) (fun w hC hd=>?_) ?_
  ·obtain⟨⟨t0,t1,t2⟩,u0,u1⟩:=hT.out w hC;clear hd hO;go_simp
  try simp only[Act.put,zT,z0,zS]
  refine Rel.b_pure (.int .i64 (k:Int)) rfl (by decide) (hO 9 _ rfl) (by rfl) (fun w hC hd=>?_) ?_
  ·clear hd hO;go_simp
  try simp only[Act.put,zT,z0,zS]
  refine Rel.b_rel rfl (by decide) (by rfl) (fun w hC hd=>?_) ?_
  ·obtain⟨bo',e1,e2⟩:=(hV.out w hC).tail' (i:=k) hN1.out (by omega);clear hd hO;exact post_value (sliced bo k N1 a2 2) w (by go_simp) ⟨Below.refl _ _,by rw[e1];exact e2⟩
  try simp only[Act.put,zT,z0,zS]
  refine Rel.b_rel rfl (by decide) (by rfl) (fun w hC hd=>?_) ?_
  ·obtain⟨nb,e1,h2,h3⟩:=hd 6 (by decide);have h4:=hd 10 (by decide);rw[e1]at h3;obtain⟨v',w',hr,hv,hob,hbel⟩:=app_Vo w (some ⟨nb,0,none⟩) 1 [u] (g.vs.drop k) h3 rfl (vals 10) h4 (by simp) (by rw[List.length_drop,<-hN1.out];omega);refine post_append (.tmp 42) (.tmp 46) 22 rfl _ _ e1 rfl v' w' hr ⟨hbel,hv,fun j hj=>?_⟩;rcases hob j hj with⟨_,e⟩|h
   ·rw[e]at hj;simp[Value.ownBlock]at hj;omega
   ·have:=hC.size;omega
  try simp only[Act.put,zT,z0,zS]
  refine Rel.b_rel rfl (by decide) (by rfl) (fun w hC hd=>?_) ?_
  ·obtain⟨h1,_⟩:=hd 11 (by decide);obtain⟨v',w',hr,hv,hob,hbel⟩:=app_Vo w bo k (g.vs.take k) (u::g.vs.drop k) ((hV.out w hC).take' (by rw[<-hN1.out];omega)) (by rw[List.length_take,<-hN1.out];omega) (vals 11) h1 (by rw[List.length_take,<-hN1.out];omega) (by rw[List.length_cons,List.length_drop,<-hN1.out];omega);refine post_append (.tmp 40) (.tmp 47) 22 rfl _ _ rfl rfl v' w' hr ⟨hbel,hv,fun j hj=>?_⟩;rcases hob j hj with⟨e,_⟩|h
   ·cases e
   ·have:=hC.size;omega
  try simp only[Act.put,zT,z0,zS]
  refine Rel.b_pure (.pointer (some ⟨B,0,none⟩)) rfl (by decide) (hO 13 _ rfl) (by rfl) (fun w hC hd=>?_) ?_
  ·clear hd hO;go_simp
  try simp only[Act.put,zT,z0,zS]
  refine Rel.b_last rfl (by rfl) (fun w hC hd=>?_) ?_
  ·obtain⟨h1,h2⟩:=hd 12 (by decide);obtain⟨x1,x2,ex⟩:=h1.shape;obtain⟨M,hM⟩:∃M,Hid (M=(g.vs.take k++u::g.vs.drop k).length):=⟨_,rfl⟩;rw[<-hM.out]at ex;rw[ex]at h1 h2;rw[ex];have r7:=(hC.block B (by omega)).trans hbox.out;have r8:=(hC.block (B+2) (by omega)).trans hres.out;have fr:=free_of_block (i:=0) r7;obtain⟨c7,_,_⟩:=box3 r7;have hb0:=hB0.out.trans (hC.mono (by omega));refine post_skip (w.setCell ⟨B,0,none⟩ (.slice x1 M x2)) (by clear hd hO h1 h2 r7 r8 hb0 ex;go_simp) ?_;exact⟨_,heap_setCell_same w B 0 _ 26 _ r7,(heap_setCell_other w _ (B+2) _ (by simp)).trans r8,VL.keep h1 (fun j hj _=>heap_setCell_other w _ j _ (by have:=h2 j hj;simp;omega)) (by simp),h2,hb0.setCell (by exact Nat.le_refl B) _⟩
  try simp only[Act.put,zT,z0,zS]
  refine Rel.b_end ?_;intro w' hfin;obtain⟨x,r7,r8,h1,h2,h4⟩:=hfin;obtain⟨x1,x2,rfl⟩:=h1.shape;obtain⟨M,hM⟩:∃M,Hid (M=(g.vs.take k++u::g.vs.drop k).length):=⟨_,rfl⟩;rw[<-hM.out]at r7 h1 h2;have o1:=Hd h1;have o2:=Hd h2;have o4:=Hd h4;have q7:=Hd r7;have q8:=Hd r8;obtain⟨t0,t1,t2⟩:=box3 r7;clear h1 h2 h4 r7 r8
  go_wp2_with (refine wpList_store_row rfl 26 (.tmp 4) (.tmp 50) rfl (B+2) #[.slice x1 M x2,.slice b1 N2 b2,.slice c1 N3 c2] rfl rfl 26 _ q8.out (size26b _ _ _) rfl (by simp[Value.oneCell']) ?_)
  refine bodyPost_ret (results_cell_tmp_row (fn:=Tryz.f80) rfl _ _ (B+2) 26 #[.slice x1 M x2,.slice b1 N2 b2,.slice c1 N3 c2] (0,0) _ _ rfl rfl (setRow_heap _ _ _ _ _ _ q8.out) Tryz.underlying26 rfl (size26b _ _ _)) rfl ?_;have hbl:=below_row o4.out (show B<=B+2 by omega) #[.slice x1 M x2,.slice b1 N2 b2,.slice c1 N3 c2];have hbl2:Below w0.heap.size w0 (w'.setRow (B+2) #[.slice x1 M x2,.slice b1 N2 b2,.slice c1 N3 c2]):=by rw[<-hB.out];exact hbl
  refine⟨.slice x1 M x2,?_,⟨_,_,_,rfl⟩,hbl2⟩;rw[if_pos (by rw[<-hokv.out];simp[hmh.out])];refine⟨rfl,?_,fun j hj=>by have:=o2.out j hj;rw[<-hB.out];omega⟩;rw[hinh.out];exact VL.keep o1.out (fun j hj _=>setRow_other _ _ _ _ (by have:=o2.out j hj;omega)) (by simp)
end Go.Proofs.YtlaldnlgapeckaaGreat
