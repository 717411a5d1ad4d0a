/- Facts. -/
import Derived.Deep.CutRange
import Derived.Test.YthmkmjkbfjhffaaVNVYR
set_option linter.unusedSimpArgs false
set_option maxRecDepth 100000
set_option maxHeartbeats 4000000
namespace Go.Proofs.Ythmkmjkbfjhffaa
open Go.RowKit
def F5.cells(r:F5):Array Value:= #[.int .i64 r.a,.int .i64 r.b,.int .i64 r.c,.int .i64 r.d,.int .i64 r.e]
def LieF(W:World)(b o:Nat)(l:List F5):Prop:=∀j r,l[j]?=some r->∀i u,r.cells[i]?=some u->W.cell? ⟨b,o+j*5+i,none⟩=some u
def L5(W:World)(v:Value)(l:List F5):Prop :=
 (l=[]/\ ∃a c,v= .slice a 0 c)\/(l≠[]/\ ∃b o c,v= .slice (some ⟨b,o,none⟩) l.length c/\l.length<=c/\b<W.heap.size/\LieF W b o l)
theorem L5.shape{W:World}{v:Value}{l:List F5}(h:L5 W v l):∃a c,v= .slice a l.length c:=by
 rcases h with⟨rfl,a,c,rfl⟩|⟨_,b,o,c,rfl,_⟩
 ·exact⟨_,_,rfl⟩
 ·exact⟨_,_,rfl⟩
theorem L5.at_{W:World}{v:Value}{l:List F5}(h:L5 W v l)(k:Nat)(hk:k<l.length):∃b o c,v= .slice (some ⟨b,o,none⟩) l.length c/\b<W.heap.size/\ ∀W',Below W.heap.size W W'->W'.cell? ⟨b,o+k*5,none⟩=some (.int .i64 l[k].a)/\W'.cell? ⟨b,o+k*5+1,none⟩=some (.int .i64 l[k].b)/\W'.cell? ⟨b,o+k*5+2,none⟩=some (.int .i64 l[k].c)/\W'.cell? ⟨b,o+k*5+3,none⟩=some (.int .i64 l[k].d)/\W'.cell? ⟨b,o+k*5+4,none⟩=some (.int .i64 l[k].e):=by
 rcases h with⟨rfl,_⟩|⟨_,b,o,c,rfl,h2,h3,h4⟩
 ·simp at hk
 ·refine⟨b,o,c,rfl,h3,fun W' B=>?_⟩;have key:=fun i u (hi:l[k].cells[i]?=some u)=>h4 k _ (List.getElem?_eq_getElem hk) i u hi;refine⟨?_,?_,?_,?_,?_⟩<;>rw[B.cell (by simpa using h3)]
  ·exact key 0 _ rfl
  ·exact key 1 _ rfl
  ·exact key 2 _ rfl
  ·exact key 3 _ rfl
  ·exact key 4 _ rfl
def i64B(n:Int):Prop:= -9223372036854775808<=n/\n<=9223372036854775807
theorem tdivB{n:Int}(h:i64B n)(m:Int)(hm:2<=m): -4611686018427387904<=n.tdiv m/\n.tdiv m<=4611686018427387904:=by
 obtain⟨h1,h2⟩:=h;rcases Int.le_total 0 n with h|h
 ·rw[Int.tdiv_eq_ediv_of_nonneg h];have a1:0<=n / m:=Int.ediv_nonneg h (by omega);have a2:n / m<=n / 2:=by
   apply(Int.le_ediv_iff_mul_le (by omega)).2;have:=Int.ediv_mul_le n (show m≠0 by omega);have h3:n / m*2<=n / m*m:=Int.mul_le_mul_of_nonneg_left hm a1;omega
  omega
 ·have e:n.tdiv m= -((-n) / m):=by rw[<-Int.tdiv_eq_ediv_of_nonneg (by omega),Int.neg_tdiv,Int.neg_neg]
  rw[e];have a1:0<=(-n) / m:=Int.ediv_nonneg (by omega) (by omega);have a2:(-n) / m<=(-n) / 2:=by
   apply(Int.le_ediv_iff_mul_le (by omega)).2;have:=Int.ediv_mul_le (-n) (show m≠0 by omega);have h3:(-n) / m*2<=(-n) / m*m:=Int.mul_le_mul_of_nonneg_left hm a1;omega
  omega
theorem ed_cells{W:World}{g:Nat}{u:Ed}(h:W.heap[g]?=some (.cells (edCells u) 40 (0,0))):
  W.cell? ⟨g,0,none⟩=some (.int .i64 u.id)/\W.cell? ⟨g,1,none⟩=some (.int .i64 u.src)/\W.cell? ⟨g,2,none⟩=some (.int .i64 u.dst)/\W.cell? ⟨g,3,none⟩=some (.bool u.dir)/\W.cell? ⟨g,4,none⟩=some (.int .i64 u.wt)/\W.cell? ⟨g,5,none⟩=some (.int .i64 u.cap):=by
 refine⟨?_,?_,?_,?_,?_,?_⟩<;>(rw[cell_of_row _ _ _ _ _ _ h];rfl)
theorem below_row{W W':World}{B b:Nat}(h:Below B W W')(hb:B<=b)(cs:Array Value):Below B W (W'.setRow b cs) :=
 h.trans ⟨rfl,rfl,rfl,by simp,fun k hk=>setRow_other W' b k _ (by omega)⟩
theorem own_setRowB{W:World}{b:Nat}{cs:Array Value}{v:Value}{B e k n:Nat}{xs:List Value}(h:W.ownsRow B e k v n xs)(hlt:b<B):(W.setRow b cs).ownsRow B e k v n xs:=by
 refine⟨h.1,?_⟩;rcases h.2 with h2|⟨g,cap,cur,h1,h3,h4,h5⟩
 ·exact .inl h2
 ·exact .inr ⟨g,cap,cur,h1,h3,by rw[setRow_other _ _ _ _ (by omega)];exact h4,h5⟩
theorem own_low{W:World}{v:Value}{B B' e k n:Nat}{xs:List Value}(h:W.ownsRow B e k v n xs)(hb:B'<=B):W.ownsRow B' e k v n xs:=by
 refine⟨h.1,?_⟩;rcases h.2 with h2|⟨g,cap,cur,h1,h3,h4,h5⟩
 ·exact .inl h2
 ·exact .inr ⟨g,cap,cur,h1,by omega,h4,h5⟩
theorem size26b(x y z:Value):(Try.prog.info? 28).map (·.size)=some (#[x,y,z]:Array Value).size:=by kernel_rfl
theorem MkS.vAt{w0 W:World}{b vg vo N vc:Nat}{y z:Value}{g:Gr}(h:MkS w0 b (.slice (some ⟨vg,vo,none⟩) N vc) y z g W)(k:Nat)(hk:k<g.vs.length):W.cell? ⟨vg,vo+k*2,none⟩=some (.int .i64 g.vs[k].id)/\vg<W.heap.size:=by
 obtain⟨b',o',c',he,_,h2,h3⟩:=h.v.VL.own (fun e=>by rw[e]at hk;simp at hk);injection he with he1 he2 he3
 injection he1 with he1
 injection he1 with he1 he4
 subst he1 he4;exact⟨(h3 k _ (List.getElem?_eq_getElem hk)).1,h2⟩
theorem free_of_block{W:World}{b i:Nat}{cs:Array Value}{t:TypeId}(h:W.heap[b]?=some (.cells cs t (0,0))):W.frozen? ⟨b,i,none⟩=false:=by simp[World.frozen?,h]
theorem Made_any(n:Int)(vl:Value)(l:List F5)(wide:Bool)(w:World)(hl:L5 w vl l)(hn:i64B n)(hlen:l.length<=9223372036854775807)(hr:∀r∈l,i64B r.a/\i64B r.b/\i64B r.c/\i64B r.d/\i64B r.e):
  Calls Try.prog 8 #[.int .i64 n,vl,.bool wide] w fun e w'=>∃x y z,e= .returned (.agg #[x,y,z])/\OwnV w' w.heap.size x (madeG n l wide).vs/\OwnEd w' w.heap.size y (madeG n l wide).es/\OwnI w' w.heap.size z (madeG n l wide).ds/\Below w.heap.size w w':=by
 have k8:=Hd (fun W=>pickR_any n 8 W hn.1 hn.2 (by omega) (by omega));obtain⟨m,hm,hm8⟩:∃m:Nat,pk n 8=m/\m<8:=⟨(pk n 8).toNat,by have:=pk_lo n 8 (by omega);omega,by have:=pk_lt n 8 (by omega);have:=pk_lo n 8 (by omega);omega⟩;rw[hm]at k8;have hnb:=Hd hn;have t8:=tdivB hn 8 (by omega);have t16:=tdivB hn 16 (by omega);have t64:=tdivB hn 64 (by omega);have t4:=tdivB hn 4 (by omega);have t32:=tdivB hn 32 (by omega);obtain⟨N,hN⟩:∃N,Hid (N=mkN n wide):=⟨_,rfl⟩;have hNv:Hid ((N:Int)=1+(m:Int)+(if wide=true then 10 else 0)):=by
  show _=_;rw[hN.out];unfold mkN;rw[hm];cases wide<;>simp<;>omega
 have hN18:N<=18:=by have:=mkN_le n wide;rw[hN.out];split at this<;>omega
 have hN1:1<=N:=by rw[hN.out];exact mkN_pos n wide
 obtain⟨o,ho⟩:∃o,Hid (o=mkOdd n wide):=⟨_,rfl⟩;obtain⟨a,c,rfl⟩:=hl.shape;have hlh:=Hd hl;obtain⟨M,hM⟩:∃M,Hid (M=l.length):=⟨_,rfl⟩;rw[<-hM.out]at hlen ⊢;have hrh:=Hd hr;clear hl hr hm;obtain⟨wA,hwA⟩:∃wA,wA=(w.alloc (.cells #[.slice none 0 0,.slice none 0 0,.slice none 0 0] 28)).alloc (.cells #[.slice none 0 0,.slice none 0 0,.slice none 0 0] 28):=⟨_,rfl⟩;obtain⟨b,hb⟩:∃b,b=w.heap.size:=⟨_,rfl⟩;have hA0:MkS w b (.slice none 0 0) (.slice none 0 0) (.slice none 0 0) ⟨[],[],[]⟩ wA:=by
  have z1:wA.heap.size=b+2:=by rw[hwA,hb];simp
  refine⟨?_,?_,World.ownsRow_nil _ _ _ _,World.ownsRow_nil _ _ _ _,World.ownsRow_nil _ _ _ _,?_,by omega⟩
  ·rw[hwA,hb];exact al_keep1 (heap_alloc_new w _)
  ·rw[hwA,hb];have:=heap_alloc_new (w.alloc (.cells #[.slice none 0 0,.slice none 0 0,.slice none 0 0] 28)) (.cells #[.slice none 0 0,.slice none 0 0,.slice none 0 0] 28);simpa using this
  ·rw[hwA,hb];exact((Below.refl _ w).alloc (Nat.le_refl _) _).alloc (by simp) _
 have hA:=Hd hA0;have hwAh:=Hd hwA;have hbh:=Hd hb;clear hA0 hwA hb hn;go_enter Try.func8,Try.ntmps8;go_wp2_with fail;with_reducible refine(k8.out _).mono ?_
 rintro e w1 ⟨rfl,rfl⟩;rw[<-hwAh.out,<-hbh.out]
 go_upto_if 18 with(fail)
 go_cut [8]from 18 to 20 (fun s8 wx=>s8= .int .i64 (N:Int)/\wx=wA)
 case first =>
  cases wide
  ·have e1:(N:Int)=1+(m:Int):=by rw[hNv.out];simp
   go_wp2_with fail
   go_meet
   case rel=>exact⟨by rw[e1],rfl⟩
  ·have e1:(N:Int)=1+(m:Int)+10:=by rw[hNv.out];simp
   go_wp2_with fail
   go_meet
   case rel=>exact⟨by rw[e1],rfl⟩
 case rest =>
  obtain⟨rfl,rfl⟩:=hcut;clear hNv k8 hwAh;obtain⟨wA,rfl⟩:∃wA',wA'=wc:=⟨_,rfl⟩;go_wp2_with fail
  go_loopw [9] (fun i wr=>∃(k:Nat) (x1:Option Addr) (x2 x3:Nat),k<=N/\i= .int .i64 k/\Hid (MkS w b (.slice x1 x2 x3) (.slice none 0 0) (.slice none 0 0) ⟨(List.range k).map (mkV n o),[],[]⟩ wr)) (fun i _=>N-(intOf i).toNat)
  case atStart=>exact⟨0,none,0,0,by omega,rfl,hA.out⟩
  case round =>
   obtain⟨k,x1,x2,x3,hk,rfl,hS⟩:=hrel;by_cases hlt:k<N
   ·have i0:(0:Int)<=(k:Int):=by omega
    have i1:(k:Int)<(N:Int):=by omega
    go_upto_region 9 with(fail)
    go_cut [34]from 21 to 55 (fun s34 wx=>s34= .bool o/\wx=wr)
    case first =>
     cases wide
     ·have ho2:Hid (o=(pk (n.tdiv 8) 2==1)):=by show _=_;rw[ho.out];unfold mkOdd;simp
      have kp:=Hd (fun W=>pickR_any (n.tdiv 8) 2 W (by omega) (by omega) (by omega) (by omega));generalize pk (n.tdiv 8) 2=p8 at *
      go_wp2_with fail;with_reducible refine(kp.out _).mono ?_
      rintro e w1 ⟨rfl,rfl⟩;go_wp2_with fail
      go_meet
      case rel=>exact⟨by rw[ho2.out],rfl⟩
     ·have e2:o=false:=by rw[ho.out];unfold mkOdd;simp
      go_wp2_with fail
      go_meet
      case rel=>exact⟨by rw[e2],rfl⟩
    case rest =>
    obtain⟨rfl,rfl⟩:=hcut;obtain⟨wr,rfl⟩:∃wr',wr'=wc:=⟨_,rfl⟩
    go_upto_if 34 with(fail)
    go_cut [10]from 21 to 55 (fun s10 wx=>s10= .int .i64 (mkId o k)/\wx=wr)
    case first =>
     cases o
     ·have e2:mkId false k=(k:Int):=by unfold mkId;simp
      go_wp2_with fail
      go_meet
      case rel=>exact⟨by rw[e2],rfl⟩
     ·have e2:mkId true k=(k:Int)+(k:Int) / 2:=by unfold mkId;simp
      go_wp2_with fail
      go_meet
      case rel=>exact⟨by rw[e2],rfl⟩
    case rest =>
     obtain⟨rfl,rfl⟩:=hcut;obtain⟨wr,rfl⟩:∃wr',wr'=wc:=⟨_,rfl⟩;have hpq:=Hd (fun W=>pickR_any (n.tdiv 64) 3 W (by omega) (by omega) (by omega) (by omega));have hsn:Hid ((List.range (k+1)).map (mkV n o)=(List.range k).map (mkV n o)++[⟨mkId o k,pk (n.tdiv 16+(k:Int)*(1+pk (n.tdiv 64) 3)) 4⟩]):=by
      show _=_;rw[List.range_succ,List.map_append];rfl
     have q0:=pk_lo (n.tdiv 64) 3 (by omega);have q1:=pk_lt (n.tdiv 64) 3 (by omega);generalize pk (n.tdiv 64) 3=q at *
     have q2:0<=(k:Int)*(1+q):=Int.mul_nonneg (by omega) (by omega);have q3:(k:Int)*(1+q)<=18*3:=Int.mul_le_mul (by omega) (by omega) (by omega) (by omega);have f01:IntKind.i64.wrap (n.tdiv 64)=n.tdiv 64:=IntWalk.i64_in _ (by omega);have f02:IntKind.i64.wrap (n.tdiv 16)=n.tdiv 16:=IntWalk.i64_in _ (by omega);have f1:IntKind.i64.wrap (1+q)=1+q:=IntWalk.i64_in _ (by omega);have f2:IntKind.i64.wrap ((k:Int)*(1+q))=(k:Int)*(1+q):=IntWalk.i64_in _ (by omega);have f3:IntKind.i64.wrap (n.tdiv 16+(k:Int)*(1+q))=n.tdiv 16+(k:Int)*(1+q):=IntWalk.i64_in _ (by omega);have hadd:=Hd (hS.out.drew.addV ⟨mkId o k,pk (n.tdiv 16+(k:Int)*(1+q)) 4⟩ (by simp;omega));have c0:wr.cell? ⟨b+1,0,none⟩=some (.slice x1 x2 x3):=by rw[cell_of_row _ _ _ _ _ _ hS.out.box];rfl
     have hb1:b+1<wr.heap.size:=by have:=hS.out.sz;omega
     have sK:=Hd (show ∀W,Below wr.heap.size wr W->W.cell? ⟨b+1,0,none⟩=some (.slice x1 x2 x3)from fun W BW=>by rw[BW.cell (p:=⟨b+1,0,none⟩) (by simpa using hb1)];exact c0);have hS0:=Hd (sK.out wr.drew (Below.refl _ _).drew);clear c0;go_wp2_with fail;refine wp_region_F (fun w':World=>w'.cell? ⟨b+1,0,none⟩=some (.slice x1 x2 x3)) 17 (by kernel_rfl) hS0.out (fun hHeld=>?_);refine tkP 0 rfl ?_;refine tkP 1 rfl ?_;refine tkP 2 rfl ?_;refine tkP 3 rfl ?_;refine tkP 4 rfl ?_;refine tkP 5 rfl ?_;refine tkP 6 rfl ?_;refine tkP 7 rfl ?_;refine wpAnyC_take (i:=8) (oi:=⟨some 47,.call {callee:= .value (.func 27),args:= #[(.tmp 46),(.const (.int .i64 3))],argTypes:= #[3,3]},_,_,_,none⟩) (v:=(.int .i64 q)) rfl (by kernel_rfl) (by kernel_rfl) (by kernel_rfl) (by kernel_rfl) (fun _ _ _ h=>h) (by rfl) (fun wq hq=>answers_call Try.f27 rfl Try.func27 (by kernel_rfl) (by kernel_rfl) #[.int .i64 (n.tdiv 64),.int .i64 3] (by simp[Act.eval]) (hpq.out wq)) (by assumption) ?_;try simp only[Act.put,zT,z0,zS]
     refine tkP 9 rfl ?_;refine tkP 10 rfl ?_;refine tkP 11 rfl ?_;refine wpAnyC_take (i:=12) (oi:=⟨some 51,.call {callee:= .value (.func 27),args:= #[(.tmp 50),(.const (.int .i64 4))],argTypes:= #[3,3]},_,_,_,none⟩) (v:=(.int .i64 (pk (n.tdiv 16+(k:Int)*(1+q)) 4))) rfl (by kernel_rfl) (by kernel_rfl) (by kernel_rfl) (by kernel_rfl) (fun _ _ _ h=>h) (by rfl) (fun wq hq=>answers_call Try.f27 rfl Try.func27 (by kernel_rfl) (by kernel_rfl) #[.int .i64 (n.tdiv 16+(k:Int)*(1+q)),.int .i64 4] (by simp[Act.eval]) (pickR_any _ _ wq (by omega) (by omega) (by omega) (by omega))) (by assumption) ?_;try simp only[Act.put,zT,z0,zS]
     refine tkP 13 rfl ?_;refine rdy [14] ?_;refine arC rfl (fun K hK=>?_) ?_
     ·skip
      go_simp;go_wp2_with fail;refine hK.out _ _ ?_ (fun hHeld=>?_)
      ·exact sK.out _ ((Below.refl _ wr).drew.alloc (Nat.le_refl _) _)
      clear hK K;try simp only[Act.put,zT,z0,zS]
      refine rdy [15] ?_;refine arC rfl (fun K hK=>?_) ?_
      ·skip
       obtain⟨y1,y2,y3,w',hr,hbx,hnew,_⟩:=hadd.out;have f8:=free_of_block (i:=0) hbx;have c8:w'.cell? ⟨b+1,0,none⟩=some (.slice x1 x2 x3):=by rw[cell_of_row _ _ _ _ _ _ hbx];rfl
       refine wp_append_run (.tmp 40) (.tmp 53) 24 rfl (.slice x1 x2 x3) (.slice (some ⟨wr.heap.size,0,none⟩) 1 1) rfl rfl _ _ hr ?_;refine hK.out _ _ ?_ (fun hHeld=>?_)
       ·exact c8
       clear hK K;try simp only[Act.put,zT,z0,zS]
       refine tkP 16 rfl ?_;refine rdy [17] ?_;refine AllReadyF.last (o:=⟨none,.store 24 (.tmp 55) (.tmp 54),_,_,_,none⟩) rfl (fun K hK=>?_) ?_
       ·skip
        go_simp;go_wp2_with fail;refine hK.out _ _ ?_;clear hK K;try simp only[Act.put,zT,z0,zS]
        refine wpAnyF_done (by kernel_rfl) ?_ _;have hend:=Hd hnew;clear hnew f8 c8 hbx hr;go_wp2_with fail
        go_roundw
        case rel=>exact⟨k+1,_,_,_,by omega,by go_num,by show MkS _ _ _ _ _ _ _;rw[hsn.out];exact hend.out⟩
        case measure=>simp[intOf];omega
       exact AllReadyF.nil
      exact AllReadyF.nil
     exact AllReadyF.nil
   ·have hkN:N=k:=by omega
    have i1:¬(k:Int)<(N:Int):=by omega
    subst hkN;have hV:Hid ((List.range N).map (mkV n o)=madeV n wide):=by show _=_;unfold madeV;rw[<-hN.out,<-ho.out]
    have hVl:(madeV n wide).length=N:=by rw[madeV_len,hN.out]
    obtain⟨vg,vo,vc,he,_⟩:=hS.out.v.VL.own (fun e=>by rw[hV.out]at e;replace e:madeV n wide=[]:=e;rw[e]at hVl;simp at hVl;omega);rw[hV.out]at hS he;replace he:Value.slice x1 x2 x3= .slice (some ⟨vg,vo,none⟩) (madeV n wide).length vc:=he;rw[hVl]at he;injection he with he1 he2 he3
    replace he2:=he2.symm;replace he3:=he3.symm;subst he1 he2 he3;have hVid:Hid (∀(j:Nat) (hj:j<(madeV n wide).length),(madeV n wide)[j].id=mkId o j):=by
     intro j hj;have h1:=madeV_at n wide j (by rw[madeV_len]at hj;exact hj);rw[List.getElem?_eq_getElem hj]at h1;injection h1 with h1
     rw[h1,ho.out];rfl
    obtain⟨LV,hLV⟩:∃LV,Hid (LV=madeV n wide):=⟨_,rfl⟩;rw[<-hLV.out]at hS hVl hVid;have hVh:=Hd hVl;clear hlt hk i1 hA hV hVl;obtain⟨wB,rfl⟩:∃wB,wB=wr:=⟨_,rfl⟩;go_wp2_with fail
    go_loopw [11] (fun i wr=>∃(k:Nat) (y1:Option Addr) (y2 y3:Nat),k<=M/\k<=20/\i= .int .i64 k/\Hid (MkS w b (.slice (some ⟨vg,vo,none⟩) N vc) (.slice y1 y2 y3) (.slice none 0 0) ⟨LV,madeE n wide (l.take k),[]⟩ wr)) (fun i _=>20-(intOf i).toNat)
    case atStart=>exact⟨0,none,0,0,by omega,by omega,rfl,hS.out⟩
    case round =>
     clear hS;obtain⟨k,y1,y2,y3,hk,hk2,rfl,hS⟩:=hrel;have i0:(0:Int)<=(k:Int):=by omega
     by_cases hlt:k<M/\k<20
     ·obtain⟨hlt,hlt2⟩:=hlt;have i1:(k:Int)<(M:Int):=by omega
      have i2:(k:Int)<20:=by omega
      have hkl:k<l.length:=by rw[<-hM.out];exact hlt
      obtain⟨lb,lo,lc,he,hcell⟩:=hlh.out.at_ k hkl;injection he with he1 _ he3
      subst he1 he3;have hbr:=hrh.out l[k] (List.getElem_mem hkl);have hsn:Hid (madeE n wide (l.take (k+1))=madeE n wide (l.take k)++[mkE n wide k l[k]]):=madeE_snoc n wide l k hkl hlt2;have hEl:Hid ((madeE n wide (l.take k)).length=k):=by
       show _=_;unfold madeE
       simp;omega
      generalize madeE n wide (l.take k)=LE at *
      have hcl:=hcell.2 wr (by rw[<-hbh.out];exact hS.out.below);obtain⟨u,hu⟩:∃u,Hid (u=mkE n wide k l[k]):=⟨mkE n wide k l[k],rfl⟩;have hlb:lb<wr.heap.size:=Nat.lt_of_lt_of_le hcell.1 hS.out.below.size;have hu1:Hid (u.id=(k:Int)+pk (n.tdiv 4) 20):=by show _=_;rw[hu.out];rfl
      have hu2:Hid (u.src=mkId o (pk l[k].a N).toNat):=by show _=_;rw[hu.out,ho.out,hN.out];rfl
      have hu3:Hid (u.dst=mkId o (pk l[k].b N).toNat):=by show _=_;rw[hu.out,ho.out,hN.out];rfl
      have hu4:Hid (u.dir=(pk l[k].c 2==1)):=by show _=_;rw[hu.out];rfl
      have hu5:Hid (u.wt=if pk l[k].e 11=10 then pk l[k].d 2001-1000 else pk l[k].d 12-3):=by show _=_;rw[hu.out];rfl
      have hu6:Hid (u.cap=pk l[k].e 6):=by show _=_;rw[hu.out];rfl
      rw[<-hu.out]at hsn;clear hu hcell;generalize l[k]=r at *
      have hp4:=Hd (fun W=>pickR_any (n.tdiv 4) 20 W (by omega) (by omega) (by omega) (by omega));have hpa:=Hd (fun W=>pickR_any r.a (N:Int) W hbr.1.1 hbr.1.2 (by omega) (by omega));have hpb:=Hd (fun W=>pickR_any r.b (N:Int) W hbr.2.1.1 hbr.2.1.2 (by omega) (by omega));have hpc:=Hd (fun W=>pickR_any r.c 2 W hbr.2.2.1.1 hbr.2.2.1.2 (by omega) (by omega));have hpd:=Hd (fun W=>pickR_any r.d 12 W hbr.2.2.2.1.1 hbr.2.2.2.1.2 (by omega) (by omega));have hpe:=Hd (fun W=>pickR_any r.e 6 W hbr.2.2.2.2.1 hbr.2.2.2.2.2 (by omega) (by omega));obtain⟨p,hp,hpN⟩:∃p:Nat,pk r.a N=p/\p<N:=⟨(pk r.a N).toNat,by have:=pk_lo r.a N (by omega);omega,pk_toNat _ _ hN1⟩;obtain⟨q,hq,hqN⟩:∃q:Nat,pk r.b N=q/\q<N:=⟨(pk r.b N).toNat,by have:=pk_lo r.b N (by omega);omega,pk_toNat _ _ hN1⟩;rw[hp]at hpa hu2;rw[hq]at hpb hu3;rw[Int.toNat_natCast]at hu2 hu3;clear hp hq;have a0:=pk_lo (n.tdiv 4) 20 (by omega);have a1:=pk_lt (n.tdiv 4) 20 (by omega);have a2:=pk_lo r.d 12 (by omega);have a3:=pk_lt r.d 12 (by omega);generalize pk (n.tdiv 4) 20=p4 at *
      generalize pk r.c 2=p2 at *
      generalize pk r.d 12=p12 at *
      generalize pk r.e 6=p6 at *
      have v1:=(hS.out.vAt p (by show p<LV.length;rw[hVh.out];exact hpN)).1;have v2:=(hS.out.vAt q (by show q<LV.length;rw[hVh.out];exact hqN)).1;have hvg:=(hS.out.vAt p (by show p<LV.length;rw[hVh.out];exact hpN)).2;rw[show(⟨LV,LE,[]⟩:Gr).vs[p]'(by show p<LV.length;rw[hVh.out];exact hpN)=LV[p]'(by rw[hVh.out];exact hpN)from rfl,hVid.out p (by rw[hVh.out];exact hpN)]at v1;rw[show(⟨LV,LE,[]⟩:Gr).vs[q]'(by show q<LV.length;rw[hVh.out];exact hqN)=LV[q]'(by rw[hVh.out];exact hqN)from rfl,hVid.out q (by rw[hVh.out];exact hqN)]at v2;generalize mkId o p=ip at *
      generalize mkId o q=iq at *
      have f1:IntKind.i64.wrap (n.tdiv 4)=n.tdiv 4:=IntWalk.i64_in _ (by omega);have f2:IntKind.i64.wrap ((k:Int)+p4)=(k:Int)+p4:=IntWalk.i64_in _ (by omega);have f3:IntKind.i64.wrap (p12-3)=p12-3:=IntWalk.i64_in _ (by omega);have j0:(0:Int)<=(p:Int):=by omega
      have j1:(p:Int)<(N:Int):=by omega
      have j2:(0:Int)<=(q:Int):=by omega
      have j3:(q:Int)<(N:Int):=by omega
      have c0:wr.cell? ⟨b+1,0,none⟩=some (.slice (some ⟨vg,vo,none⟩) N vc):=by rw[cell_of_row _ _ _ _ _ _ hS.out.box];rfl
      have hb1:b+1<wr.heap.size:=by have:=hS.out.sz;omega
      have sK:=Hd (show ∀W,Below wr.heap.size wr W->W.cell? ⟨b+1,0,none⟩=some (.slice (some ⟨vg,vo,none⟩) N vc)/\W.cell? ⟨lb,lo+k*5,none⟩=some (.int .i64 r.a)/\W.cell? ⟨lb,lo+k*5+1,none⟩=some (.int .i64 r.b)/\W.cell? ⟨lb,lo+k*5+2,none⟩=some (.int .i64 r.c)/\W.cell? ⟨lb,lo+k*5+3,none⟩=some (.int .i64 r.d)/\W.cell? ⟨lb,lo+k*5+4,none⟩=some (.int .i64 r.e)/\W.cell? ⟨vg,vo+p*2,none⟩=some (.int .i64 ip)/\W.cell? ⟨vg,vo+q*2,none⟩=some (.int .i64 iq)from fun W BW=>by
       refine⟨?_,?_,?_,?_,?_,?_,?_,?_⟩
       ·rw[BW.cell (by simpa using hb1)];exact c0
       ·rw[BW.cell (by simpa using hlb)];exact hcl.1
       ·rw[BW.cell (by simpa using hlb)];exact hcl.2.1
       ·rw[BW.cell (by simpa using hlb)];exact hcl.2.2.1
       ·rw[BW.cell (by simpa using hlb)];exact hcl.2.2.2.1
       ·rw[BW.cell (by simpa using hlb)];exact hcl.2.2.2.2
       ·rw[BW.cell (by simpa using hvg)];exact v1
       ·rw[BW.cell (by simpa using hvg)];exact v2)
      have hS0:=Hd (sK.out wr.drew (Below.refl _ _).drew);have hce:=Hd (And.intro hcl.2.2.2.1 hcl.2.2.2.2);clear c0 hcl v1 v2;go_wp2_with fail;refine wp_region_F (fun w':World=>w'.cell? ⟨b+1,0,none⟩=some (.slice (some ⟨vg,vo,none⟩) N vc)/\w'.cell? ⟨lb,lo+k*5,none⟩=some (.int .i64 r.a)/\w'.cell? ⟨lb,lo+k*5+1,none⟩=some (.int .i64 r.b)/\w'.cell? ⟨lb,lo+k*5+2,none⟩=some (.int .i64 r.c)/\w'.cell? ⟨lb,lo+k*5+3,none⟩=some (.int .i64 r.d)/\w'.cell? ⟨lb,lo+k*5+4,none⟩=some (.int .i64 r.e)/\w'.cell? ⟨vg,vo+p*2,none⟩=some (.int .i64 ip)/\w'.cell? ⟨vg,vo+q*2,none⟩=some (.int .i64 iq)) 51 (by kernel_rfl) hS0.out (fun hHeld=>?_);refine tkP 0 rfl ?_;refine tkP 1 rfl ?_;refine tkP 2 rfl ?_;refine wpAnyC_take (i:=3) (oi:=⟨some 69,.call {callee:= .value (.func 27),args:= #[(.tmp 68),(.const (.int .i64 20))],argTypes:= #[3,3]},_,_,_,none⟩) (v:=(.int .i64 p4)) rfl (by kernel_rfl) (by kernel_rfl) (by kernel_rfl) (by kernel_rfl) (fun _ _ _ h=>h) (by rfl) (fun wq hq=>answers_call Try.f27 rfl Try.func27 (by kernel_rfl) (by kernel_rfl) #[.int .i64 (n.tdiv 4),.int .i64 20] (by simp[Act.eval]) (hp4.out wq)) (by assumption) ?_;try simp only[Act.put,zT,z0,zS]
      refine tkP 4 rfl ?_;refine tkP 5 rfl ?_;refine tkP 6 rfl ?_;refine tkP 7 rfl ?_;refine tkP 8 rfl ?_;refine tkP 9 rfl ?_;refine tkP 10 rfl ?_;refine tkP 11 rfl ?_;refine tkP 12 rfl ?_;refine wpAnyC_take (i:=13) (oi:=⟨some 79,.call {callee:= .value (.func 27),args:= #[(.tmp 77),(.tmp 78)],argTypes:= #[3,3]},_,_,_,none⟩) (v:=(.int .i64 (p:Int))) rfl (by kernel_rfl) (by kernel_rfl) (by kernel_rfl) (by kernel_rfl) (fun _ _ _ h=>h) (by rfl) (fun wq hq=>answers_call Try.f27 rfl Try.func27 (by kernel_rfl) (by kernel_rfl) #[.int .i64 r.a,.int .i64 (N:Int)] (by simp[Act.eval]) (hpa.out wq)) (by assumption) ?_;try simp only[Act.put,zT,z0,zS]
      refine tkP 14 rfl ?_;refine tkP 15 rfl ?_;refine tkP 16 rfl ?_;refine tkP 17 rfl ?_;refine tkP 18 rfl ?_;refine tkP 19 rfl ?_;refine tkP 20 rfl ?_;refine tkP 21 rfl ?_;refine tkP 22 rfl ?_;refine tkP 23 rfl ?_;refine tkP 24 rfl ?_;refine wpAnyC_take (i:=25) (oi:=⟨some 91,.call {callee:= .value (.func 27),args:= #[(.tmp 89),(.tmp 90)],argTypes:= #[3,3]},_,_,_,none⟩) (v:=(.int .i64 (q:Int))) rfl (by kernel_rfl) (by kernel_rfl) (by kernel_rfl) (by kernel_rfl) (fun _ _ _ h=>h) (by rfl) (fun wq hq=>answers_call Try.f27 rfl Try.func27 (by kernel_rfl) (by kernel_rfl) #[.int .i64 r.b,.int .i64 (N:Int)] (by simp[Act.eval]) (hpb.out wq)) (by assumption) ?_;try simp only[Act.put,zT,z0,zS]
      refine tkP 26 rfl ?_;refine tkP 27 rfl ?_;refine tkP 28 rfl ?_;refine tkP 29 rfl ?_;refine tkP 30 rfl ?_;refine tkP 31 rfl ?_;refine tkP 32 rfl ?_;refine tkP 33 rfl ?_;refine wpAnyC_take (i:=34) (oi:=⟨some 100,.call {callee:= .value (.func 27),args:= #[(.tmp 99),(.const (.int .i64 2))],argTypes:= #[3,3]},_,_,_,none⟩) (v:=(.int .i64 p2)) rfl (by kernel_rfl) (by kernel_rfl) (by kernel_rfl) (by kernel_rfl) (fun _ _ _ h=>h) (by rfl) (fun wq hq=>answers_call Try.f27 rfl Try.func27 (by kernel_rfl) (by kernel_rfl) #[.int .i64 r.c,.int .i64 2] (by simp[Act.eval]) (hpc.out wq)) (by assumption) ?_;try simp only[Act.put,zT,z0,zS]
      refine tkP 35 rfl ?_;refine tkP 36 rfl ?_;refine tkP 37 rfl ?_;refine tkP 38 rfl ?_;refine tkP 39 rfl ?_;refine tkP 40 rfl ?_;refine wpAnyC_take (i:=41) (oi:=⟨some 107,.call {callee:= .value (.func 27),args:= #[(.tmp 106),(.const (.int .i64 12))],argTypes:= #[3,3]},_,_,_,none⟩) (v:=(.int .i64 p12)) rfl (by kernel_rfl) (by kernel_rfl) (by kernel_rfl) (by kernel_rfl) (fun _ _ _ h=>h) (by rfl) (fun wq hq=>answers_call Try.f27 rfl Try.func27 (by kernel_rfl) (by kernel_rfl) #[.int .i64 r.d,.int .i64 12] (by simp[Act.eval]) (hpd.out wq)) (by assumption) ?_;try simp only[Act.put,zT,z0,zS]
      refine tkP 42 rfl ?_;refine tkP 43 rfl ?_;refine tkP 44 rfl ?_;refine tkP 45 rfl ?_;refine tkP 46 rfl ?_;refine tkP 47 rfl ?_;refine wpAnyC_take (i:=48) (oi:=⟨some 114,.call {callee:= .value (.func 27),args:= #[(.tmp 113),(.const (.int .i64 6))],argTypes:= #[3,3]},_,_,_,none⟩) (v:=(.int .i64 p6)) rfl (by kernel_rfl) (by kernel_rfl) (by kernel_rfl) (by kernel_rfl) (fun _ _ _ h=>h) (by rfl) (fun wq hq=>answers_call Try.f27 rfl Try.func27 (by kernel_rfl) (by kernel_rfl) #[.int .i64 r.e,.int .i64 6] (by simp[Act.eval]) (hpe.out wq)) (by assumption) ?_;try simp only[Act.put,zT,z0,zS]
      refine tkP 49 rfl ?_;refine rdy [50] ?_;refine arC rfl (fun K hK=>?_) ?_
      ·skip
       go_simp;go_wp2_with fail;refine hK.out _ _ ?_ (fun hHeld=>?_)
       ·exact sK.out _ ((Below.refl _ wr).drew.alloc (Nat.le_refl _) _)
       clear hK K;try simp only[Act.put,zT,z0,zS]
       refine rdy [51] ?_;refine AllReadyF.last (o:=⟨none,.store 40 (.tmp 12) (.tmp 115),_,_,_,none⟩) rfl (fun K hK=>?_) ?_
       ·skip
        go_simp;go_wp2_with fail;refine hK.out _ _ ?_;clear hK K;try simp only[Act.put,zT,z0,zS]
        refine wpAnyF_done (by kernel_rfl) ?_ _;have hpf:=Hd (fun W=>pickR_any r.e 11 W hbr.2.2.2.2.1 hbr.2.2.2.2.2 (by omega) (by omega));have hpg:=Hd (fun W=>pickR_any r.d 2001 W hbr.2.2.2.1.1 hbr.2.2.2.1.2 (by omega) (by omega));have pB0:=pk_lo r.d 2001 (by omega);have pB1:=pk_lt r.d 2001 (by omega);generalize pk r.e 11=p11 at *
        generalize pk r.d 2001=pB at *
        obtain⟨cD,cE⟩:=hce.out;have nD:=World.new_ne wr _ cD;have nE:=World.new_ne wr _ cE;obtain⟨we,hwe⟩:∃we,Hid (we=(wr.alloc (.cells (edCells u) 40)).drew):=⟨_,rfl⟩;go_wp2_with fail;refine(hpf.out _).mono ?_;rintro e w1 ⟨rfl,rfl⟩
        go_upto_if 122 with(fail)
        go_cut []from 56 to 136 (fun wx=>wx=we)
        case first =>
         by_cases h10:p11=10
         ·have e1:(p11==10)=true:=by simpa using h10
          have e2:u.wt=pB-1000:=by rw[hu5.out,if_pos h10]
          go_wp2_with fail;refine(hpg.out _).mono ?_;rintro e w1 ⟨rfl,rfl⟩;go_wp2_with fail
          go_meet
          case rel=>rw[hwe.out,edCells,hu1.out,hu2.out,hu3.out,hu4.out,e2,hu6.out]
         ·have e1:(p11==10)=false:=by simpa using h10
          have e2:u.wt=p12-3:=by rw[hu5.out,if_neg h10]
          go_wp2_with fail
          go_meet
          case rel=>rw[hwe.out,edCells,hu1.out,hu2.out,hu3.out,hu4.out,e2,hu6.out]
        case rest =>
         clear cD cE nD nE hce;obtain rfl:=hcut;obtain⟨we,rfl⟩:∃we',we'=wc:=⟨_,rfl⟩;obtain⟨ge,hge⟩:∃ge,ge=wr.heap.size:=⟨_,rfl⟩;have Bwe:Below wr.heap.size wr we:=by rw[hwe.out];exact((Below.refl _ wr).alloc (Nat.le_refl _) _).drew
         have hSe:=Hd (hS.out.same Bwe);have hgr0:we.heap[ge]?=some (.cells (edCells u) 40 (0,0)):=by rw[hwe.out,hge];exact heap_alloc_new wr _
         obtain⟨z1,z2,z3,w',hr,hbx,hnew,_⟩:=hSe.out.addE u (by show LE.length<=1000;rw[hEl.out];omega);have f8:=free_of_block (i:=1) hbx;have c8:w'.cell? ⟨b+1,1,none⟩=some (.slice y1 y2 y3):=by rw[cell_of_row _ _ _ _ _ _ hbx];rfl
         have c7:we.cell? ⟨b+1,1,none⟩=some (.slice y1 y2 y3):=by rw[cell_of_row _ _ _ _ _ _ hSe.out.box];rfl
         obtain⟨e0,e1,e2,e3,e4,e5⟩:=ed_cells hgr0;have hend:=Hd hnew;unfold edCells at hr;rw[<-hge];clear hwe hge hgr0 Bwe hpf hpg hu1 hu2 hu3 hu4 hu5 hu6 hnew hbx
         go_wp2_with (at_builtin;refine wpList_append_runB rfl (.tmp 132) (.tmp 134) 25 rfl (.slice y1 y2 y3) (.slice (some ⟨we.heap.size,0,none⟩) 1 1) rfl rfl _ _ hr ?_)
         go_roundw
         case rel=>exact⟨k+1,_,_,_,by omega,by omega,by go_num,by show MkS _ _ _ _ _ _ _;rw[hsn.out];exact hend.out⟩
         case measure=>simp[intOf];omega
       exact AllReadyF.nil
      exact AllReadyF.nil
     ·have hfin:Hid (madeE n wide (l.take k)=madeE n wide l):=madeE_all n wide l k (by rw[<-hM.out];omega);by_cases h1:k<M
      ·have i1:(k:Int)<(M:Int):=by omega
       have i2:¬(k:Int)<20:=by omega
       rw[hfin.out]at hS;have hS3:Hid (MkS w b (.slice (some ⟨vg,vo,none⟩) N vc) (.slice y1 y2 y3) (.slice none 0 0) ⟨LV,madeE n wide l,(keysV LV).take 0⟩ wr):=hS;clear hS;obtain⟨wB,rfl⟩:∃wB,wB=wr:=⟨_,rfl⟩;have k32:=Hd (fun W=>pickR_any (n.tdiv 32) 4 W (by omega) (by omega) (by omega) (by omega));obtain⟨q3,hq3,hq4⟩:∃q3:Nat,pk (n.tdiv 32) 4=q3/\q3<4:=⟨(pk (n.tdiv 32) 4).toNat,by have:=pk_lo (n.tdiv 32) 4 (by omega);omega,pk_toNat _ 4 (by omega)⟩;have hDs:Hid (madeD n wide=(keysV LV).take q3):=by show _=_;unfold madeD;rw[<-hLV.out,hq3,Int.toNat_natCast]
       rw[hq3]at k32;have f32:IntKind.i64.wrap (n.tdiv 32)=n.tdiv 32:=IntWalk.i64_in _ (by omega);clear hq3 hlt;go_wp2_with fail
       go_loopw [13] (fun i wr=>∃(k:Nat) (d1:Option Addr) (d2 d3:Nat),k<=N/\k<=q3/\i= .int .i64 k/\Hid (MkS w b (.slice (some ⟨vg,vo,none⟩) N vc) (.slice y1 y2 y3) (.slice d1 d2 d3) ⟨LV,madeE n wide l,(keysV LV).take k⟩ wr)) (fun i _=>4-(intOf i).toNat)
       case atStart=>exact⟨0,none,0,0,by omega,by omega,rfl,hS3.out⟩
       case round =>
        clear hS3;obtain⟨k,d1,d2,d3,hk,hk2,rfl,hS⟩:=hrel;have i0:(0:Int)<=(k:Int):=by omega
        by_cases hlt:k<q3
        ·have i1:(k:Int)<(q3:Int):=by omega
         by_cases hlt2:k<N
         ·have i2:(k:Int)<(N:Int):=by omega
          have hkl:k<LV.length:=by rw[hVh.out];exact hlt2
          have hsn:Hid ((keysV LV).take (k+1)=(keysV LV).take k++[mkId o k]):=by
           show _=_;rw[List.take_succ_eq_append_getElem (by simpa[keysV]using hkl)];congr 2;simp only[keysV,List.getElem_map];exact hVid.out k hkl
          have v1:=hS.out.vAt k hkl;rw[show(⟨LV,madeE n wide l,(keysV LV).take k⟩:Gr).vs[k]'hkl=LV[k]'hkl from rfl,hVid.out k hkl]at v1;obtain⟨v1,hvg⟩:=v1;have hck:Hid (wr.drew.cell? ⟨vg,vo+k*2,none⟩=some (.int .i64 (mkId o k))):=v1;have hadd:=Hd (hS.out.drew.addD (mkId o k) (by show((keysV LV).take k).length<=1000;rw[List.length_take];omega));have hvd:(Value.slice d1 d2 d3).ownBlock≠some vg:=fun q=>by
           obtain⟨_,cur,h2⟩:=own_row hS.out.d vg q;obtain⟨_,cur2,h3⟩:=own_row hS.out.v vg rfl;rw[h2]at h3;simp at h3
          generalize (keysV LV).take k=LD at *
          generalize mkId o k=ik at *
          have c0:wr.cell? ⟨b+1,2,none⟩=some (.slice d1 d2 d3):=by rw[cell_of_row _ _ _ _ _ _ hS.out.box];rfl
          have c1:wr.cell? ⟨b+1,0,none⟩=some (.slice (some ⟨vg,vo,none⟩) N vc):=by rw[cell_of_row _ _ _ _ _ _ hS.out.box];rfl
          have hb1:b+1<wr.heap.size:=by have:=hS.out.sz;omega
          have sK:=Hd (show ∀W,Below wr.heap.size wr W->W.cell? ⟨b+1,2,none⟩=some (.slice d1 d2 d3)/\W.cell? ⟨b+1,0,none⟩=some (.slice (some ⟨vg,vo,none⟩) N vc)/\W.cell? ⟨vg,vo+k*2,none⟩=some (.int .i64 ik)from fun W BW=>⟨by rw[BW.cell (by simpa using hb1)];exact c0,by rw[BW.cell (by simpa using hb1)];exact c1,by rw[BW.cell (by simpa using hvg)];exact v1⟩);have hS0:=Hd (sK.out wr.drew (Below.refl _ _).drew);clear c0 c1 v1;go_wp2_with fail;with_reducible refine(k32.out _).mono ?_
          rintro e w1 ⟨rfl,rfl⟩;go_wp2_with fail;refine wp_region_F (fun w':World=>w'.cell? ⟨b+1,2,none⟩=some (.slice d1 d2 d3)/\w'.cell? ⟨b+1,0,none⟩=some (.slice (some ⟨vg,vo,none⟩) N vc)/\w'.cell? ⟨vg,vo+k*2,none⟩=some (.int .i64 ik)) 11 (by kernel_rfl) hS0.out (fun hHeld=>?_);refine tkP 0 rfl ?_;refine tkP 1 rfl ?_;refine tkP 2 rfl ?_;refine tkP 3 rfl ?_;refine tkP 4 rfl ?_;refine tkP 5 rfl ?_;refine tkP 6 rfl ?_;refine tkP 7 rfl ?_;refine rdy [8] ?_;refine arC rfl (fun K hK=>?_) ?_
          ·skip
           go_simp;go_wp2_with fail;refine hK.out _ _ ?_ (fun hHeld=>?_)
           ·exact sK.out _ ((Below.refl _ wr).drew.alloc (Nat.le_refl _) _)
           clear hK K;try simp only[Act.put,zT,z0,zS]
           refine rdy [9] ?_;refine arC rfl (fun K hK=>?_) ?_
           ·skip
            obtain⟨z1,z2,z3,w',hr,hbx,hnew,hkp⟩:=hadd.out;have hwe:=(World.cell?_of_block (w:=wr.drew) (hkp vg hvg hvd)).trans hck.out;clear hkp;have f8:=free_of_block (i:=2) hbx;have c8:w'.cell? ⟨b+1,2,none⟩=some (.slice d1 d2 d3):=by rw[cell_of_row _ _ _ _ _ _ hbx];rfl
            refine wp_append_run (.tmp 150) (.tmp 157) 26 rfl (.slice d1 d2 d3) (.slice (some ⟨wr.heap.size,0,none⟩) 1 1) rfl rfl _ _ hr ?_;refine hK.out _ _ ?_ (fun hHeld=>?_)
            ·exact⟨c8,by rw[cell_of_row _ _ _ _ _ _ hbx];rfl,hwe⟩
            clear hK K;try simp only[Act.put,zT,z0,zS]
            refine tkP 10 rfl ?_;refine rdy [11] ?_;refine AllReadyF.last (o:=⟨none,.store 26 (.tmp 159) (.tmp 158),_,_,_,none⟩) rfl (fun K hK=>?_) ?_
            ·skip
             go_simp;go_wp2_with fail;refine hK.out _ _ ?_;clear hK K;try simp only[Act.put,zT,z0,zS]
             refine wpAnyF_done (by kernel_rfl) ?_ _;have hend:=Hd hnew;clear hnew hwe f8 c8 hbx hr;go_wp2_with fail
             go_roundw
             case rel=>exact⟨k+1,_,_,_,by omega,by omega,by go_num,by show MkS _ _ _ _ _ _ _;rw[hsn.out];exact hend.out⟩
             case measure=>simp[intOf];omega
            exact AllReadyF.nil
           exact AllReadyF.nil
          exact AllReadyF.nil
         ·have hfin:Hid ((keysV LV).take k=madeD n wide):=by
           show _=_;rw[hDs.out,List.take_of_length_le (by simp[keysV,hVh.out];omega),List.take_of_length_le (by simp[keysV,hVh.out];omega)]
          have i2:¬(k:Int)<(N:Int):=by omega
          rw[hfin.out]at hS;have hg:Hid ((⟨LV,madeE n wide l,madeD n wide⟩:Gr)=madeG n l wide):=by show _=_;rw[hLV.out];rfl
          rw[hg.out]at hS;have hbx:=Hd hS.out.box;have hrs:=Hd hS.out.res;have hend:=Hd (show OwnV (wr.setRow b #[.slice (some ⟨vg,vo,none⟩) N vc,.slice y1 y2 y3,.slice d1 d2 d3]) b (.slice (some ⟨vg,vo,none⟩) N vc) (madeG n l wide).vs/\OwnEd (wr.setRow b #[.slice (some ⟨vg,vo,none⟩) N vc,.slice y1 y2 y3,.slice d1 d2 d3]) b (.slice y1 y2 y3) (madeG n l wide).es/\OwnI (wr.setRow b #[.slice (some ⟨vg,vo,none⟩) N vc,.slice y1 y2 y3,.slice d1 d2 d3]) b (.slice d1 d2 d3) (madeG n l wide).ds from⟨own_low (own_setRowB hS.out.v (by omega)) (by omega),own_low (own_setRowB hS.out.e (by omega)) (by omega),own_low (own_setRowB hS.out.d (by omega)) (by omega)⟩);have hBf:=Hd (below_row (b:=b) hS.out.below (Nat.le_refl _) #[.slice (some ⟨vg,vo,none⟩) N vc,.slice y1 y2 y3,.slice d1 d2 d3]);rw[hbh.out]at hBf;clear hS hfin hg hq4 hk hk2;go_wp2_with fail;with_reducible refine(k32.out _).mono ?_
          rintro e w1 ⟨rfl,rfl⟩
          go_wp2_with (first
           | (refine wpList_load_row rfl 28 (.tmp 7) rfl (b+1) rfl 28 #[.slice (some ⟨vg,vo,none⟩) N vc,.slice y1 y2 y3,.slice d1 d2 d3] (0,0) _ hbx.out Try.underlying28 rfl (size26b _ _ _) ?_)
           | (refine wpList_store_row rfl 28 (.tmp 6) (.tmp 160) rfl b #[.slice (some ⟨vg,vo,none⟩) N vc,.slice y1 y2 y3,.slice d1 d2 d3] rfl rfl 28 _ hrs.out (size26b _ _ _) rfl (by simp[Value.oneCell']) ?_))
          refine bodyPost_ret (v:=_) (results_cell_row (fn:=Try.f8) rfl _ _ b 28 #[.slice (some ⟨vg,vo,none⟩) N vc,.slice y1 y2 y3,.slice d1 d2 d3] (0,0) _ rfl (setRow_heap _ _ _ _ _ _ hrs.out) Try.underlying28 rfl (size26b _ _ _)) rfl ?_;have hend2:=hend.out;have hend2:=hend.out;exact⟨_,_,_,rfl,by rw[<-hbh.out];exact hend2.1,by rw[<-hbh.out];exact hend2.2.1,by rw[<-hbh.out];exact hend2.2.2,by rw[hbh.out]at *;exact hBf.out⟩
        ·have hfin:Hid ((keysV LV).take k=madeD n wide):=by
          show _=_;rw[hDs.out,show k=q3 by omega]
         have i1:¬(k:Int)<(q3:Int):=by omega
         rw[hfin.out]at hS;have hg:Hid ((⟨LV,madeE n wide l,madeD n wide⟩:Gr)=madeG n l wide):=by show _=_;rw[hLV.out];rfl
         rw[hg.out]at hS;have hbx:=Hd hS.out.box;have hrs:=Hd hS.out.res;have hend:=Hd (show OwnV (wr.setRow b #[.slice (some ⟨vg,vo,none⟩) N vc,.slice y1 y2 y3,.slice d1 d2 d3]) b (.slice (some ⟨vg,vo,none⟩) N vc) (madeG n l wide).vs/\OwnEd (wr.setRow b #[.slice (some ⟨vg,vo,none⟩) N vc,.slice y1 y2 y3,.slice d1 d2 d3]) b (.slice y1 y2 y3) (madeG n l wide).es/\OwnI (wr.setRow b #[.slice (some ⟨vg,vo,none⟩) N vc,.slice y1 y2 y3,.slice d1 d2 d3]) b (.slice d1 d2 d3) (madeG n l wide).ds from⟨own_low (own_setRowB hS.out.v (by omega)) (by omega),own_low (own_setRowB hS.out.e (by omega)) (by omega),own_low (own_setRowB hS.out.d (by omega)) (by omega)⟩);have hBf:=Hd (below_row (b:=b) hS.out.below (Nat.le_refl _) #[.slice (some ⟨vg,vo,none⟩) N vc,.slice y1 y2 y3,.slice d1 d2 d3]);rw[hbh.out]at hBf;clear hS hfin hg hq4 hk hk2;go_wp2_with fail;with_reducible refine(k32.out _).mono ?_
         rintro e w1 ⟨rfl,rfl⟩
         go_wp2_with (first
          | (refine wpList_load_row rfl 28 (.tmp 7) rfl (b+1) rfl 28 #[.slice (some ⟨vg,vo,none⟩) N vc,.slice y1 y2 y3,.slice d1 d2 d3] (0,0) _ hbx.out Try.underlying28 rfl (size26b _ _ _) ?_)
          | (refine wpList_store_row rfl 28 (.tmp 6) (.tmp 160) rfl b #[.slice (some ⟨vg,vo,none⟩) N vc,.slice y1 y2 y3,.slice d1 d2 d3] rfl rfl 28 _ hrs.out (size26b _ _ _) rfl (by simp[Value.oneCell']) ?_))
         refine bodyPost_ret (v:=_) (results_cell_row (fn:=Try.f8) rfl _ _ b 28 #[.slice (some ⟨vg,vo,none⟩) N vc,.slice y1 y2 y3,.slice d1 d2 d3] (0,0) _ rfl (setRow_heap _ _ _ _ _ _ hrs.out) Try.underlying28 rfl (size26b _ _ _)) rfl ?_;have hend2:=hend.out;have hend2:=hend.out;exact⟨_,_,_,rfl,by rw[<-hbh.out];exact hend2.1,by rw[<-hbh.out];exact hend2.2.1,by rw[<-hbh.out];exact hend2.2.2,by rw[hbh.out]at *;exact hBf.out⟩
      ·have i1:¬(k:Int)<(M:Int):=by omega
       rw[hfin.out]at hS;have hS3:Hid (MkS w b (.slice (some ⟨vg,vo,none⟩) N vc) (.slice y1 y2 y3) (.slice none 0 0) ⟨LV,madeE n wide l,(keysV LV).take 0⟩ wr):=hS;clear hS;obtain⟨wB,rfl⟩:∃wB,wB=wr:=⟨_,rfl⟩;have k32:=Hd (fun W=>pickR_any (n.tdiv 32) 4 W (by omega) (by omega) (by omega) (by omega));obtain⟨q3,hq3,hq4⟩:∃q3:Nat,pk (n.tdiv 32) 4=q3/\q3<4:=⟨(pk (n.tdiv 32) 4).toNat,by have:=pk_lo (n.tdiv 32) 4 (by omega);omega,pk_toNat _ 4 (by omega)⟩;have hDs:Hid (madeD n wide=(keysV LV).take q3):=by show _=_;unfold madeD;rw[<-hLV.out,hq3,Int.toNat_natCast]
       rw[hq3]at k32;have f32:IntKind.i64.wrap (n.tdiv 32)=n.tdiv 32:=IntWalk.i64_in _ (by omega);clear hq3 hlt;go_wp2_with fail
       go_loopw [13] (fun i wr=>∃(k:Nat) (d1:Option Addr) (d2 d3:Nat),k<=N/\k<=q3/\i= .int .i64 k/\Hid (MkS w b (.slice (some ⟨vg,vo,none⟩) N vc) (.slice y1 y2 y3) (.slice d1 d2 d3) ⟨LV,madeE n wide l,(keysV LV).take k⟩ wr)) (fun i _=>4-(intOf i).toNat)
       case atStart=>exact⟨0,none,0,0,by omega,by omega,rfl,hS3.out⟩
       case round =>
        clear hS3;obtain⟨k,d1,d2,d3,hk,hk2,rfl,hS⟩:=hrel;have i0:(0:Int)<=(k:Int):=by omega
        by_cases hlt:k<q3
        ·have i1:(k:Int)<(q3:Int):=by omega
         by_cases hlt2:k<N
         ·have i2:(k:Int)<(N:Int):=by omega
          have hkl:k<LV.length:=by rw[hVh.out];exact hlt2
          have hsn:Hid ((keysV LV).take (k+1)=(keysV LV).take k++[mkId o k]):=by
           show _=_;rw[List.take_succ_eq_append_getElem (by simpa[keysV]using hkl)];congr 2;simp only[keysV,List.getElem_map];exact hVid.out k hkl
          have v1:=hS.out.vAt k hkl;rw[show(⟨LV,madeE n wide l,(keysV LV).take k⟩:Gr).vs[k]'hkl=LV[k]'hkl from rfl,hVid.out k hkl]at v1;obtain⟨v1,hvg⟩:=v1;have hck:Hid (wr.drew.cell? ⟨vg,vo+k*2,none⟩=some (.int .i64 (mkId o k))):=v1;have hadd:=Hd (hS.out.drew.addD (mkId o k) (by show((keysV LV).take k).length<=1000;rw[List.length_take];omega));have hvd:(Value.slice d1 d2 d3).ownBlock≠some vg:=fun q=>by
           obtain⟨_,cur,h2⟩:=own_row hS.out.d vg q;obtain⟨_,cur2,h3⟩:=own_row hS.out.v vg rfl;rw[h2]at h3;simp at h3
          generalize (keysV LV).take k=LD at *
          generalize mkId o k=ik at *
          have c0:wr.cell? ⟨b+1,2,none⟩=some (.slice d1 d2 d3):=by rw[cell_of_row _ _ _ _ _ _ hS.out.box];rfl
          have c1:wr.cell? ⟨b+1,0,none⟩=some (.slice (some ⟨vg,vo,none⟩) N vc):=by rw[cell_of_row _ _ _ _ _ _ hS.out.box];rfl
          have hb1:b+1<wr.heap.size:=by have:=hS.out.sz;omega
          have sK:=Hd (show ∀W,Below wr.heap.size wr W->W.cell? ⟨b+1,2,none⟩=some (.slice d1 d2 d3)/\W.cell? ⟨b+1,0,none⟩=some (.slice (some ⟨vg,vo,none⟩) N vc)/\W.cell? ⟨vg,vo+k*2,none⟩=some (.int .i64 ik)from fun W BW=>⟨by rw[BW.cell (by simpa using hb1)];exact c0,by rw[BW.cell (by simpa using hb1)];exact c1,by rw[BW.cell (by simpa using hvg)];exact v1⟩);have hS0:=Hd (sK.out wr.drew (Below.refl _ _).drew);clear c0 c1 v1;go_wp2_with fail;with_reducible refine(k32.out _).mono ?_
          rintro e w1 ⟨rfl,rfl⟩;go_wp2_with fail;refine wp_region_F (fun w':World=>w'.cell? ⟨b+1,2,none⟩=some (.slice d1 d2 d3)/\w'.cell? ⟨b+1,0,none⟩=some (.slice (some ⟨vg,vo,none⟩) N vc)/\w'.cell? ⟨vg,vo+k*2,none⟩=some (.int .i64 ik)) 11 (by kernel_rfl) hS0.out (fun hHeld=>?_);refine tkP 0 rfl ?_;refine tkP 1 rfl ?_;refine tkP 2 rfl ?_;refine tkP 3 rfl ?_;refine tkP 4 rfl ?_;refine tkP 5 rfl ?_;refine tkP 6 rfl ?_;refine tkP 7 rfl ?_;refine rdy [8] ?_;refine arC rfl (fun K hK=>?_) ?_
          ·skip
           go_simp;go_wp2_with fail;refine hK.out _ _ ?_ (fun hHeld=>?_)
           ·exact sK.out _ ((Below.refl _ wr).drew.alloc (Nat.le_refl _) _)
           clear hK K;try simp only[Act.put,zT,z0,zS]
           refine rdy [9] ?_;refine arC rfl (fun K hK=>?_) ?_
           ·skip
            obtain⟨z1,z2,z3,w',hr,hbx,hnew,hkp⟩:=hadd.out;have hwe:=(World.cell?_of_block (w:=wr.drew) (hkp vg hvg hvd)).trans hck.out;clear hkp;have f8:=free_of_block (i:=2) hbx;have c8:w'.cell? ⟨b+1,2,none⟩=some (.slice d1 d2 d3):=by rw[cell_of_row _ _ _ _ _ _ hbx];rfl
            refine wp_append_run (.tmp 150) (.tmp 157) 26 rfl (.slice d1 d2 d3) (.slice (some ⟨wr.heap.size,0,none⟩) 1 1) rfl rfl _ _ hr ?_;refine hK.out _ _ ?_ (fun hHeld=>?_)
            ·exact⟨c8,by rw[cell_of_row _ _ _ _ _ _ hbx];rfl,hwe⟩
            clear hK K;try simp only[Act.put,zT,z0,zS]
            refine tkP 10 rfl ?_;refine rdy [11] ?_;refine AllReadyF.last (o:=⟨none,.store 26 (.tmp 159) (.tmp 158),_,_,_,none⟩) rfl (fun K hK=>?_) ?_
            ·skip
             go_simp;go_wp2_with fail;refine hK.out _ _ ?_;clear hK K;try simp only[Act.put,zT,z0,zS]
             refine wpAnyF_done (by kernel_rfl) ?_ _;have hend:=Hd hnew;clear hnew hwe f8 c8 hbx hr;go_wp2_with fail
             go_roundw
             case rel=>exact⟨k+1,_,_,_,by omega,by omega,by go_num,by show MkS _ _ _ _ _ _ _;rw[hsn.out];exact hend.out⟩
             case measure=>simp[intOf];omega
            exact AllReadyF.nil
           exact AllReadyF.nil
          exact AllReadyF.nil
         ·have hfin:Hid ((keysV LV).take k=madeD n wide):=by
           show _=_;rw[hDs.out,List.take_of_length_le (by simp[keysV,hVh.out];omega),List.take_of_length_le (by simp[keysV,hVh.out];omega)]
          have i2:¬(k:Int)<(N:Int):=by omega
          rw[hfin.out]at hS;have hg:Hid ((⟨LV,madeE n wide l,madeD n wide⟩:Gr)=madeG n l wide):=by show _=_;rw[hLV.out];rfl
          rw[hg.out]at hS;have hbx:=Hd hS.out.box;have hrs:=Hd hS.out.res;have hend:=Hd (show OwnV (wr.setRow b #[.slice (some ⟨vg,vo,none⟩) N vc,.slice y1 y2 y3,.slice d1 d2 d3]) b (.slice (some ⟨vg,vo,none⟩) N vc) (madeG n l wide).vs/\OwnEd (wr.setRow b #[.slice (some ⟨vg,vo,none⟩) N vc,.slice y1 y2 y3,.slice d1 d2 d3]) b (.slice y1 y2 y3) (madeG n l wide).es/\OwnI (wr.setRow b #[.slice (some ⟨vg,vo,none⟩) N vc,.slice y1 y2 y3,.slice d1 d2 d3]) b (.slice d1 d2 d3) (madeG n l wide).ds from⟨own_low (own_setRowB hS.out.v (by omega)) (by omega),own_low (own_setRowB hS.out.e (by omega)) (by omega),own_low (own_setRowB hS.out.d (by omega)) (by omega)⟩);have hBf:=Hd (below_row (b:=b) hS.out.below (Nat.le_refl _) #[.slice (some ⟨vg,vo,none⟩) N vc,.slice y1 y2 y3,.slice d1 d2 d3]);rw[hbh.out]at hBf;clear hS hfin hg hq4 hk hk2;go_wp2_with fail;with_reducible refine(k32.out _).mono ?_
          rintro e w1 ⟨rfl,rfl⟩
          go_wp2_with (first
           | (refine wpList_load_row rfl 28 (.tmp 7) rfl (b+1) rfl 28 #[.slice (some ⟨vg,vo,none⟩) N vc,.slice y1 y2 y3,.slice d1 d2 d3] (0,0) _ hbx.out Try.underlying28 rfl (size26b _ _ _) ?_)
           | (refine wpList_store_row rfl 28 (.tmp 6) (.tmp 160) rfl b #[.slice (some ⟨vg,vo,none⟩) N vc,.slice y1 y2 y3,.slice d1 d2 d3] rfl rfl 28 _ hrs.out (size26b _ _ _) rfl (by simp[Value.oneCell']) ?_))
          refine bodyPost_ret (v:=_) (results_cell_row (fn:=Try.f8) rfl _ _ b 28 #[.slice (some ⟨vg,vo,none⟩) N vc,.slice y1 y2 y3,.slice d1 d2 d3] (0,0) _ rfl (setRow_heap _ _ _ _ _ _ hrs.out) Try.underlying28 rfl (size26b _ _ _)) rfl ?_;have hend2:=hend.out;have hend2:=hend.out;exact⟨_,_,_,rfl,by rw[<-hbh.out];exact hend2.1,by rw[<-hbh.out];exact hend2.2.1,by rw[<-hbh.out];exact hend2.2.2,by rw[hbh.out]at *;exact hBf.out⟩
        ·have hfin:Hid ((keysV LV).take k=madeD n wide):=by
          show _=_;rw[hDs.out,show k=q3 by omega]
         have i1:¬(k:Int)<(q3:Int):=by omega
         rw[hfin.out]at hS;have hg:Hid ((⟨LV,madeE n wide l,madeD n wide⟩:Gr)=madeG n l wide):=by show _=_;rw[hLV.out];rfl
         rw[hg.out]at hS;have hbx:=Hd hS.out.box;have hrs:=Hd hS.out.res;have hend:=Hd (show OwnV (wr.setRow b #[.slice (some ⟨vg,vo,none⟩) N vc,.slice y1 y2 y3,.slice d1 d2 d3]) b (.slice (some ⟨vg,vo,none⟩) N vc) (madeG n l wide).vs/\OwnEd (wr.setRow b #[.slice (some ⟨vg,vo,none⟩) N vc,.slice y1 y2 y3,.slice d1 d2 d3]) b (.slice y1 y2 y3) (madeG n l wide).es/\OwnI (wr.setRow b #[.slice (some ⟨vg,vo,none⟩) N vc,.slice y1 y2 y3,.slice d1 d2 d3]) b (.slice d1 d2 d3) (madeG n l wide).ds from⟨own_low (own_setRowB hS.out.v (by omega)) (by omega),own_low (own_setRowB hS.out.e (by omega)) (by omega),own_low (own_setRowB hS.out.d (by omega)) (by omega)⟩);have hBf:=Hd (below_row (b:=b) hS.out.below (Nat.le_refl _) #[.slice (some ⟨vg,vo,none⟩) N vc,.slice y1 y2 y3,.slice d1 d2 d3]);rw[hbh.out]at hBf;clear hS hfin hg hq4 hk hk2;go_wp2_with fail;with_reducible refine(k32.out _).mono ?_
         rintro e w1 ⟨rfl,rfl⟩
         go_wp2_with (first
          | (refine wpList_load_row rfl 28 (.tmp 7) rfl (b+1) rfl 28 #[.slice (some ⟨vg,vo,none⟩) N vc,.slice y1 y2 y3,.slice d1 d2 d3] (0,0) _ hbx.out Try.underlying28 rfl (size26b _ _ _) ?_)
          | (refine wpList_store_row rfl 28 (.tmp 6) (.tmp 160) rfl b #[.slice (some ⟨vg,vo,none⟩) N vc,.slice y1 y2 y3,.slice d1 d2 d3] rfl rfl 28 _ hrs.out (size26b _ _ _) rfl (by simp[Value.oneCell']) ?_))
         refine bodyPost_ret (v:=_) (results_cell_row (fn:=Try.f8) rfl _ _ b 28 #[.slice (some ⟨vg,vo,none⟩) N vc,.slice y1 y2 y3,.slice d1 d2 d3] (0,0) _ rfl (setRow_heap _ _ _ _ _ _ hrs.out) Try.underlying28 rfl (size26b _ _ _)) rfl ?_;have hend2:=hend.out;have hend2:=hend.out;exact⟨_,_,_,rfl,by rw[<-hbh.out];exact hend2.1,by rw[<-hbh.out];exact hend2.2.1,by rw[<-hbh.out];exact hend2.2.2,by rw[hbh.out]at *;exact hBf.out⟩
end Go.Proofs.Ythmkmjkbfjhffaa
