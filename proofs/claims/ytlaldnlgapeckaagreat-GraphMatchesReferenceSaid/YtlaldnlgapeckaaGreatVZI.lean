/- Facts. -/
import Derived.Lib.ConvBytes
import Derived.Test.YtlaldnlgapeckaaGreatVMC
import Derived.Test.YtlaldnlgapeckaaGreatVZEc
import Derived.Test.YtlaldnlgapeckaaGreatVZG
set_option linter.unusedSimpArgs false
set_option maxRecDepth 100000
set_option maxHeartbeats 4000000
set_option maxRecDepth 1000000
set_option maxHeartbeats 8000000
namespace Go.Proofs.YtlaldnlgapeckaaGreat
open Go.RowKit
theorem mmin_run(x m:Nat)(ts:Array TypeId)(t:TypeId)(w:World)(c:Int)(hc:c=m):(Builtin.min_ ts t #[.int .i64 (x:Int),.int .i64 c]).run Tryz.prog w= .ok (.int .i64 ((min x m:Nat):Int)) w:=by
 rw[run_min_int2]
 subst hc
 congr 2
 split<;>omega
theorem VL.upto{W:World}{a:Option Addr}{c:Nat}{l:List Vx}(h:VL W (.slice a l.length c) l)(m:Nat):VL W (.slice a (min l.length m) c) (l.take m)/\l.length<=c:=by
 rcases h with⟨rfl,_⟩|⟨h0,b,o,c',e,h2,h3,h4⟩
 · exact⟨.inl ⟨by simp,a,c,by simp⟩,Nat.zero_le _⟩
 · injection e with e1 _ e3
   subst e1 e3
   refine⟨?_,h2⟩
   by_cases hm:m=0
   · subst hm;exact .inl ⟨by simp,some ⟨b,o,none⟩,c,by simp⟩
   · refine .inr ⟨?_,b,o,c,by rw[List.length_take,Nat.min_comm],by rw[List.length_take];omega,h3,fun j x hx=>?_⟩
     · intro e;have h5:=congrArg List.length e;rw[List.length_take,List.length_nil]at h5;have h6:l.length≠0:=fun q=>h0 (List.length_eq_zero_iff.1 q);omega
     · have hj:j<m:=by have:=(List.getElem?_eq_some_iff.1 hx).1;rw[List.length_take]at this;omega
       rw[List.getElem?_take_of_lt hj]at hx
       exact h4 j x hx
theorem EL.upto{W:World}{a:Option Addr}{c:Nat}{l:List Ed}(h:EL W (.slice a l.length c) l)(m:Nat):EL W (.slice a (min l.length m) c) (l.take m)/\l.length<=c:=by
 rcases h with⟨rfl,_⟩|⟨h0,b,o,c',e,h2,h3,h4⟩
 · exact⟨.inl ⟨by simp,a,c,by simp⟩,Nat.zero_le _⟩
 · injection e with e1 _ e3
   subst e1 e3
   refine⟨?_,h2⟩
   by_cases hm:m=0
   · subst hm;exact .inl ⟨by simp,some ⟨b,o,none⟩,c,by simp⟩
   · refine .inr ⟨?_,b,o,c,by rw[List.length_take,Nat.min_comm],by rw[List.length_take];omega,h3,fun j x hx=>?_⟩
     · intro e;have h5:=congrArg List.length e;rw[List.length_take,List.length_nil]at h5;have h6:l.length≠0:=fun q=>h0 (List.length_eq_zero_iff.1 q);omega
     · have hj:j<m:=by have:=(List.getElem?_eq_some_iff.1 hx).1;rw[List.length_take]at this;omega
       rw[List.getElem?_take_of_lt hj]at hx
       exact h4 j x hx
theorem DL.upto{W:World}{a:Option Addr}{c:Nat}{l:List Int}(h:DL W (.slice a l.length c) l)(m:Nat):DL W (.slice a (min l.length m) c) (l.take m)/\l.length<=c:=by
 rcases h with⟨rfl,_⟩|⟨h0,b,o,c',e,h2,h3,h4⟩
 · exact⟨.inl ⟨by simp,a,c,by simp⟩,Nat.zero_le _⟩
 · injection e with e1 _ e3
   subst e1 e3
   refine⟨?_,h2⟩
   by_cases hm:m=0
   · subst hm;exact .inl ⟨by simp,some ⟨b,o,none⟩,c,by simp⟩
   · refine .inr ⟨?_,b,o,c,by rw[List.length_take,Nat.min_comm],by rw[List.length_take];omega,h3,fun j x hx=>?_⟩
     · intro e;have h5:=congrArg List.length e;rw[List.length_take,List.length_nil]at h5;have h6:l.length≠0:=fun q=>h0 (List.length_eq_zero_iff.1 q);omega
     · have hj:j<m:=by have:=(List.getElem?_eq_some_iff.1 hx).1;rw[List.length_take]at this;omega
       rw[List.getElem?_take_of_lt hj]at hx
       exact h4 j x hx
def fewG(g:Gr):Gr:=⟨g.vs.take 8,g.es.take 10,g.ds.take 4⟩
def cutC(c:Ch):Ch:={c with ends:=c.ends.take 82,deps:=c.deps.take 5}
theorem few_x(a1 b1 c1:Option Addr)(n1 a2 n2 b2 n3 c2:Nat)(w:World)(e1:n1<=a2)(e2:n2<=b2)(e3:n3<=c2)(hs:n1<=9223372036854775807/\n2<=9223372036854775807/\n3<=9223372036854775807):
  Calls Tryz.prog 12 #[.agg #[.slice a1 n1 a2,.slice b1 n2 b2,.slice c1 n3 c2]] w fun e w'=>e= .returned (.agg #[.slice a1 (min n1 8) a2,.slice b1 (min n2 10) b2,.slice c1 (min n3 4) c2])/\Below w.heap.size w w':=by
 obtain⟨w1,hw1⟩:∃w1,w1=(w.alloc (.cells #[.slice a1 n1 a2,.slice b1 n2 b2,.slice c1 n3 c2] 26)).alloc (.cells #[.slice none 0 0,.slice none 0 0,.slice none 0 0] 26):=⟨_,rfl⟩
 have hB:=Hd (show Below w.heap.size w w1 by rw[hw1];exact((Below.refl _ w).alloc (Nat.le_refl _) _).alloc (by simp) _)
 have hbx:=Hd (show w1.heap[w.heap.size]?=some (.cells #[.slice a1 n1 a2,.slice b1 n2 b2,.slice c1 n3 c2] 26 (0,0))by rw[hw1];exact al_keep (heap_alloc_new w _))
 have hrs:=Hd (show w1.heap[w.heap.size+1]?=some (.cells #[.slice none 0 0,.slice none 0 0,.slice none 0 0] 26 (0,0))by
  rw[hw1]
  have:=heap_alloc_new (w.alloc (.cells #[.slice a1 n1 a2,.slice b1 n2 b2,.slice c1 n3 c2] 26)) (.cells #[.slice none 0 0,.slice none 0 0,.slice none 0 0] 26)
  simpa using this)
 have hBf:=Hd (show Below w.heap.size w (w1.drew.setRow (w.heap.size+1) #[.slice a1 (min n1 8) a2,.slice b1 (min n2 10) b2,.slice c1 (min n3 4) c2])from below_setRow' hB.out.drew (by omega) _)
 replace hw1:=Hd hw1
 obtain⟨s1,s2,s3⟩:=hs
 have m1:∀ts t w,(Builtin.min_ ts t #[.int .i64 (n1:Int),.int .i64 8]).run Tryz.prog w= .ok (.int .i64 ((min n1 8:Nat):Int)) w:=fun ts t w=>mmin_run n1 8 ts t w 8 rfl
 have m2:∀ts t w,(Builtin.min_ ts t #[.int .i64 (n2:Int),.int .i64 10]).run Tryz.prog w= .ok (.int .i64 ((min n2 10:Nat):Int)) w:=fun ts t w=>mmin_run n2 10 ts t w 10 rfl
 have m3:∀ts t w,(Builtin.min_ ts t #[.int .i64 (n3:Int),.int .i64 4]).run Tryz.prog w= .ok (.int .i64 ((min n3 4:Nat):Int)) w:=fun ts t w=>mmin_run n3 4 ts t w 4 rfl
 have p1:min n1 8<=a2:=by omega
 have p2:min n2 10<=b2:=by omega
 have p3:min n3 4<=c2:=by omega
 generalize min n1 8=k1 at *
 generalize min n2 10=k2 at *
 generalize min n3 4=k3 at *
 go_enter Tryz.func12,Tryz.ntmps12
 go_upto_region 1 with(fail)
 rw[<-hw1.out]
 refine wp_region_F (fun W=>Below w1.heap.size w1 W) 22 (by kernel_rfl) (Below.refl _ w1).drew (fun hHeld=>?_)
 have hcell:=Hd (fun W (BB:Below w1.heap.size w1 W)=>(box3c ((BB.block _ (by have:=hB.out.size;have:=(Array.getElem?_eq_some_iff.1 hbx.out).1;omega)).trans hbx.out)).1)
 refine tkP 0 rfl ?_
 refine tkP 1 rfl ?_ (by(intro w h;obtain⟨u0,u1,u2⟩:=hcell.out w h;clear h;go_simp)<;>with_reducible rfl)
 refine tkP 2 rfl ?_
 refine tkP 3 rfl ?_ (by(intro w h;obtain⟨u0,u1,u2⟩:=hcell.out w h;clear h;go_simp)<;>with_reducible rfl)
 refine tkP 4 rfl ?_
 refine tkP 5 rfl ?_
 refine tkP 6 rfl ?_
 refine tkP 7 rfl ?_
 refine tkP 8 rfl ?_ (by(intro w h;obtain⟨u0,u1,u2⟩:=hcell.out w h;clear h;go_simp)<;>with_reducible rfl)
 refine tkP 9 rfl ?_
 refine tkP 10 rfl ?_ (by(intro w h;obtain⟨u0,u1,u2⟩:=hcell.out w h;clear h;go_simp)<;>with_reducible rfl)
 refine tkP 11 rfl ?_
 refine tkP 12 rfl ?_
 refine tkP 13 rfl ?_
 refine tkP 14 rfl ?_
 refine tkP 15 rfl ?_ (by(intro w h;obtain⟨u0,u1,u2⟩:=hcell.out w h;clear h;go_simp)<;>with_reducible rfl)
 refine tkP 16 rfl ?_
 refine tkP 17 rfl ?_ (by(intro w h;obtain⟨u0,u1,u2⟩:=hcell.out w h;clear h;go_simp)<;>with_reducible rfl)
 refine tkP 18 rfl ?_
 refine tkP 19 rfl ?_
 refine tkP 20 rfl ?_
 refine tkP 21 rfl ?_
 refine rdy [22] ?_
 refine AllReadyF.last (o:=⟨none,.store 26 (.tmp 2) (.tmp 24),_,_,_,none⟩) rfl (fun K hK=>?_) AllReadyF.nil
 refine wp_store_row 26 (.tmp 2) (.tmp 24) rfl (w.heap.size+1) #[.slice a1 k1 a2,.slice b1 k2 b2,.slice c1 k3 c2] rfl rfl 26 _ hrs.out (size26b _ _ _) rfl (by simp[Value.oneCell']) ?_
 refine hK.out _ _ ?_
 clear hK K
 try simp only[Act.put,zT,z0,zS]
 refine wpAnyF_done (by kernel_rfl) ?_ _
 go_wp2_with fail
 refine bodyPost_ret (results_cell_row (fn:=Tryz.f12) rfl _ _ (w.heap.size+1) 26 #[.slice a1 k1 a2,.slice b1 k2 b2,.slice c1 k3 c2] (0,0) _ rfl (setRow_heap _ _ _ _ _ _ hrs.out) Tryz.underlying26 rfl (size26b _ _ _)) rfl ?_
 exact⟨rfl,hBf.out⟩
theorem cut_x(c:Ch)(a1 b1:Option Addr)(n1 a2 n2 b2:Nat)(w:World)(e1:n1<=a2)(e2:n2<=b2)(hs:n1<=9223372036854775807/\n2<=9223372036854775807):
  Calls Tryz.prog 13 #[.agg (chCells c (.slice a1 n1 a2) (.slice b1 n2 b2))] w fun e w'=>e= .returned (.agg (chCells c (.slice a1 (min n1 82) a2) (.slice b1 (min n2 5) b2)))/\Below w.heap.size w w':=by
 obtain⟨w1,hw1⟩:∃w1,w1=(w.alloc (.cells (chCells c (.slice a1 n1 a2) (.slice b1 n2 b2)) 33)).alloc (.cells zCells 33):=⟨_,rfl⟩
 have hB:=Hd (show Below w.heap.size w w1 by rw[hw1];exact((Below.refl _ w).alloc (Nat.le_refl _) _).alloc (by simp) _)
 have hbx:=Hd (show w1.heap[w.heap.size]?=some (.cells (chCells c (.slice a1 n1 a2) (.slice b1 n2 b2)) 33 (0,0))by rw[hw1];exact al_keep (heap_alloc_new w _))
 have hrs:=Hd (show w1.heap[w.heap.size+1]?=some (.cells zCells 33 (0,0))by
  rw[hw1]
  have:=heap_alloc_new (w.alloc (.cells (chCells c (.slice a1 n1 a2) (.slice b1 n2 b2)) 33)) (.cells zCells 33)
  simpa using this)
 obtain⟨w2,hw2⟩:∃W,W=w1.setCell ⟨w.heap.size,11,none⟩ (.slice a1 (min n1 82) a2):=⟨_,rfl⟩
 obtain⟨w3,hw3⟩:∃W,W=w2.setCell ⟨w.heap.size,12,none⟩ (.slice b1 (min n2 5) b2):=⟨_,rfl⟩
 have hb2:=Hd (show w2.heap[w.heap.size]?=some (.cells (chCells c (.slice a1 (min n1 82) a2) (.slice b1 n2 b2)) 33 (0,0))by rw[hw2];exact heap_setCell_same w1 w.heap.size 11 _ 33 _ hbx.out)
 have hb3:=Hd (show w3.heap[w.heap.size]?=some (.cells (chCells c (.slice a1 (min n1 82) a2) (.slice b1 (min n2 5) b2)) 33 (0,0))by rw[hw3];exact heap_setCell_same w2 w.heap.size 12 _ 33 _ hb2.out)
 have hr3:=Hd (show w3.heap[w.heap.size+1]?=some (.cells zCells 33 (0,0))by rw[hw3,hw2];exact(heap_setCell_other _ _ _ _ (by simp)).trans ((heap_setCell_other _ _ _ _ (by simp)).trans hrs.out))
 have hB3:=Hd (show Below w.heap.size w w3 by rw[hw3,hw2];exact(hB.out.setCell (p:=⟨w.heap.size,11,none⟩) (Nat.le_refl _) _).setCell (p:=⟨w.heap.size,12,none⟩) (Nat.le_refl _) _)
 have hBf:=Hd (show Below w.heap.size w (w3.setRow (w.heap.size+1) (chCells c (.slice a1 (min n1 82) a2) (.slice b1 (min n2 5) b2)))from below_setRow' hB3.out (by omega) _)
 simp only[chCells,zCells,zC,zV,zE,nilS]at hw1
 replace hw1:=Hd hw1
 replace hw2:=Hd hw2
 replace hw3:=Hd hw3
 obtain⟨s1,s2⟩:=hs
 have m1:∀ts t w,(Builtin.min_ ts t #[.int .i64 (n1:Int),.int .i64 82]).run Tryz.prog w= .ok (.int .i64 ((min n1 82:Nat):Int)) w:=fun ts t w=>mmin_run n1 82 ts t w 82 rfl
 have m2:∀ts t w,(Builtin.min_ ts t #[.int .i64 (n2:Int),.int .i64 5]).run Tryz.prog w= .ok (.int .i64 ((min n2 5:Nat):Int)) w:=fun ts t w=>mmin_run n2 5 ts t w 5 rfl
 have p1:min n1 82<=a2:=by omega
 have p2:min n2 5<=b2:=by omega
 generalize min n1 82=k1 at *
 generalize min n2 5=k2 at *
 unfold chCells
 go_enter Tryz.func13,Tryz.ntmps13
 go_upto_region 1 with(fail)
 rw[<-hw1.out]
 obtain⟨u0,u1,u2,u3,u4,u5,u6,u7,u8,u9,u10,u11,u12⟩:=ch_cells hbx.out
 have f11:=frozen_of_row _ w.heap.size 11 _ _ hbx.out
 go_upto_region 2 with(fail)
 rw[<-hw2.out]
 clear u0 u1 u2 u3 u4 u5 u6 u7 u8 u9 u10 u11 u12 f11
 obtain⟨u0,u1,u2,u3,u4,u5,u6,u7,u8,u9,u10,u11,u12⟩:=ch_cells hb2.out
 have f12:=frozen_of_row _ w.heap.size 12 _ _ hb2.out
 go_upto_region 3 with(fail)
 rw[<-hw3.out]
 clear u0 u1 u2 u3 u4 u5 u6 u7 u8 u9 u10 u11 u12 f12
 go_wp2_with first
  | (refine wpList_load_row rfl 33 (.tmp 1) rfl w.heap.size rfl 33 (chCells c (.slice a1 k1 a2) (.slice b1 k2 b2)) (0,0) _ hb3.out Tryz.underlying33 rfl (info33 _ _ _) ?_)
  | (refine wpList_store_row rfl 33 (.tmp 2) (.tmp 19) rfl (w.heap.size+1) (chCells c (.slice a1 k1 a2) (.slice b1 k2 b2)) rfl rfl 33 _ hr3.out (info33 _ _ _) rfl (ch_all _ _ _ _ _ _ _) ?_)
 refine bodyPost_ret (results_cell_row (fn:=Tryz.f13) rfl _ _ (w.heap.size+1) 33 (chCells c (.slice a1 k1 a2) (.slice b1 k2 b2)) (0,0) _ rfl (setRow_heap _ _ _ _ _ _ hr3.out) Tryz.underlying33 rfl (info33 _ _ _)) rfl ?_
 exact⟨rfl,hBf.out⟩
theorem SameEdges_any(va vb:Value)(A B:List Ed)(w:World)(ha:EL w va A)(hb:EL w vb B)(hAl:A.length<=1000000000000)(_:B.length<=1000000000000):
  Calls Tryz.prog 27 #[va,vb] w fun e w'=>e= .returned (.bool (decide (A=B)))/\Below w.heap.size w w':=by
 by_cases hlen:A.length=B.length;rotate_left
 ·have hr:decide (A=B)=false:=by rw[decide_eq_false_iff_not];exact fun e=>hlen (by rw[e])
  rw[hr];obtain⟨a1,c1,rfl⟩:=ha.shape;obtain⟨a2,c2,rfl⟩:=hb.shape;clear ha hb hr;generalize A.length=N at *
  generalize B.length=M at *
  have t0:((N:Int) != (M:Int))=true:=by rw[bne_iff_ne];omega
  have t0n:((N:Int)==(M:Int))=false:=by rw[beq_eq_false_iff_ne];omega
  go_enter Tryz.func27,Tryz.ntmps27;go_wp2_with fail;go_ret;exact⟨rfl,Below.refl _ _⟩
 by_cases h0:A=[]
 ·subst h0;obtain rfl:B=[]:=List.length_eq_zero_iff.1 hlen.symm;obtain⟨a1,c1,rfl⟩:=ha.shape;obtain⟨a2,c2,rfl⟩:=hb.shape;clear ha hb;have hr:decide (([]:List Ed)=[])=true:=by simp
  rw[hr];go_enter Tryz.func27,Tryz.ntmps27;go_wp2_with fail
  go_loop [5] (fun i=>i= .int .i64 0) (fun _=>0)
  case atStart=>rfl
  case round =>
   obtain rfl:=hrel;go_wp2_with fail;go_ret;exact⟨rfl,Below.refl _ _⟩
 ·have h0B:B≠[]:=fun e=>by rw[e]at hlen;exact h0 (List.length_eq_zero_iff.1 hlen)
  obtain⟨b1,o1,k1,rfl,e1,e2,e3⟩:=ha.own h0;obtain⟨b2,o2,k2,rfl,f1,f2,f3⟩:=hb.own h0B;rw[<-hlen]at f1 ⊢;have cellA:=Hd (fun(k:Nat) (hk:k<A.length) w' (B:Below w.heap.size w w')=>(e3.below e2 B) k _ (List.getElem?_eq_getElem hk));have cellB:=Hd (fun(k:Nat) (hk:k<B.length) w' (B:Below w.heap.size w w')=>(f3.below f2 B) k _ (List.getElem?_eq_getElem hk));clear ha hb e3 f3 h0 h0B;obtain⟨N,hN,hM⟩:∃N,Hid (N=A.length)/\Hid (N=B.length):=⟨_,rfl,hlen⟩;clear hlen;rw[<-hN.out]at hAl e1 f1 ⊢;go_enter Tryz.func27,Tryz.ntmps27;go_wp2_with fail
  go_loopw [5] (fun i wr=>∃k:Nat,k<=N/\i= .int .i64 k/\Hid (A.take k=B.take k)/\Below w.heap.size w wr) (fun i _=>N-(intOf i).toNat)
  case atStart=>exact⟨0,by omega,rfl,rfl,Below.refl _ _⟩
  case round =>
   obtain⟨k,hk,rfl,hall,Bw⟩:=hrel;by_cases hlt:k<N
   ·have hkA:k<A.length:=by rw[<-hN.out];exact hlt
    have hkB:k<B.length:=by rw[<-hM.out];exact hlt
    have q1:=cellA.out k hkA wr Bw;have q2:=cellB.out k hkB wr Bw;have i0:(0:Int)<=(k:Int):=by omega
    have i1:(k:Int)<(N:Int):=by omega
    by_cases hxy:A[k]=B[k]
    ·have hnew:Hid (A.take (k+1)=B.take (k+1)):=by
      unfold Hid;rw[List.take_succ_eq_append_getElem hkA,List.take_succ_eq_append_getElem hkB,hall.out,hxy]
     rw[<-hxy]at q2;clear hxy hall;generalize A[k]=x at *
     obtain⟨c0,c1,c2,c3,c4,c5⟩:=q1;obtain⟨d0,d1,d2,d3,d4,d5⟩:=q2;go_wp2_with fail
     go_quiet (fail)
     go_wp2_with fail
     go_roundw
     case rel=>exact⟨k+1,by omega,by go_num,hnew,below_drewN Bw _⟩
     case measure=>simp[intOf];omega
    ·have hr:decide (A=B)=false:=by
      rw[decide_eq_false_iff_not];intro e;subst e;exact hxy rfl
     have hr2:=Hd hr;generalize A[k]=x at *
     generalize B[k]=y at *
     obtain⟨c0,c1,c2,c3,c4,c5⟩:=q1;obtain⟨d0,d1,d2,d3,d4,d5⟩:=q2;by_cases h0:x.id=y.id;rotate_left
     ·have hne:(x.id==y.id)=false:=by simpa using h0
      have hnh:=Hd h0;clear hxy hr hall h0;go_wp2_with fail
      go_quiet (fail)
      go_wp2_with fail;go_ret;exact⟨ret_bool hr2.out.symm,below_drewN Bw _⟩
     rw[<-h0]at d0;by_cases h1:x.src=y.src;rotate_left
     ·have hne:(x.src==y.src)=false:=by simpa using h1
      have hnh:=Hd h1;clear hxy hr hall h1;go_wp2_with fail
      go_quiet (fail)
      go_wp2_with fail;go_ret;exact⟨ret_bool hr2.out.symm,below_drewN Bw _⟩
     rw[<-h1]at d1;by_cases h2:x.dst=y.dst;rotate_left
     ·have hne:(x.dst==y.dst)=false:=by simpa using h2
      have hnh:=Hd h2;clear hxy hr hall h2;go_wp2_with fail
      go_quiet (fail)
      go_wp2_with fail;go_ret;exact⟨ret_bool hr2.out.symm,below_drewN Bw _⟩
     rw[<-h2]at d2;by_cases h3:x.dir=y.dir;rotate_left
     ·have hne:(x.dir==y.dir)=false:=by simpa using h3
      have hnh:=Hd h3;clear hxy hr hall h3;go_wp2_with fail
      go_quiet (fail)
      go_wp2_with fail;go_ret;exact⟨ret_bool hr2.out.symm,below_drewN Bw _⟩
     rw[<-h3]at d3;by_cases h4:x.wt=y.wt;rotate_left
     ·have hne:(x.wt==y.wt)=false:=by simpa using h4
      have hnh:=Hd h4;clear hxy hr hall h4;go_wp2_with fail
      go_quiet (fail)
      go_wp2_with fail;go_ret;exact⟨ret_bool hr2.out.symm,below_drewN Bw _⟩
     rw[<-h4]at d4;by_cases h5:x.cap=y.cap;rotate_left
     ·have hne:(x.cap==y.cap)=false:=by simpa using h5
      have hnh:=Hd h5;clear hxy hr hall h5;go_wp2_with fail
      go_quiet (fail)
      go_wp2_with fail;go_ret;exact⟨ret_bool hr2.out.symm,below_drewN Bw _⟩
     rw[<-h5]at d5;exact absurd (by cases x;cases y;simp_all) hxy
   ·have hk2:k=N:=by omega
    have hr:decide (A=B)=true:=by
     have h:=hall.out;rw[List.take_of_length_le (by rw[hk2,<-hN.out];exact Nat.le_refl _),List.take_of_length_le (by rw[hk2,<-hM.out];exact Nat.le_refl _)]at h;simpa using h
    have hr2:=Hd hr;have i1:¬(k:Int)<(N:Int):=by omega
    clear hr hall hk2;go_wp2_with fail;go_ret;exact⟨ret_bool hr2.out.symm,Bw⟩
theorem SameR_any(v v':Value)(g h:Gr)(w:World)(hv:GV w v g)(hv':GV w v' h)(hn:g.small)(hm:h.small):
  Calls Tryz.prog 18 #[v,v'] w fun e w'=>e= .returned (.bool (sameG g h))/\Below w.heap.size w w':=by
 obtain⟨a,b,c,rfl,h1,h2,h3⟩:=hv;obtain⟨a',b',c',rfl,g1,g2,g3⟩:=hv';obtain⟨w1,hw1⟩:∃w1,w1=(w.alloc (.cells #[a,b,c] 26)).alloc (.cells #[a',b',c'] 26):=⟨_,rfl⟩;obtain⟨hB,hz,hcell0⟩:=two_boxes w w1 a b c a' b' c' 26 hw1;have hcell:=Hd hcell0;have hB0:=Hd (fun W (B:Below w1.heap.size w1 W)=>hB.trans (B.mono hB.size));have k2:=Hd (fun w' (B:Below w1.heap.size w1 w')=>SameEdges_any b b' g.es h.es w' ((h2.below hB).below B) ((g2.below hB).below B) hn.2.1 hm.2.1);have k3:=Hd (fun w' (B:Below w1.heap.size w1 w')=>Ints_any c c' g.ds h.ds w' ((h3.below hB).below B) ((g3.below hB).below B) hn.2.2 hm.2.2);have u1:=Hd (h1.below hB);have u2:=Hd (g1.below hB);obtain⟨a1,a2,rfl⟩:=h1.shape;obtain⟨b1,b2,rfl⟩:=h2.shape;obtain⟨c1,c2,rfl⟩:=h3.shape;obtain⟨a3,a4,rfl⟩:=g1.shape;obtain⟨b3,b4,rfl⟩:=g2.shape;obtain⟨c3,c4,rfl⟩:=g3.shape;obtain⟨hn1,_,_⟩:=hn;obtain⟨hm1,_,_⟩:=hm;have hsm:Hid (sameG g h=(decide (g.vs=h.vs)&&decide (g.es=h.es)&&decide (g.ds=h.ds))):=rfl;generalize hx2:decide (g.es=h.es)=x2 at *
 generalize hx3:decide (g.ds=h.ds)=x3 at *
 generalize sameG g h=R at *
 generalize g.vs=A at *
 generalize h.vs=A' at *
 generalize g.es.length=n2 at *
 generalize g.ds.length=n3 at *
 generalize h.es.length=n5 at *
 generalize h.ds.length=n6 at *
 have B1:=Below.refl w1.heap.size w1;have hw2:=Hd hw1;clear hw1 h1 h2 h3 g1 g2 g3 hB hcell0 hx2 hx3;by_cases hlen:A.length=A'.length;rotate_left
 ·have hr:Hid (R=false):=by
   show _=_;rw[hsm.out,show decide (A=A')=false by rw[decide_eq_false_iff_not];exact fun e=>hlen (by rw[e])];rfl
  clear hsm u1 u2;generalize A.length=n1 at *
  generalize A'.length=n4 at *
  have t0:((n1:Int) != (n4:Int))=true:=by rw[bne_iff_ne];omega
  have t0n:((n1:Int)==(n4:Int))=false:=by rw[beq_eq_false_iff_ne];omega
  go_enter Tryz.func18,Tryz.ntmps18;go_wp2_with fail;go_ret;refine⟨ret_bool hr.out.symm,?_⟩;have:=hB0.out _ B1;rw[hw2.out]at this;exact this
 obtain⟨N,hN,hM⟩:∃N,Hid (N=A.length)/\Hid (N=A'.length):=⟨_,rfl,hlen⟩;rw[<-hN.out]at hw2 hcell hn1 u1;rw[<-hM.out]at hw2 hcell hm1 u2;rw[<-hN.out,<-hM.out];clear hlen;cases x2 with
 | false =>
  have hr:Hid (R=false):=by show _=_;rw[hsm.out];simp
  clear hsm;go_enter Tryz.func18,Tryz.ntmps18;go_wp2_with fail;rw[<-hw2.out];refine(k2.out _ B1).mono ?_;rintro e w2 ⟨rfl,b2⟩;have B2:=B1.trans (b2.mono B1.size);go_wp2_with fail;go_ret;exact⟨ret_bool hr.out.symm,hB0.out _ B2⟩
 | true =>
  cases x3 with
  | false =>
   have hr:Hid (R=false):=by show _=_;rw[hsm.out];simp
   clear hsm;go_enter Tryz.func18,Tryz.ntmps18;go_wp2_with fail;rw[<-hw2.out];refine(k2.out _ B1).mono ?_;rintro e w2 ⟨rfl,b2⟩;have B2:=B1.trans (b2.mono B1.size);obtain⟨⟨q0,q1,q2⟩,⟨p0,p1,p2⟩⟩:=hcell.out _ B2;go_wp2_with fail;refine(k3.out _ B2).mono ?_;rintro e w3 ⟨rfl,b3⟩;have B3:=B2.trans (b3.mono B2.size);go_wp2_with fail;go_ret;exact⟨ret_bool hr.out.symm,hB0.out _ B3⟩
  | true =>
   have hR:Hid (R=decide (A=A')):=by show _=_;rw[hsm.out];simp
   clear hsm;go_enter Tryz.func18,Tryz.ntmps18;go_wp2_with fail;rw[<-hw2.out];refine(k2.out _ B1).mono ?_;rintro e w2 ⟨rfl,b2⟩;have B2:=B1.trans (b2.mono B1.size);obtain⟨⟨q0,q1,q2⟩,⟨p0,p1,p2⟩⟩:=hcell.out _ B2;go_wp2_with fail;refine(k3.out _ B2).mono ?_;rintro e w3 ⟨rfl,b3⟩;have B3:=B2.trans (b3.mono B2.size);clear q0 q1 q2 p0 p1 p2;obtain⟨⟨q0,q1,q2⟩,⟨p0,p1,p2⟩⟩:=hcell.out _ B3;go_wp2_with fail;obtain⟨wz,rfl⟩:∃wz:World,wz=w3:=⟨_,rfl⟩
   go_loopw [5] (fun i wr=>∃k:Nat,k<=N/\i= .int .i64 k/\Hid (A.take k=A'.take k)/\Below w1.heap.size w1 wr) (fun i _=>N-(intOf i).toNat)
   case atStart=>exact⟨0,by omega,rfl,rfl,B3⟩
   case round =>
    clear q0 q1 q2 p0 p1 p2;obtain⟨k,hk,rfl,hall,Bw⟩:=hrel;obtain⟨⟨q0,q1,q2⟩,⟨p0,p1,p2⟩⟩:=hcell.out _ Bw;by_cases hlt:k<N
    ·have hkA:k<A.length:=by rw[<-hN.out];exact hlt
     have hkB:k<A'.length:=by rw[<-hM.out];exact hlt
     obtain⟨d1,o1,m1,he1,e1,e2,e3⟩:=u1.out.own (fun e=>by rw[e]at hkA;simp at hkA);obtain⟨d2,o2,m2,he2,f1,f2,f3⟩:=u2.out.own (fun e=>by rw[e]at hkB;simp at hkB);injection he1 with he1 _ he1c
     injection he2 with he2 _ he2c
     subst he1 he2 he1c he2c;have q3:=(e3.below e2 Bw) k _ (List.getElem?_eq_getElem hkA);have q4:=(f3.below f2 Bw) k _ (List.getElem?_eq_getElem hkB);have i0:(0:Int)<=(k:Int):=by omega
     have i1:(k:Int)<(N:Int):=by omega
     clear e1 e2 e3 f1 f2 f3;by_cases hxy:A[k]=A'[k]
     ·have hnew:Hid (A.take (k+1)=A'.take (k+1)):=by
       unfold Hid;rw[List.take_succ_eq_append_getElem hkA,List.take_succ_eq_append_getElem hkB,hall.out,hxy]
      rw[<-hxy]at q4;clear hxy hall;generalize A[k]=x at *
      obtain⟨c0,c1⟩:=q3;obtain⟨d0,d1⟩:=q4;go_wp2_with fail
      go_quiet (fail)
      go_wp2_with fail
      go_roundw
      case rel=>exact⟨k+1,by omega,by go_num,hnew,below_drewN Bw _⟩
      case measure=>simp[intOf];omega
     ·have hr:decide (A=A')=false:=by
       rw[decide_eq_false_iff_not];intro e;subst e;exact hxy rfl
      have hr2:Hid (R=false):=by show _=_;rw[hR.out,hr]
      generalize A[k]=x at *
      generalize A'[k]=y at *
      obtain⟨c0,c1⟩:=q3;obtain⟨d0,d1⟩:=q4;by_cases h0:x.id=y.id;rotate_left
      ·have hne:(x.id==y.id)=false:=by simpa using h0
       have hnh:=Hd h0;clear hxy hr hall h0;go_wp2_with fail
       go_quiet (fail)
       go_wp2_with fail;go_ret;exact⟨ret_bool hr2.out.symm,hB0.out _ (below_drewN Bw _)⟩
      rw[<-h0]at d0;by_cases h1:x.side=y.side;rotate_left
      ·have hne:(x.side==y.side)=false:=by simpa using h1
       have hnh:=Hd h1;clear hxy hr hall h1;go_wp2_with fail
       go_quiet (fail)
       go_wp2_with fail;go_ret;exact⟨ret_bool hr2.out.symm,hB0.out _ (below_drewN Bw _)⟩
      exact absurd (by cases x;cases y;simp_all) hxy
    ·have hk2:k=N:=by omega
     have hr:decide (A=A')=true:=by
      have h:=hall.out;rw[List.take_of_length_le (by rw[hk2,<-hN.out];exact Nat.le_refl _),List.take_of_length_le (by rw[hk2,<-hM.out];exact Nat.le_refl _)]at h;simpa using h
     have hr2:Hid (R=true):=by show _=_;rw[hR.out,hr]
     have i1:¬(k:Int)<(N:Int):=by omega
     clear hr hall hk2;go_wp2_with fail;go_ret;exact⟨ret_bool hr2.out.symm,hB0.out _ Bw⟩
theorem run_okM(l:List Ch):∀(g g':Gr),Ok g->runF g l=some g'->Ok g':=by
 induction l with
 | nil=>intro g g' h e;cases e;exact h
 | cons c t ih =>
  intro g g' h e
  unfold runF at e
  cases ha:actF g c with
  | none=>rw[ha]at e;cases e
  | some p=>rw[ha]at e;exact ih p.1 g' (act_ok g c p.1 p.2 h ha) e
def Few(g:Gr):Prop:=g.vs.length<=1000/\g.es.length<=1000/\g.ds.length<=1000
theorem Few.small{g:Gr}(h:Few g):g.small:=⟨by have:=h.1;omega,by have:=h.2.1;omega,by have:=h.2.2;omega⟩
theorem Ok.few{g:Gr}(h:Ok g):Few g:=⟨by have:=h.vlen;omega,by have:=h.elen;omega,by have:=h.dlen;omega⟩
def Ans(W:World)(e:Ending)(w':World)(G:Gr)(t:List Value):Prop:=∃(x1:Option Addr) (n1 d1:Nat) (x2:Option Addr) (n2 d2:Nat) (x3:Option Addr) (n3 d3:Nat),e= .returned (.tuple (.agg #[.slice x1 n1 d1,.slice x2 n2 d2,.slice x3 n3 d3]::t).toArray)/\GV w' (.agg #[.slice x1 n1 d1,.slice x2 n2 d2,.slice x3 n3 d3]) G/\Below W.heap.size W w'
theorem ans_of{W w':World}{e:Ending}{G:Gr}{r:Value}{t:List Value}(he:e= .returned (.tuple (r::t).toArray))(h:GV w' r G)(b:Below W.heap.size W w'):Ans W e w' G t:=by
 obtain⟨x,y,z,rfl,h1,h2,h3⟩:=h
 obtain⟨_,_,rfl⟩:=h1.shape
 obtain⟨_,_,rfl⟩:=h2.shape
 obtain⟨_,_,rfl⟩:=h3.shape
 exact⟨_,_,_,_,_,_,_,_,_,he,⟨_,_,_,rfl,h1,h2,h3⟩,b⟩
theorem apU(C:Gr)(c:Ch)(hC:Few C)(hl:c.ends.length<=1000/\c.deps.length<=1000)(hr:chIn c):∃(G:Gr) (E:Int),Hid (Few G)/\ ∀f,f=19\/f=20-> ∀v vc W,GV W v C->CV W vc c->Calls Tryz.prog f #[v,vc] W fun e w'=>Ans W e w' G [.int .i64 E]:=by
 obtain⟨c1,c2,c3⟩:=hC
 have hG:Few (apF C c).1:=by
  unfold apF
  cases ha:(if C.ok=true then actF C c else none)with
  | none=>exact⟨Nat.zero_le _,Nat.zero_le _,Nat.zero_le _⟩
  | some p =>
   by_cases ho:C.ok=true
   · rw[if_pos ho]at ha;exact(act_ok C c p.1 p.2 ((ok_iff C).1 ho) ha).few
   · rw[if_neg ho]at ha;cases ha
 refine⟨(apF C c).1,(apF C c).2,hG,fun f hf v vc W hv hc=>?_⟩
 rcases hf with rfl|rfl
 · refine(Apply_any v vc C c W hv hc ⟨by omega,by omega,by omega⟩ ⟨by omega,by omega⟩).mono fun e w' h=>?_
   unfold ApplyPost at h
   obtain⟨b,h⟩:=h
   unfold apF
   cases ha:(if C.ok=true then actF C c else none)with
   | none=>rw[ha]at h;exact ans_of h (gv_zero _) b
   | some p=>rw[ha]at h;obtain⟨x,y,z,he,h1,h2,h3⟩:=h;exact ans_of he ⟨_,_,_,rfl,h1.VL,h2.EL,h3.DL⟩ b
 · refine(ApplyU v vc C c W hv hc ⟨by omega,by omega,by omega⟩ ⟨by omega,by omega⟩ hr).mono fun e w' h=>?_
   obtain⟨x1,n1,d1,x2,n2,d2,x3,n3,d3,he,hg,b⟩:=h
   exact⟨_,_,_,_,_,_,_,_,_,he,hg,b⟩
theorem allU(C:Gr)(l:List Ch)(hC:Few C)(hn:l.length<=1000)(hl:∀c∈l,c.ends.length<=1000/\c.deps.length<=1000)(hr:∀c∈l,chIn c):∃(G:Gr) (N E:Int),Hid (Few G)/\ ∀f,f=24\/f=25-> ∀v vl W,GV W v C->LC W vl l->Calls Tryz.prog f #[v,vl] W fun e w'=>Ans W e w' G [.int .i64 N,.int .i64 E]:=by
 obtain⟨c1,c2,c3⟩:=hC
 have k1:=fun v vl W hv hw=>ApplyAll_any v vl C l W hv hw ⟨by omega,by omega,by omega⟩ (by omega) (fun c hc=>by have:=hl c hc;omega)
 have k2:=fun v vl W hv hw=>ApplyAllR_any v vl C l W hv hw ⟨by omega,by omega,by omega⟩ (by omega) (fun c hc=>by have:=hl c hc;omega) hr
 cases ha:(if C.ok=true then runF C l else none)with
 | none =>
  refine⟨⟨[],[],[]⟩,(if C.ok=true then(stopF C l:Nat)else(0:Nat)),30,⟨Nat.zero_le _,Nat.zero_le _,Nat.zero_le _⟩,fun f hf v vl W hv hw=>?_⟩
  rcases hf with rfl|rfl
  · refine(k1 v vl W hv hw).mono fun e w' h=>?_
    obtain⟨b,h⟩:=h
    rw[ha]at h
    exact ans_of h (gv_zero _) b
  · refine(k2 v vl W hv hw).mono fun e w' h=>?_
    obtain⟨b,h⟩:=h
    rw[ha]at h
    exact ans_of h (gv_zero _) b
 | some g' =>
  have hg:Few g':=by
   by_cases ho:C.ok=true
   · rw[if_pos ho]at ha;exact(run_okM l C g' ((ok_iff C).1 ho) ha).few
   · rw[if_neg ho]at ha;cases ha
  refine⟨g',(l.length:Nat),0,hg,fun f hf v vl W hv hw=>?_⟩
  rcases hf with rfl|rfl
  · refine(k1 v vl W hv hw).mono fun e w' h=>?_
    obtain⟨b,h⟩:=h
    rw[ha]at h
    obtain⟨x,y,z,he,h1,h2,h3⟩:=h
    exact ans_of he ⟨_,_,_,rfl,h1.VL,h2.EL,h3.DL⟩ b
  · refine(k2 v vl W hv hw).mono fun e w' h=>?_
    obtain⟨b,h⟩:=h
    rw[ha]at h
    obtain⟨r,he,h1⟩:=h
    exact ans_of he h1 b
theorem invU(C:Gr)(c:Ch)(hC:Few C)(hl:c.ends.length<=1000/\c.deps.length<=1000)(hr:chIn c):∃(L:List Ch) (E:Int),Hid (L.length<=1/\ ∀c∈L,c.ends.length<=1000/\c.deps.length<=1000)/\ ∀f,f=21\/f=22-> ∀v vc W,GV W v C->CV W vc c->Calls Tryz.prog f #[v,vc] W fun e w'=>∃(va:Option Addr) (n d:Nat),e= .returned (.tuple #[.slice va n d,.int .i64 E])/\LC w' (.slice va n d) L/\Below W.heap.size W w':=by
 obtain⟨c1,c2,c3⟩:=hC
 have key:∀f,f=21\/f=22-> ∀v vc W,GV W v C->CV W vc c->Calls Tryz.prog f #[v,vc] W (InvPost C c W):=fun f hf v vc W hv hc=>by
  rcases hf with rfl|rfl
  · exact Invert_any v vc C c W hv hc ⟨by omega,by omega,by omega⟩ ⟨by omega,by omega⟩
  · exact InvertR_any v vc C c W hv hc ⟨by omega,by omega,by omega⟩ ⟨by omega,by omega⟩ hr
 cases ha:(if C.ok=true then actF C c else none)with
 | none =>
  refine⟨[],30,⟨Nat.zero_le _,fun c hc=>by cases hc⟩,fun f hf v vc W hv hc=>(key f hf v vc W hv hc).mono fun e w' h=>?_⟩
  obtain⟨b,h⟩:=h
  rw[ha]at h
  exact⟨_,_,_,h,.inl ⟨rfl,_,_,rfl⟩,b⟩
 | some p =>
  have hg:p.2.ends.length<=80/\p.2.deps.length<=1000:=by
   by_cases ho:C.ok=true
   · rw[if_pos ho]at ha;exact act_len C c p ((ok_iff C).1 ho) ha
   · rw[if_neg ho]at ha;cases ha
  refine⟨[p.2],0,⟨Nat.le_refl _,fun c hc=>by rw[List.mem_singleton.1 hc];omega⟩,fun f hf v vc W hv hc=>(key f hf v vc W hv hc).mono fun e w' h=>?_⟩
  obtain⟨b,h⟩:=h
  rw[ha]at h
  obtain⟨v',he,h1⟩:=h
  obtain⟨_,_,rfl⟩:=h1.shape
  exact⟨_,_,_,he,h1,b⟩
theorem valU(C:Gr)(hC:Few C):∀f,f=15\/f=16-> ∀v W,GV W v C->Calls Tryz.prog f #[v] W fun e w'=>e= .returned (.bool C.ok)/\Below W.heap.size W w':=fun f hf v W hv=>by
 rcases hf with rfl|rfl
 · exact Valid_any v C W hv hC.small
 · exact ValidR_any v C W hv hC.small
theorem sameU(C D:Gr)(hC:Few C)(hD:Few D):∀f,f=17\/f=18-> ∀v v' W,GV W v C->GV W v' D->Calls Tryz.prog f #[v,v'] W fun e w'=>e= .returned (.bool (sameG C D))/\Below W.heap.size W w':=fun f hf v v' W hv hv'=>by
 rcases hf with rfl|rfl
 · exact Same_any v v' C D W hv hv' hC.small hD.small
 · exact SameR_any v v' C D W hv hv' hC.small hD.small
/-! the row of changes: the first one's rows may lie anywhere below -/
def DO(w0 W:World)(t:Ch × Value × Value):Prop:=(∀W',Below w0.heap.size w0 W'->DL W' t.2.1 t.1.ends/\DL W' t.2.2 t.1.deps)\/(OwnI W 0 t.2.1 t.1.ends/\OwnI W 0 t.2.2 t.1.deps)
def OwnX(w0 W:World)(B:Nat)(v:Value)(l:List Ch):Prop:=∃ts:List (Ch × Value × Value),ts.map (·.1)=l/\OwnR W B v ts/\ ∀t∈ts,DO w0 W t
theorem OwnX.LC{w0 W:World}{B:Nat}{v:Value}{l:List Ch}(h:OwnX w0 W B v l)(b:Below w0.heap.size w0 W):LC W v l:=by
 obtain⟨ts,rfl,h1,h2⟩:=h
 refine h1.LC fun t ht=>?_
 rcases h2 t ht with h|h
 · exact h W b
 · exact⟨h.1.DL,h.2.DL⟩
theorem OwnX.below{w0 W W':World}{B:Nat}{v:Value}{l:List Ch}(h:OwnX w0 W B v l)(b:Below W.heap.size W W'):OwnX w0 W' B v l:=by
 obtain⟨ts,h0,h1,h2⟩:=h
 refine⟨ts,h0,own_below (show W.ownsRow B 33 13 v ts.length (cCh ts)from h1) b,fun t ht=>?_⟩
 rcases h2 t ht with h|h
 · exact .inl h
 · exact .inr ⟨own_below h.1 b,own_below h.2 b⟩
theorem OwnX.snoc(w0 W:World)(B:Nat)(v:Value)(l:List Ch)(u:Ch)(a b:Value)(h:OwnX w0 W B v l)(ha:OwnI W 0 a u.ends)(hb:OwnI W 0 b u.deps)(hl:l.length<=100000)(hB:B<=W.heap.size):
  ∃a' n' d' w',(Builtin.append_ #[40,40] 40 #[v,.slice (some ⟨W.heap.size,0,none⟩) 1 1]).run Tryz.prog (W.alloc (.cells (chCells u a b) 33))= .ok (.slice a' n' d') w'/\OwnX w0 w' B (.slice a' n' d') (l++[u])/\Below B W w':=by
 obtain⟨i0,hi,hz0,hz1,hz2⟩:=info_parts info33c
 obtain⟨ts,rfl,h1,h2⟩:=h
 obtain⟨a1,a2,rfl⟩:=ha.shape
 obtain⟨b1,b2,rfl⟩:=hb.shape
 have hts:ts.length<=100000:=by simpa using hl
 obtain⟨g,cap,w',hr,ho,hg⟩:=snocX B 40 33 i0 _ 13 136 Tryz.underlying40 hi hz0 hz1 hz2 rfl (by omega) (by omega) W v ts.length (cCh ts) (chCells u (.slice a1 u.ends.length a2) (.slice b1 u.deps.length b2)) rfl (chc_one _ _ _ _ _ _ _) h1 (by omega) hB
 have ho2:OwnR w' B (.slice (some ⟨g,0,none⟩) (ts.length+1) cap) (ts++[(u,.slice a1 u.ends.length a2,.slice b1 u.deps.length b2)]):=by
  unfold OwnR
  rw[List.length_append,cCh,List.flatMap_append]
  simpa[cCh]using ho
 have h1':W.ownsRow B 33 13 v ts.length (cCh ts):=h1
 refine⟨_,_,_,w',hr,⟨_,by simp,ho2,fun t ht=>?_⟩,?_⟩
 · rcases List.mem_append.1 ht with ht|ht
   · rcases h2 t ht with h|h
     · exact .inl h
     · exact .inr ⟨own_grownB hg h1' h.1 (by decide),own_grownB hg h1' h.2 (by decide)⟩
   · rw[List.mem_singleton.1 ht]
     exact .inr ⟨own_grownB hg h1' ha (by decide),own_grownB hg h1' hb (by decide)⟩
 · exact((Below.refl B W).alloc hB _).grown hg (by simp;omega) (fun k hk=>(own_row h1' k hk).1)
theorem OwnX.one(w0 W:World)(c:Ch)(x y:Value)(a b:Option Addr)(n1 d1 n2 d2:Nat)(hx:x= .slice a n1 d1)(hy:y= .slice b n2 d2)(h:∀W',Below w0.heap.size w0 W'->DL W' x c.ends/\DL W' y c.deps):OwnX w0 (W.alloc (.cells (chCells c x y) 33)) W.heap.size (.slice (some ⟨W.heap.size,0,none⟩) 1 1) [c]:=by
 subst hx hy
 refine⟨[(c,.slice a n1 d1,.slice b n2 d2)],rfl,?_,fun t ht=>?_⟩
 · show World.ownsRow _ _ _ _ _ _ _
   refine⟨rfl,.inr ⟨W.heap.size,1,chCells c (.slice a n1 d1) (.slice b n2 d2),rfl,Nat.le_refl _,heap_alloc_new W _,Nat.le_refl _,by unfold maxLen;omega,by rfl,by simp[cCh,chCells]⟩⟩
 · rw[List.mem_singleton.1 ht];exact .inl h
theorem pick_any(c n:Int)(w:World)(h1 : -9223372036854775808<=c)(h2:c<=9223372036854775807)(h3:1<=n)(h4:n<=9223372036854775807):
    Calls Tryz.prog 26 #[.int .i64 c,.int .i64 n] w fun e w'=>e= .returned (.int .i64 (pk c n))/\w=w':=by
  by_cases h:c<0
  · go_enter Tryz.func26,Tryz.ntmps26
    go_wp2
    go_ret
    exact⟨ret_int (by rw[pk,if_pos h,<-Int.neg_tmod];exact Int.tmod_eq_emod_of_nonneg (by omega)),rfl⟩
  · go_enter Tryz.func26,Tryz.ntmps26
    go_wp2
    go_ret
    exact⟨ret_int (by rw[pk,if_neg (by omega)]),rfl⟩
end Go.Proofs.YtlaldnlgapeckaaGreat
