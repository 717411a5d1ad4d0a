/- Facts. -/
import Derived.Test.YtlaldnlgapeckaaGreatVYHi
set_option linter.unusedSimpArgs false
set_option maxRecDepth 100000
set_option maxHeartbeats 4000000
namespace Go.Proofs.YtlaldnlgapeckaaGreat
open Go.RowKit
theorem sameC_self(c:Ch):sameC c c=true:=(sameC_iff c c).2 rfl
theorem sameG_self(g:Gr):sameG g g=true:=(sameG_iff g g).2 rfl
theorem SameChangesR_any(v v':Value)(l:List Ch)(w:World)(hv:LC w v l)(hv':LC w v' l)(hn:l.length<=1000000)(hs:∀c∈l,c.ends.length<=1000000/\c.deps.length<=1000000):
  Calls Tryz.prog 23 #[v,v'] w fun e w'=>e= .returned (.bool true)/\Below w.heap.size w w':=by
 obtain⟨a1,a2,rfl⟩:=hv.shape
 obtain⟨b1,b2,rfl⟩:=hv'.shape
 have c1:=Hd (fun(k:Nat) (hk:k<l.length)=>hv.at_ k hk)
 have c2:=Hd (fun(k:Nat) (hk:k<l.length)=>hv'.at_ k hk)
 have hs:=Hd hs
 obtain⟨N,hN⟩:∃N,Hid (N=l.length):=⟨_,rfl⟩
 rw[<-hN.out]at hn ⊢
 clear hv hv'
 go_enter Tryz.func23,Tryz.ntmps23
 go_wp2_with fail
 go_loopw [5] (fun i wr=>∃(k:Nat),k<=N/\i= .int .i64 k/\Hid (Below w.heap.size w wr)) (fun i _=>N-(intOf i).toNat)
 case atStart=>exact⟨0,Nat.zero_le _,rfl,Below.refl _ _⟩
 case round =>
  obtain⟨k,hk,rfl,hb⟩:=hrel
  by_cases hlt:k<N
  · have i0':(0:Int)<=(k:Int):=by omega
    have i1:(k:Int)<(N:Int):=by omega
    have hkl:k<l.length:=by rw[<-hN.out];exact hlt
    obtain⟨p,po,pc,x,y,e1,hp,hat,hx,hy⟩:=c1.out k hkl
    obtain⟨q,qo,qc,x',y',e2,hq,hat',hx',hy'⟩:=c2.out k hkl
    injection e1 with e1 _ e3
    injection e2 with e2 _ e4
    subst e1 e3 e2 e4
    obtain⟨xa,xb,rfl⟩:=hx.shape
    obtain⟨ya,yb,rfl⟩:=hy.shape
    obtain⟨xa',xb',rfl⟩:=hx'.shape
    obtain⟨ya',yb',rfl⟩:=hy'.shape
    obtain⟨c,hc⟩:∃c,Hid (c=l[k]):=⟨l[k],Hd rfl⟩
    have hcs:=hs.out _ (List.getElem_mem hkl)
    rw[<-hc.out]at hat hat' hx hy hx' hy' hcs
    have kS:=Hd (fun W (BB:Below w.heap.size w W)=>(show Calls Tryz.prog 40 #[.agg (chCells c (.slice xa c.ends.length xb) (.slice ya c.deps.length yb)),.agg (chCells c (.slice xa' c.ends.length xb') (.slice ya' c.deps.length yb'))] W fun e w'=>e= .returned (.bool true)/\Below w.heap.size w w' from by
     have h:=SameChange_any _ _ c c W ⟨_,_,rfl,hx.below BB,hy.below BB⟩ ⟨_,_,rfl,hx'.below BB,hy'.below BB⟩ hcs hcs
     rw[sameC_self]at h
     exact h.mono fun e w' q=>⟨q.1,BB.trans (q.2.mono BB.size)⟩))
    have cl1:=Hd (fun W (BB:Below w.heap.size w W)=>(chAt_below hat hp BB).cells)
    have cl2:=Hd (fun W (BB:Below w.heap.size w W)=>(chAt_below hat' hq BB).cells)
    generalize c.ends.length=n1 at *
    generalize c.deps.length=n2 at *
    clear hat hat' hx hy hx' hy' hcs hc
    go_upto_region 6 with(fail)
    refine q_region (fun W=>Below w.heap.size w W) (by kernel_rfl) (by kernel_rfl) hb.out.drew ?_
    iterate 8 (refine q_take (v:=?_) (by rfl) ?_ ?_;rotate_left;(first|((intro w h;clear h;go_simp)<;>with_reducible rfl)|((intro w h;obtain⟨u0,u1,u2,u3,u4,u5,u6,u7,u8,u9,u10,u11,u12⟩:=cl1.out w h;clear h;go_simp)<;>with_reducible rfl)|((intro w h;obtain⟨u0,u1,u2,u3,u4,u5,u6,u7,u8,u9,u10,u11,u12⟩:=cl2.out w h;clear h;go_simp)<;>with_reducible rfl));try simp only[Act.put,List.setIfInBounds_toArray,List.set_cons_zero,List.set_cons_succ])
    refine q_call (v:= .bool true) Tryz.f40 (by rfl) rfl Tryz.func40 (by kernel_rfl) (by kernel_rfl) #[.agg (chCells c (.slice xa n1 xb) (.slice ya n2 yb)),.agg (chCells c (.slice xa' n1 xb') (.slice ya' n2 yb'))] (by simp[Act.eval,chCells]) (fun w hSw=>kS.out w hSw) ?_
    try simp only[Act.put,List.setIfInBounds_toArray,List.set_cons_zero,List.set_cons_succ]
    refine q_take (v:=?_) (by rfl) ?_ ?_;rotate_left;((intro w h;clear h;go_simp)<;>with_reducible rfl);try simp only[Act.put,List.setIfInBounds_toArray,List.set_cons_zero,List.set_cons_succ]
    refine q_nil ?_
    intro wq hq
    have hq:=Hd hq
    go_wp2_with fail
    go_roundw
    case rel=>exact⟨k+1,by omega,by go_num,hq⟩
    case measure=>simp[intOf];omega
  · have i1:¬(k:Int)<(N:Int):=by omega
    go_wp2_with fail
    go_ret
    exact⟨rfl,hb.out⟩
def apF(g:Gr)(c:Ch):Gr × Int:=match (if g.ok=true then actF g c else none)with
 | none=>(⟨[],[],[]⟩,30)
 | some p=>(p.1,0)
theorem gv_zero(W:World):GV W (.agg #[.slice none 0 0,.slice none 0 0,.slice none 0 0]) ⟨[],[],[]⟩:=⟨_,_,_,rfl,.inl ⟨rfl,_,_,rfl⟩,.inl ⟨rfl,_,_,rfl⟩,.inl ⟨rfl,_,_,rfl⟩⟩
theorem ApplyU(v vc:Value)(g:Gr)(c:Ch)(w0:World)(hv:GV w0 v g)(hc:CV w0 vc c)(hs:g.small)(hl:c.ends.length<=100000/\c.deps.length<=100000)(hr:chIn c):
  Calls Tryz.prog 20 #[v,vc] w0 fun e w'=>∃(x1:Option Addr) (n1 d1:Nat) (x2:Option Addr) (n2 d2:Nat) (x3:Option Addr) (n3 d3:Nat),e= .returned (.tuple #[.agg #[.slice x1 n1 d1,.slice x2 n2 d2,.slice x3 n3 d3],.int .i64 (apF g c).2])/\GV w' (.agg #[.slice x1 n1 d1,.slice x2 n2 d2,.slice x3 n3 d3]) (apF g c).1/\Below w0.heap.size w0 w' :=
 (ApplyR_any v vc g c w0 hv hc hs hl hr).mono fun e w' h=>by
  obtain⟨b,h⟩:=h
  unfold apF
  cases ha:(if g.ok=true then actF g c else none)with
  | none=>rw[ha]at h;exact⟨_,_,_,_,_,_,_,_,_,h,gv_zero _,b⟩
  | some p =>
   rw[ha]at h
   obtain⟨r,he,⟨x,y,z,rfl,h1,h2,h3⟩,_⟩:=h
   obtain⟨_,_,rfl⟩:=h1.shape
   obtain⟨_,_,rfl⟩:=h2.shape
   obtain⟨_,_,rfl⟩:=h3.shape
   exact⟨_,_,_,_,_,_,_,_,_,he,⟨_,_,_,rfl,h1,h2,h3⟩,b⟩
structure AaS(w0:World)(B q:Nat)(x y z:Value)(g:Gr)(W:World):Prop where
 box:W.heap[q]?=some (.cells #[x,y,z] 26 (0,0))
 res:W.heap[B+1]?=some (.cells #[.slice none 0 0,.slice none 0 0,.slice none 0 0] 26 (0,0))
 gv:GV W (.agg #[x,y,z]) g
 bel:Below B w0 W
 sz:B+2<=W.heap.size
theorem AaS.to{w0 W W':World}{B q:Nat}{x y z:Value}{g:Gr}(h:AaS w0 B q x y z g W)(b:Below W.heap.size W W'):AaS w0 B q x y z g W' :=
 ⟨(b.block _ (Array.getElem?_eq_some_iff.1 h.box).1).trans h.box,(b.block _ (by have:=h.sz;omega)).trans h.res,h.gv.below b,h.bel.trans (b.mono (by have:=h.sz;omega)),Nat.le_trans h.sz b.size⟩
def AllU(g:Gr)(l:List Ch)(w:World)(e:Ending)(w':World):Prop :=
 Below w.heap.size w w'/\match (if g.ok=true then runF g l else none)with
  | none=>e= .returned (.tuple #[.agg #[.slice none 0 0,.slice none 0 0,.slice none 0 0],.int .i64 (if g.ok=true then(stopF g l:Nat)else(0:Nat)),.int .i64 30])
  | some g'=>∃r,e= .returned (.tuple #[r,.int .i64 (l.length:Nat),.int .i64 0])/\GV w' r g'
theorem ApplyAllR_any(v vl:Value)(g:Gr)(l:List Ch)(w:World)(hv:GV w v g)(hl:LC w vl l)(hn:g.vs.length<=1000000/\g.es.length<=1000000/\g.ds.length<=1000000)(hm:l.length<=1000000)(hs:∀c∈l,c.ends.length<=100000/\c.deps.length<=100000)(hci:∀c∈l,chIn c):
  Calls Tryz.prog 25 #[v,vl] w (AllU g l w):=by
 obtain⟨a,b,c,rfl,h1,h2,h3⟩:=hv
 obtain⟨a1,a2,rfl⟩:=h1.shape
 obtain⟨b1,b2,rfl⟩:=h2.shape
 obtain⟨c1,c2,rfl⟩:=h3.shape
 obtain⟨la,lc,rfl⟩:=hl.shape
 obtain⟨B,hB⟩:∃B,Hid (B=w.heap.size):=⟨_,rfl⟩
 obtain⟨w1,hw1⟩:∃W,W=(w.alloc (.cells #[.slice a1 g.vs.length a2,.slice b1 g.es.length b2,.slice c1 g.ds.length c2] 26)).alloc (.cells #[.slice none 0 0,.slice none 0 0,.slice none 0 0] 26):=⟨_,rfl⟩
 have hB0:Below w.heap.size w w1:=by rw[hw1];exact((Below.refl _ w).alloc (Nat.le_refl _) _).alloc (by simp) _
 have hBw:=Hd hB0
 have hS1:=Hd (show AaS w B B (.slice a1 g.vs.length a2) (.slice b1 g.es.length b2) (.slice c1 g.ds.length c2) g w1 from
  ⟨by rw[hw1,hB.out];exact al_keep1 (heap_alloc_new w _),by rw[hw1,hB.out];have h:=heap_alloc_new (w.alloc (.cells #[.slice a1 g.vs.length a2,.slice b1 g.es.length b2,.slice c1 g.ds.length c2] 26)) (.cells #[.slice none 0 0,.slice none 0 0,.slice none 0 0] 26);simpa using h,⟨_,_,_,rfl,h1.below hB0,h2.below hB0,h3.below hB0⟩,by rw[hB.out];exact hB0,by rw[hw1,hB.out];simp⟩)
 have hLC:=Hd (fun W (BB:Below w.heap.size w W)=>hl.below BB)
 have c1':=Hd (fun(k:Nat) (hk:k<l.length)=>hl.at_ k hk)
 have hs:=Hd hs
 have hci:=Hd hci
 have cV:=Hd (fun W (BB:Below w1.heap.size w1 W)=>ValidR_any _ g W (hS1.out.to BB).gv ⟨by omega,by omega,by omega⟩)
 have cC:=Hd (fun W (BB:Below w1.heap.size w1 W)=>CopyR_any _ g W (hS1.out.to BB).gv hn)
 have hokh:=Hd (show g.ok=true->Ok g from(ok_iff g).1)
 have hpN:=Hd (show ∀W (k:Nat) (E:Int),Below w.heap.size w W->g.ok=true->runF g l=none->stopF g l=k->E=30->AllU g l w (.returned (.tuple #[.agg #[.slice none 0 0,.slice none 0 0,.slice none 0 0],.int .i64 (k:Nat),.int .i64 E])) W from fun W k E bW ho hr hst hE=>⟨bW,by rw[ho,if_pos rfl,hr,if_pos rfl,hst,hE]⟩)
 have hp0:=Hd (show ∀W,Below w.heap.size w W->g.ok=false->AllU g l w (.returned (.tuple #[.agg #[.slice none 0 0,.slice none 0 0,.slice none 0 0],.int .i64 0,.int .i64 30])) W from fun W bW ho=>⟨bW,by rw[ho];rfl⟩)
 have hpS:=Hd (show ∀W g' r,Below w.heap.size w W->g.ok=true->runF g l=some g'->GV W r g'->AllU g l w (.returned (.tuple #[r,.int .i64 (l.length:Nat),.int .i64 0])) W from fun W g' r bW ho hr h=>⟨bW,by rw[ho,if_pos rfl,hr];exact⟨r,rfl,h⟩⟩)
 obtain⟨N,hN⟩:∃N,Hid (N=l.length):=⟨_,rfl⟩
 rw[<-hN.out]at hm hpS ⊢
 obtain⟨ok,hoke⟩:∃o,Hid (o=g.ok):=⟨_,rfl⟩
 rw[<-hoke.out]at cV
 obtain⟨N1,hN1⟩:∃N,Hid (N=g.vs.length):=⟨_,rfl⟩
 obtain⟨N2,hN2⟩:∃N,Hid (N=g.es.length):=⟨_,rfl⟩
 obtain⟨N3,hN3⟩:∃N,Hid (N=g.ds.length):=⟨_,rfl⟩
 rw[<-hN1.out,<-hN2.out,<-hN3.out]at hw1 hS1 cV cC ⊢
 have hwh:=Hd hw1
 clear h1 h2 h3 hl hw1 hB0 hn
 have hT:=Hd (fun W (BB:Below w1.heap.size w1 W)=>box3 (hS1.out.to BB).box)
 have hR:=Hd (fun W (BB:Below w1.heap.size w1 W)=>(hS1.out.to BB).res)
 have hbase:=Hd (show ∀W,Below w1.heap.size w1 W->Below w.heap.size w W from fun W BB=>hBw.out.trans (BB.mono hBw.out.size))
 go_enter Tryz.func25,Tryz.ntmps25
 go_upto_region 1 with(fail)
 rw[<-hwh.out,<-hB.out]
 obtain⟨t0,t1,t2⟩:=hT.out w1 (Below.refl _ _)
 cases ok with
 | false =>
  go_wp2_with fail
  with_reducible refine(cV.out w1 (Below.refl _ _)).mono ?_
  rintro e w2 ⟨rfl,b2⟩
  have r8:=Hd (hR.out w2 b2)
  have hf:=Hd (hp0.out _ (show Below w.heap.size w (w2.setRow (B+1) #[.slice none 0 0,.slice none 0 0,.slice none 0 0])from below_row (hbase.out w2 b2) (by rw[hB.out];omega) _) hoke.out.symm)
  clear b2 t0 t1 t2
  go_wp2_with (refine wpList_store_row rfl 26 (.tmp 4) (.tmp 14) rfl (B+1) #[.slice none 0 0,.slice none 0 0,.slice none 0 0] rfl rfl 26 _ r8.out (size26b _ _ _) rfl (by simp[Value.oneCell']) ?_)
  refine bodyPost_ret (results_cell_tmp2_row (fn:=Tryz.f25) rfl _ _ (B+1) 26 #[.slice none 0 0,.slice none 0 0,.slice none 0 0] (0,0) _ _ _ rfl rfl rfl (setRow_heap _ _ _ _ _ _ r8.out) Tryz.underlying26 rfl (size26b _ _ _)) rfl ?_
  exact hf.out
 | true =>
  have hg:=Hd (hokh.out hoke.out.symm)
  go_wp2_with fail
  with_reducible refine(cV.out w1 (Below.refl _ _)).mono ?_
  rintro e w2 ⟨rfl,b2⟩
  have K2:=Hd b2
  clear b2 t0 t1 t2
  obtain⟨t0,t1,t2⟩:=hT.out w2 K2.out
  go_wp2_with fail
  with_reducible refine(cC.out w2 K2.out).mono ?_
  rintro e w3 ⟨x,y,z,rfl,o1,o2,o3,b3⟩
  obtain⟨x1,x2,rfl⟩:=o1.VL.shape
  obtain⟨y1,y2,rfl⟩:=o2.EL.shape
  obtain⟨z1,z2,rfl⟩:=o3.DL.shape
  have K3:=Hd (K2.out.trans (b3.mono K2.out.size))
  have hgv3:=Hd (show GV w3 (.agg #[.slice x1 g.vs.length x2,.slice y1 g.es.length y2,.slice z1 g.ds.length z2]) g from⟨_,_,_,rfl,o1.VL,o2.EL,o3.DL⟩)
  rw[<-hN1.out,<-hN2.out,<-hN3.out]at hgv3 ⊢
  clear b3 t0 t1 t2 o1 o2 o3 cV cC
  go_upto_region 4 with(fail)
  obtain⟨w4,hw4⟩:∃W,W=w3.alloc (.cells #[.slice x1 N1 x2,.slice y1 N2 y2,.slice z1 N3 z2] 26):=⟨_,rfl⟩
  rw[<-hw4]
  obtain⟨bb,hnew⟩:=box_new hw4
  have z4:w4.heap.size=w3.heap.size+1:=by rw[hw4];simp
  obtain⟨q,hq⟩:∃q,Hid (q=w3.heap.size):=⟨_,rfl⟩
  have hS4:=Hd (show AaS w B q (.slice x1 N1 x2) (.slice y1 N2 y2) (.slice z1 N3 z2) g w4 from by
   have h:=(hS1.out.to (K3.out.trans (bb.mono K3.out.size)))
   exact⟨by rw[hq.out];exact hnew _ (Below.refl _ _),h.res,hgv3.out.below bb,h.bel,h.sz⟩)
  have hqB:B+2<=q:=by have:=(hS1.out.to K3.out).sz;rw[hq.out];exact this
  clear bb hnew hw4
  rw[<-hq.out]
  clear hgv3 K2 K3 z4 hT hR hbase hBw hwh hS1 hq
  go_wp2_with fail
  go_loopw [8] (fun i wr=>∃(k:Nat) (gk:Gr) (a1:Option Addr) (m1 e1:Nat) (a2:Option Addr) (m2 e2:Nat) (a3:Option Addr) (m3 e3:Nat),i= .int .i64 k/\k<=N/\Hid (runF g l=runF gk (l.drop k)/\stopF g l=k+stopF gk (l.drop k))/\Hid (Ok gk)/\Hid (AaS w B q (.slice a1 m1 e1) (.slice a2 m2 e2) (.slice a3 m3 e3) gk wr)) (fun i _=>N-(intOf i).toNat)
  case atStart=>exact⟨0,g,_,_,_,_,_,_,_,_,_,rfl,by omega,⟨rfl,by simp⟩,hg,hS4⟩
  case round =>
  obtain⟨k,gk,a1,m1,e1,a2,m2,e2,a3,m3,e3,rfl,hk,hrun,hO,hS⟩:=hrel
  clear hS4
  by_cases hlt:k<N
  rotate_left
  · have i1:¬(k:Int)<(N:Int):=by omega
    have hkN:k=N:=by omega
    have r8:=Hd hS.out.res
    have hgs:=Hd (GV.shut0 hS.out.gv r8.out #[.slice a1 m1 e1,.slice a2 m2 e2,.slice a3 m3 e3])
    have hf:=Hd (hpS.out (wr.setRow (B+1) #[.slice a1 m1 e1,.slice a2 m2 e2,.slice a3 m3 e3]) gk _ (show Below w.heap.size w _ from by have h:=below_row hS.out.bel (show B<=B+1 by omega) #[.slice a1 m1 e1,.slice a2 m2 e2,.slice a3 m3 e3];rw[<-hB.out];exact h) hoke.out.symm (by rw[hrun.out.1,hkN,hN.out,List.drop_length];rfl) hgs.out)
    obtain⟨t0,t1,t2⟩:=box3 hS.out.box
    clear hrun hO hgs hkN
    go_wp2_with (refine wpList_store_row rfl 26 (.tmp 4) (.tmp 38) rfl (B+1) #[.slice a1 m1 e1,.slice a2 m2 e2,.slice a3 m3 e3] rfl rfl 26 _ r8.out (size26b _ _ _) rfl (by simp[Value.oneCell']) ?_)
    refine bodyPost_ret (results_cell_tmp2_row (fn:=Tryz.f25) rfl _ _ (B+1) 26 #[.slice a1 m1 e1,.slice a2 m2 e2,.slice a3 m3 e3] (0,0) _ _ _ rfl rfl rfl (setRow_heap _ _ _ _ _ _ r8.out) Tryz.underlying26 rfl (size26b _ _ _)) rfl ?_
    exact hf.out
  · have hkl:k<l.length:=by rw[<-hN.out];exact hlt
    have i0:(0:Int)<=(k:Int):=by omega
    have i1:(k:Int)<(N:Int):=by omega
    obtain⟨p,po,pc,x,y,e,hp,hat,hx,hy⟩:=c1'.out k hkl
    injection e with e _ e3
    subst e e3
    obtain⟨xa,xb,rfl⟩:=hx.shape
    obtain⟨ya,yb,rfl⟩:=hy.shape
    have hrk:=Hd (show runF gk (l.drop k)=(match actF gk l[k]with|none=>none|some (g',_)=>runF g' (l.drop (k+1)))/\stopF gk (l.drop k)=(match actF gk l[k]with|none=>0|some (g',_)=>stopF g' (l.drop (k+1))+1)from by
      rw[List.drop_eq_getElem_cons hkl];exact⟨rfl,rfl⟩)
    have hcs:=Hd (hs.out _ (List.getElem_mem hkl))
    have hcn:=Hd (hci.out _ (List.getElem_mem hkl))
    obtain⟨c,hc⟩:∃c,Hid (c=l[k]):=⟨l[k],Hd rfl⟩
    rw[<-hc.out]at hat hx hy hrk hcs hcn
    clear hc
    obtain⟨E,hE⟩:∃E,Hid (E=(apF gk c).2):=⟨_,Hd rfl⟩
    obtain⟨G,hG⟩:∃G,Hid (G=(apF gk c).1):=⟨_,Hd rfl⟩
    obtain⟨nB,hnB⟩:∃n,Hid (n=wr.heap.size):=⟨_,rfl⟩
    have hle:=Hd (show ∀W,Below nB wr W->nB<=W.heap.size from fun W b=>by rw[hnB.out];exact b.size)
    have hRefl:=Hd (show Below nB wr wr from Below.refl _ _)
    have hBel:=Hd (show ∀W,Below nB wr W->Below wr.heap.size wr W from fun W b=>by rw[hnB.out]at b;exact b)
    have hwB:=Hd (show ∀W,Below nB wr W->Below w.heap.size w W from fun W BB=>by have h:=hS.out.bel.trans (BB.mono (by have:=hS.out.sz;have:=hnB.out;omega));rw[hB.out]at h;exact h)
    have cA:=Hd (show ∀W,Below nB wr W->Calls Tryz.prog 20 #[.agg #[.slice a1 m1 e1,.slice a2 m2 e2,.slice a3 m3 e3],.agg (chCells c (.slice xa c.ends.length xb) (.slice ya c.deps.length yb))] W fun e w'=>∃(x1:Option Addr) (n1 d1:Nat) (x2:Option Addr) (n2 d2:Nat) (x3:Option Addr) (n3 d3:Nat),e= .returned (.tuple #[.agg #[.slice x1 n1 d1,.slice x2 n2 d2,.slice x3 n3 d3],.int .i64 E])/\GV w' (.agg #[.slice x1 n1 d1,.slice x2 n2 d2,.slice x3 n3 d3]) G/\Below W.heap.size W w' from fun W BB=>by
      have h1:=hO.out.vlen
      have h2:=hO.out.elen
      have h3:=hO.out.dlen
      rw[hE.out,hG.out]
      exact ApplyU _ _ gk c W (hS.out.gv.below (hBel.out W BB)) ⟨_,_,rfl,hx.below (hwB.out W BB),hy.below (hwB.out W BB)⟩ ⟨by omega,by omega,by omega⟩ hcs.out hcn.out)
    have hC:=Hd (fun W (BB:Below nB wr W)=>(chAt_below hat hp (hwB.out W BB)).cells)
    have hT:=Hd (fun W (BB:Below nB wr W)=>box3 (hS.out.to (hBel.out W BB)).box)
    obtain⟨M1,hM1⟩:∃N,Hid (N=c.ends.length):=⟨_,rfl⟩
    obtain⟨M2,hM2⟩:∃N,Hid (N=c.deps.length):=⟨_,rfl⟩
    rw[<-hM1.out,<-hM2.out]at cA hC
    unfold chCells at cA
    clear hat hx hy hcs hcn hM1 hM2 hwB hp
    go_upto_region 7 with(fail)
    go_cut [9,10]from 23 to 31 (fun s9 s10 wx=>∃(xA:Nat) (x1:Option Addr) (n1 d1:Nat) (x2:Option Addr) (n2 d2:Nat) (x3:Option Addr) (n3 d3:Nat),s9= .pointer (some ⟨xA,0,none⟩)/\s10= .int .i64 E/\wx.heap[xA]?=some (.cells #[.slice x1 n1 d1,.slice x2 n2 d2,.slice x3 n3 d3] 26 (0,0))/\GV wx (.agg #[.slice x1 n1 d1,.slice x2 n2 d2,.slice x3 n3 d3]) G/\nB<=xA/\Below nB wr wx)
    case first =>
      refine wp_region_F (fun w':World=>Below nB wr w') 999 (by kernel_rfl) hRefl.out.drew (fun hHeld=>?_)
      refine tkP 0 rfl ?_ (by(intro w hSw;obtain⟨t0,t1,t2⟩:=hT.out w hSw;obtain⟨u0,u1,u2,u3,u4,u5,u6,u7,u8,u9,u10,u11,u12⟩:=hC.out w hSw;clear hSw;go_simp)<;>with_reducible rfl)
      refine tkP 1 rfl ?_ (by(intro w hSw;obtain⟨t0,t1,t2⟩:=hT.out w hSw;obtain⟨u0,u1,u2,u3,u4,u5,u6,u7,u8,u9,u10,u11,u12⟩:=hC.out w hSw;clear hSw;go_simp)<;>with_reducible rfl)
      refine tkP 2 rfl ?_ (by(intro w hSw;obtain⟨t0,t1,t2⟩:=hT.out w hSw;obtain⟨u0,u1,u2,u3,u4,u5,u6,u7,u8,u9,u10,u11,u12⟩:=hC.out w hSw;clear hSw;go_simp)<;>with_reducible rfl)
      refine tkP 3 rfl ?_ (by(intro w hSw;obtain⟨t0,t1,t2⟩:=hT.out w hSw;obtain⟨u0,u1,u2,u3,u4,u5,u6,u7,u8,u9,u10,u11,u12⟩:=hC.out w hSw;clear hSw;go_simp)<;>with_reducible rfl)
      refine tkP 4 rfl ?_ (by(intro w hSw;obtain⟨t0,t1,t2⟩:=hT.out w hSw;obtain⟨u0,u1,u2,u3,u4,u5,u6,u7,u8,u9,u10,u11,u12⟩:=hC.out w hSw;clear hSw;go_simp)<;>with_reducible rfl)
      refine rdy [5,9] ?_
      refine arC rfl (fun K hK=>?_) ?_
      · skip
        go_simp
        with_reducible refine(cA.out _ hHeld).mono ?_
        rintro e wc ⟨x1,n1,d1,x2,n2,d2,x3,n3,d3,rfl,hgv,b⟩
        have hgv:=Hd hgv
        have b4:Below nB wr wc:=hHeld.trans (b.mono (hle.out _ hHeld))
        clear b
        go_wp2_with fail
        refine hK.out _ _ ?_ (fun hHeld=>?_)
        · exact b4
        clear hK K
        try simp only[Act.put,zT,z0,zS]
        refine tkP 6 rfl ?_
        refine tkP 7 rfl ?_
        refine tkP 8 rfl ?_
        refine rdy [9] ?_
        refine arC rfl (fun K hK=>?_) ?_
        · skip
          go_simp
          obtain⟨xA,hxA,hxl⟩:∃xA,xA=(wc).heap.size/\Hid (nB<=xA):=⟨_,rfl,Hd (hle.out _ hHeld)⟩
          obtain⟨wA,hwA⟩:∃wA,wA=(wc).alloc (.cells #[.slice none 0 0,.slice none 0 0,.slice none 0 0] 26):=⟨_,rfl⟩
          have hA:Below nB wr wA:=by rw[hwA];exact hHeld.alloc (hle.out _ hHeld) _
          have hBA:=Hd (show Below (wc).heap.size (wc) wA from by rw[hwA];exact(Below.refl _ _).alloc (Nat.le_refl _) _)
          have hx0:=Hd (show ∀W2,Below wA.heap.size wA W2->W2.heap[xA]?=some (.cells #[.slice none 0 0,.slice none 0 0,.slice none 0 0] 26 (0,0))from fun W2 b2=>by rw[b2.block _ (by rw[hwA,hxA];simp[heap_drew]),hwA,hxA];exact heap_alloc_new (wc) _)
          replace hgv:=Hd (hgv.out.below hBA.out)
          have hxA':=Hd hxA
          refine hK.out _ _ ?_ (fun hHeld=>?_)
          · rw[<-hwA];exact hA
          clear hK K
          try simp only[Act.put,zT,z0,zS]
          rw[<-hwA]
          try simp only[heap_drew]at hxA
          rw[<-hxA]
          replace hHeld:=hA
          clear hA hwA hxA hxA' hBA
          refine rdy [10] ?_
          refine arC rfl (fun K hK=>?_) ?_
          · skip
            have hx:=hx0.out _ (Below.refl _ _)
            refine wp_store_row 26 (.tmp 9) (.tmp 30) rfl xA #[.slice x1 n1 d1,.slice x2 n2 d2,.slice x3 n3 d3] rfl rfl 26 _ hx (size26b _ _ _) rfl (by simp[Value.oneCell']) ?_
            obtain⟨W8,hW8⟩:∃W8,W8=World.setRow wA xA #[.slice x1 n1 d1,.slice x2 n2 d2,.slice x3 n3 d3]:=⟨_,rfl⟩
            have b8:Below nB wr W8:=by rw[hW8];exact below_row hHeld hxl.out _
            have c8:W8.heap[xA]?=some (.cells #[.slice x1 n1 d1,.slice x2 n2 d2,.slice x3 n3 d3] 26 (0,0)):=by rw[hW8];exact setRow_heap _ _ _ _ _ _ hx
            have hgv8:=by have h:=GV.shut0 hgv.out hx #[.slice x1 n1 d1,.slice x2 n2 d2,.slice x3 n3 d3];rw[<-hW8]at h;exact Hd h
            refine hK.out _ _ ?_ (fun hHeld=>?_)
            · rw[<-hW8];exact b8
            clear hK K
            try simp only[Act.put,zT,z0,zS]
            rw[<-hW8]
            replace hHeld:=b8
            clear hW8 hx
            refine tkP 11 rfl ?_
            refine wpAnyF_done (by kernel_rfl) ?_ _
            go_wp2_with fail
            go_meet
            case rel=>exact⟨xA,_,_,_,_,_,_,_,_,_,rfl,rfl,c8,hgv8.out,hxl.out,b8⟩
          exact AllReadyF.nil
        exact AllReadyF.nil
      refine arC rfl (fun K hK=>?_) ?_
      · skip
        go_simp
        obtain⟨xA,hxA,hxl⟩:∃xA,xA=(wr.drew).heap.size/\Hid (nB<=xA):=⟨_,rfl,Hd (hle.out _ hHeld)⟩
        obtain⟨wA,hwA⟩:∃wA,wA=(wr.alloc (.cells #[.slice none 0 0,.slice none 0 0,.slice none 0 0] 26)).drew:=⟨_,rfl⟩
        have hA:Below nB wr wA:=by rw[hwA];exact hHeld.alloc (hle.out _ hHeld) _
        have hBA:=Hd (show Below (wr.drew).heap.size (wr.drew) wA from by rw[hwA];exact(Below.refl _ _).alloc (Nat.le_refl _) _)
        have hx0:=Hd (show ∀W2,Below wA.heap.size wA W2->W2.heap[xA]?=some (.cells #[.slice none 0 0,.slice none 0 0,.slice none 0 0] 26 (0,0))from fun W2 b2=>by rw[b2.block _ (by rw[hwA,hxA];simp[heap_drew]),hwA,hxA];exact heap_alloc_new (wr.drew) _)
        have hxA':=Hd hxA
        refine hK.out _ _ ?_ (fun hHeld=>?_)
        · rw[<-hwA];exact hA
        clear hK K
        try simp only[Act.put,zT,z0,zS]
        rw[<-hwA]
        try simp only[heap_drew]at hxA
        rw[<-hxA]
        replace hHeld:=hA
        clear hA hwA hxA hxA' hBA
        refine rdy [5] ?_
        refine arC rfl (fun K hK=>?_) ?_
        · skip
          go_simp
          with_reducible refine(cA.out _ hHeld).mono ?_
          rintro e wc ⟨x1,n1,d1,x2,n2,d2,x3,n3,d3,rfl,hgv,b⟩
          have hgv:=Hd hgv
          have hx1:=Hd (hx0.out _ b)
          have b4:Below nB wr wc:=hHeld.trans (b.mono (hle.out _ hHeld))
          clear b
          go_wp2_with fail
          refine hK.out _ _ ?_ (fun hHeld=>?_)
          · exact b4
          clear hK K
          try simp only[Act.put,zT,z0,zS]
          refine tkP 6 rfl ?_
          refine tkP 7 rfl ?_
          refine tkP 8 rfl ?_
          refine rdy [10] ?_
          refine arC rfl (fun K hK=>?_) ?_
          · skip
            have hx:=hx1.out
            refine wp_store_row 26 (.tmp 9) (.tmp 30) rfl xA #[.slice x1 n1 d1,.slice x2 n2 d2,.slice x3 n3 d3] rfl rfl 26 _ hx (size26b _ _ _) rfl (by simp[Value.oneCell']) ?_
            obtain⟨W8,hW8⟩:∃W8,W8=World.setRow wc xA #[.slice x1 n1 d1,.slice x2 n2 d2,.slice x3 n3 d3]:=⟨_,rfl⟩
            have b8:Below nB wr W8:=by rw[hW8];exact below_row hHeld hxl.out _
            have c8:W8.heap[xA]?=some (.cells #[.slice x1 n1 d1,.slice x2 n2 d2,.slice x3 n3 d3] 26 (0,0)):=by rw[hW8];exact setRow_heap _ _ _ _ _ _ hx
            have hgv8:=by have h:=GV.shut0 hgv.out hx #[.slice x1 n1 d1,.slice x2 n2 d2,.slice x3 n3 d3];rw[<-hW8]at h;exact Hd h
            refine hK.out _ _ ?_ (fun hHeld=>?_)
            · rw[<-hW8];exact b8
            clear hK K
            try simp only[Act.put,zT,z0,zS]
            rw[<-hW8]
            replace hHeld:=b8
            clear hW8 hx
            refine tkP 11 rfl ?_
            refine wpAnyF_done (by kernel_rfl) ?_ _
            go_wp2_with fail
            go_meet
            case rel=>exact⟨xA,_,_,_,_,_,_,_,_,_,rfl,rfl,c8,hgv8.out,hxl.out,b8⟩
          exact AllReadyF.nil
        exact AllReadyF.nil
      exact AllReadyF.nil
    case rest =>
      obtain⟨xA,x1,n1,d1,x2,n2,d2,x3,n3,d3,rfl,rfl,hxq,hgx,hxl,bx⟩:=hcut
      obtain⟨wx,rfl⟩:∃w',w'=wc:=⟨_,rfl⟩
      have hSx:=Hd (hS.out.to (hBel.out _ bx))
      have zr:=(Array.getElem?_eq_some_iff.1 hS.out.box).1
      clear cA hC hT bx
      cases ha:actF gk c with
      | none =>
        have hE30:E=30:=by rw[hE.out];unfold apF;rw[ha];simp
        have hr:=hrk.out
        rw[ha]at hr
        have r8:=Hd hSx.out.res
        have hf:=Hd (hpN.out (World.setRow wx (B+1) #[.slice none 0 0,.slice none 0 0,.slice none 0 0]) k 30 (by have h:=below_row hSx.out.bel (show B<=B+1 by omega) #[.slice none 0 0,.slice none 0 0,.slice none 0 0];rw[<-hB.out];exact h) hoke.out.symm (by rw[hrun.out.1,hr.1]) (by rw[hrun.out.2,hr.2];rfl) rfl)
        clear hr ha hrun hrk hgx hxq hSx
        subst hE30
        go_wp2_with (refine wpList_store_row rfl 26 (.tmp 4) (.tmp 34) rfl (B+1) #[.slice none 0 0,.slice none 0 0,.slice none 0 0] rfl rfl 26 _ r8.out (size26b _ _ _) rfl (by simp[Value.oneCell']) ?_)
        refine bodyPost_ret (results_cell_tmp2_row (fn:=Tryz.f25) rfl _ _ (B+1) 26 #[.slice none 0 0,.slice none 0 0,.slice none 0 0] (0,0) _ _ _ rfl rfl rfl (setRow_heap _ _ _ _ _ _ r8.out) Tryz.underlying26 rfl (size26b _ _ _)) rfl ?_
        exact hf.out
      | some pr =>
        have hok:gk.ok=true:=(ok_iff gk).2 hO.out
        have hE0:E=0:=by rw[hE.out];unfold apF;rw[if_pos hok,ha]
        have hGp:G=pr.1:=by rw[hG.out];unfold apF;rw[if_pos hok,ha]
        have hO2:=Hd (act_ok gk c pr.1 pr.2 hO.out ha)
        have hr:=hrk.out
        rw[ha]at hr
        have hrun2:=Hd (show runF g l=runF G (l.drop (k+1))/\stopF g l=(k+1)+stopF G (l.drop (k+1))from by
          rw[hGp,hrun.out.1,hrun.out.2,hr.1,hr.2];exact⟨rfl,by simp only[];omega⟩)
        rw[<-hGp]at hO2
        have bx:=Hd hSx.out.box
        have hS5:=Hd (show AaS w B q (.slice x1 n1 d1) (.slice x2 n2 d2) (.slice x3 n3 d3) G (World.setRow wx q #[.slice x1 n1 d1,.slice x2 n2 d2,.slice x3 n3 d3])from
          ⟨setRow_heap _ _ _ _ _ _ bx.out,by rw[setRow_other _ _ _ _ (by omega)];exact hSx.out.res,hgx.apart bx.out (noInt3 _ _ _ _ _ _ _ _ _) (fun k hk=>setRow_other _ _ _ _ hk) (by simp),below_row hSx.out.bel (by omega) _,by have:=hSx.out.sz;simpa using this⟩)
        obtain⟨t0,t1,t2⟩:=box3 hxq
        clear hr ha hrun hrk hgx hxq hSx hGp hok hO hG
        subst hE0
        clear hE
        go_wp2_with (refine wpList_store_row rfl 26 (.tmp 7) (.tmp 37) rfl q #[.slice x1 n1 d1,.slice x2 n2 d2,.slice x3 n3 d3] rfl rfl 26 _ bx.out (size26b _ _ _) rfl (by simp[Value.oneCell']) ?_)
        go_roundw
        case rel=>exact⟨k+1,G,_,_,_,_,_,_,_,_,_,by go_num,by omega,hrun2,hO2,hS5⟩
        case measure=>simp[intOf];omega
end Go.Proofs.YtlaldnlgapeckaaGreat
