/- Facts. -/
import Derived.Recover
import Derived.Test.YtlaldnlgapeckaaGreatVYB
set_option linter.unusedSimpArgs false
set_option maxRecDepth 100000
set_option maxHeartbeats 4000000
namespace Go.Proofs.YtlaldnlgapeckaaGreat
open Go.RowKit
/-! ### The reader -/
structure KR(b:Nat)(W W':World):Prop where
 below:Below b W W'
 keep:∀k,k≠b->k<W.heap.size->W'.heap[k]?=W.heap[k]?
theorem KR.refl(b:Nat)(W:World):KR b W W:=⟨Below.refl _ _,fun _ _ _=>rfl⟩
theorem KR.trans{b:Nat}{x y z:World}(h:KR b x y)(k:KR b y z):KR b x z:=⟨h.below.trans k.below,fun i e s=>(k.keep i e (Nat.lt_of_lt_of_le s h.below.size)).trans (h.keep i e s)⟩
theorem KR.of{b:Nat}{W W':World}(h:Below W.heap.size W W')(hb:b<=W.heap.size):KR b W W':=⟨h.mono hb,fun k _ s=>h.block k s⟩
def Rd(W:World)(b:Nat)(s:ByteArray)(a:Int):Prop:=W.heap[b]?=some (.cells #[.string s,.int .i64 a] 140 (0,0))
theorem Rd.lt{W:World}{b:Nat}{s:ByteArray}{a:Int}(h:Rd W b s a):b<W.heap.size:=(Array.getElem?_eq_some_iff.1 h).1
theorem Rd.below{W W':World}{b:Nat}{s:ByteArray}{a:Int}(h:Rd W b s a)(B:Below W.heap.size W W'):Rd W' b s a:=(B.block b h.lt).trans h
theorem Rd.cells{W:World}{b:Nat}{s:ByteArray}{a:Int}(h:Rd W b s a):W.cell? ⟨b,0,none⟩=some (.string s)/\W.cell? ⟨b,1,none⟩=some (.int .i64 a):=by
 refine⟨?_,?_⟩<;>(rw[cell_of_row W b _ _ _ _ h];rfl)
theorem Rd.set{W:World}{b:Nat}{s:ByteArray}{a:Int}(h:Rd W b s a)(a':Int):Rd (W.setCell ⟨b,1,none⟩ (.int .i64 a')) b s a'/\KR b W (W.setCell ⟨b,1,none⟩ (.int .i64 a')) :=
 ⟨by unfold Rd at h ⊢;rw[heap_setCell_same W b 1 _ 140 _ h];rfl,(Below.refl b W).setCell (p:=⟨b,1,none⟩) (Nat.le_refl _) _,fun k e _=>heap_setCell_other W ⟨b,1,none⟩ k _ e⟩
def rdI(l:List UInt8)(a:Int):Option (Int × Nat):=if a<0\/(l.length:Int)<a then none else getL l a.toNat
def RNPost(b:Nat)(s:ByteArray)(a:Int)(w:World)(e:Ending)(w':World):Prop :=
 match rdI s.data.toList a with
 | none=>(∃v,e= .panicked [{v:= .iface 45 (.int .i64 v),recovered:=false}])/\KR b w w'
 | some (n,m)=>e= .returned (.int .i64 n)/\Rd w' b s m/\KR b w w'
theorem Int_all(s:ByteArray)(a:Int)(w:World)(hs:s.size<=maxLen)(h1 : -9223372036854775808<=a)(h2:a<=9223372036854775807):
  Calls Tryz.prog 118 #[.string s,.int .i64 a] w fun e w'=>∃n m r:Int,e= .returned (.tuple #[.int .i64 n,.int .i64 m,.int .i64 r])/\(r==0)=(rdI s.data.toList a).isSome/\(∀x y,rdI s.data.toList a=some (x,y)->n=x/\m=(y:Int))/\w=w':=by
 have hl:s.data.toList.length=s.size:=Array.length_toList;by_cases hc:a<0\/(s.size:Int)<a
 ·refine(Int_arg s a w hs hc h1 h2).mono ?_;rintro e w' ⟨rfl,rfl⟩;have e1:rdI s.data.toList a=none:=by unfold rdI;rw[hl,if_pos hc]
  exact⟨0,0,2,rfl,by rw[e1];rfl,fun x y h=>(by rw[e1]at h;cases h),rfl⟩
 ·obtain⟨k,rfl⟩:∃k:Nat,a=k:=⟨a.toNat,by omega⟩;have e1:rdI s.data.toList (k:Int)=getL s.data.toList k:=by unfold rdI;rw[hl,if_neg hc];simp
  cases hg:getL s.data.toList k with
  | none =>
   refine(Int_none s k w hs (by omega) hg).mono ?_;rintro e w' ⟨rfl,rfl⟩;exact⟨0,0,10,rfl,by rw[e1,hg];rfl,fun x y h=>(by rw[e1,hg]at h;cases h),rfl⟩
  | some p =>
   obtain⟨n,m⟩:=p;refine(Int_ok s k n m w hs (by omega) hg).mono ?_;rintro e w' ⟨rfl,rfl⟩;refine⟨n,m,0,rfl,by rw[e1,hg];rfl,fun x y h=>?_,rfl⟩;rw[e1,hg]at h;injection h with h
   injection h with q1 q2
   exact⟨q1,by rw[q2]⟩
theorem number_any(b:Nat)(s:ByteArray)(a:Int)(w:World)(h:Rd w b s a)(hs:s.size<=maxLen)(h1 : -9223372036854775808<=a)(h2:a<=9223372036854775807):
  Calls Tryz.prog 93 #[.pointer (some ⟨b,0,none⟩)] w (RNPost b s a w):=by
 have hb:=h.lt;have hcell:=Hd (fun(W:World) (B:Below w.heap.size w W)=>(h.below B).cells);have k1:=Hd (fun(W:World)=>Int_all s a W hs h1 h2);have hbad:Hid (∀W v,(false=(rdI s.data.toList a).isSome)->Below w.heap.size w W->RNPost b s a w (.panicked [{v:= .iface 45 (.int .i64 v),recovered:=false}]) W):=fun W v hr B=>by
  unfold RNPost;cases hx:rdI s.data.toList a with
  | none=>exact⟨⟨v,rfl⟩,KR.of B (by omega)⟩
  | some p=>rw[hx]at hr;cases hr
 have hgood:Hid (∀W n m,(true=(rdI s.data.toList a).isSome)->(∀x y,rdI s.data.toList a=some (x,y)->n=x/\m=(y:Int))->Below w.heap.size w W->RNPost b s a w (.returned (.int .i64 n)) (W.setCell ⟨b,1,none⟩ (.int .i64 m))):=fun W n m hr hx B=>by
  unfold RNPost;cases hq:rdI s.data.toList a with
  | none=>rw[hq]at hr;cases hr
  | some p =>
   obtain⟨x,y⟩:=p;obtain⟨rfl,rfl⟩:=hx x y hq;exact⟨rfl,((h.below B).set _).1,(KR.of B (by omega)).trans ((h.below B).set _).2⟩
 have hfree:=Hd (fun(W:World) (B:Below w.heap.size w W)=>frozen_of_row W b 1 _ _ (h.below B));clear h h1 h2 hs;go_enter Tryz.func93,Tryz.ntmps93;go_wp2_with fail;refine wp_region_F (fun w':World=>Below w.heap.size w w') 999 (by kernel_rfl) (Below.refl _ _).drew (fun hHeld=>?_);refine tkP 0 rfl ?_;refine tkP 1 rfl ?_;refine tkP 2 rfl ?_;refine tkP 3 rfl ?_ (by(intro w hSw;obtain⟨q0,q1⟩:=hcell.out w hSw;go_simp)<;>with_reducible rfl);refine tkP 4 rfl ?_;refine tkP 5 rfl ?_;refine tkP 6 rfl ?_;refine tkP 7 rfl ?_ (by(intro w hSw;obtain⟨q0,q1⟩:=hcell.out w hSw;go_simp)<;>with_reducible rfl);refine rdy [8] ?_;refine arC rfl (fun K hK=>?_) ?_
 ·skip
  go_simp;with_reducible refine(k1.out _).mono ?_
  rintro e w2 ⟨n,m,r,rfl,hr,hx,rfl⟩;have hrh:=Hd hr;have hxh:=Hd hx;clear hr hx;go_wp2_with fail;refine hK.out _ _ ?_ (fun hHeld=>?_)
  ·exact hHeld
  clear hK K;try simp only[Act.put,zT,z0,zS]
  refine tkP 9 rfl ?_;refine tkP 10 rfl ?_;refine tkP 11 rfl ?_;refine tkP 12 rfl ?_;refine tkP 13 rfl ?_;refine tkP 14 rfl ?_;refine tkP 15 rfl ?_;refine wpAnyF_done (by kernel_rfl) ?_ _;obtain⟨c0,c1⟩:=hcell.out _ hHeld;have fr:=hfree.out _ hHeld;have hH:=Hd hHeld;clear hHeld;by_cases h0:r=0
  ·subst h0;have hf:=Hd (hgood.out _ n m hrh.out hxh.out hH.out);go_wp2_with fail;go_ret;exact hf.out
  ·have h0':(r==0)=false:=by simpa using h0
   have hf:=Hd (fun v=>hbad.out _ v (h0'.symm.trans hrh.out) hH.out);go_wp2_with fail;exact⟨rfl,hf.out _⟩
 exact AllReadyF.nil
def RPost(b:Nat)(s:ByteArray)(r:Option (Value × Nat))(w:World)(e:Ending)(w':World):Prop :=
 match r with
 | none=>(∃v,e= .panicked [{v:= .iface 45 (.int .i64 v),recovered:=false}])/\KR b w w'
 | some (x,m)=>e= .returned x/\Rd w' b s m/\KR b w w'
theorem RPost.before{b:Nat}{s:ByteArray}{r:Option (Value × Nat)}{w0 w w':World}{e:Ending}(h:RPost b s r w e w')(k:KR b w0 w):RPost b s r w0 e w':=by
 unfold RPost at *
 cases r with
 | none=>exact⟨h.1,k.trans h.2⟩
 | some p=>exact⟨h.1,h.2.1,k.trans h.2.2⟩
theorem rdI_ok{l:List UInt8}{a:Int}{n:Int}{m:Nat}(h:rdI l a=some (n,m)):m<=l.length/\inP n:=by
 unfold rdI at h
 split at h
 ·cases h
 ·obtain⟨h1,h2,h3,_⟩:=getL_sound l _ n m h;exact⟨h3 (by omega),h1,h2⟩
theorem numR(b:Nat)(s:ByteArray)(a:Int)(w:World)(h:Rd w b s a)(hs:s.size<=maxLen)(h1 : -9223372036854775808<=a)(h2:a<=9223372036854775807):
  Calls Tryz.prog 93 #[.pointer (some ⟨b,0,none⟩)] w (RPost b s ((rdI s.data.toList a).map fun p=>(.int .i64 p.1,p.2)) w):=by
 refine(number_any b s a w h hs h1 h2).mono ?_;intro e w' q;unfold RNPost at q;unfold RPost;cases hx:rdI s.data.toList a with
 | none=>rw[hx]at q;exact q
 | some p=>rw[hx]at q;exact q
def rU(l:List UInt8)(most:Int)(a:Int):Option (Int × Nat) :=
 match rdI l a with
 | none=>none
 | some (n,m)=>if inB n 0 most=true then some (n,m)else none
theorem upTo_any(b:Nat)(s:ByteArray)(a most:Int)(w:World)(h:Rd w b s a)(hs:s.size<=maxLen)(h1 : -9223372036854775808<=a)(h2:a<=9223372036854775807):
  Calls Tryz.prog 119 #[.pointer (some ⟨b,0,none⟩),.int .i64 most] w (RPost b s ((rU s.data.toList most a).map fun p=>(.int .i64 p.1,p.2)) w):=by
 have k1:=Hd (numR b s a w h hs h1 h2);have k2:=Hd (fun(n:Int) (W:World)=>within_b n 0 most W);cases hr:rdI s.data.toList a with
 | none =>
  have hU:rU s.data.toList most a=none:=by unfold rU;rw[hr]
  rw[hr]at k1;rw[hU];obtain⟨R,hR⟩:∃R,Hid (R=((none:Option (Int × Nat)).map fun p=>((.int .i64 p.1,p.2):Value × Nat))):=⟨_,rfl⟩;rw[<-hR.out]at k1 ⊢;have hR2:Hid (R=none):=hR.out;clear h hr hU;go_enter Tryz.func119,Tryz.ntmps119;go_wp2_with fail;with_reducible refine k1.out.mono ?_
  intro e w2 q;have hq:=Hd q;rw[hR2.out]at q;obtain⟨⟨v,rfl⟩,_⟩:=q;go_wp2_with fail;exact⟨rfl,hq.out⟩
 | some p =>
  obtain⟨n,m⟩:=p;rw[hr]at k1;have hU:rU s.data.toList most a=(if inB n 0 most=true then some (n,m)else none):=by unfold rU;rw[hr]
  rw[hU];obtain⟨R,hR⟩:∃R,Hid (R=((if inB n 0 most=true then some (n,m)else none).map fun p=>((.int .i64 p.1,p.2):Value × Nat))):=⟨_,rfl⟩;rw[<-hR.out];have hbad:Hid (∀w2 w' v,inB n 0 most=false->Rd w2 b s m->KR b w w2->Below w2.heap.size w2 w'->RPost b s R w (.panicked [{v:= .iface 45 (.int .i64 v),recovered:=false}]) w'):=fun w2 w' v hx hr hk hb=>by
   rw[hR.out,hx];exact⟨⟨v,rfl⟩,hk.trans (KR.of hb (by have:=hr.lt;omega))⟩
  have hgood:Hid (∀w2 w',inB n 0 most=true->Rd w2 b s m->KR b w w2->Below w2.heap.size w2 w'->RPost b s R w (.returned (.int .i64 n)) w'):=fun w2 w' hx hr hk hb=>by
   rw[hR.out,hx];exact⟨rfl,hr.below hb,hk.trans (KR.of hb (by have:=hr.lt;omega))⟩
  clear h hr hU;go_enter Tryz.func119,Tryz.ntmps119;go_wp2_with fail;with_reducible refine k1.out.mono ?_
  intro e w2 q;obtain⟨rfl,hr2,hk2⟩:=q;have hr2h:=Hd hr2;have hk2h:=Hd hk2;clear hr2 hk2 k1;go_wp2_with fail;with_reducible refine(k2.out n w2).mono ?_
  rintro e w3 ⟨rfl,hb3⟩;have hb3h:=Hd hb3;clear hb3;cases hi:inB n 0 most with
  | true =>
   have hf:=Hd (hgood.out w2 w3 hi hr2h.out hk2h.out hb3h.out);go_wp2_with fail;go_ret;exact hf.out
  | false =>
   have hf:=Hd (fun v=>hbad.out w2 w3 v hi hr2h.out hk2h.out hb3h.out);go_wp2_with fail;exact⟨rfl,hf.out _⟩
theorem rU_ok{l:List UInt8}{most a:Int}{n:Int}{m:Nat}(h:rU l most a=some (n,m)):m<=l.length/\0<=n/\n<=most:=by
 unfold rU at h
 split at h
 ·cases h
 ·rename_i x y hx
  split at h
  ·rename_i hi;injection h with h
   injection h with q1 q2
   subst q1 q2;exact⟨(rdI_ok hx).1,(inB_iff _ _ _).1 hi⟩
  ·cases h
def rV(l:List UInt8)(a:Int):Option (Vx × Nat) :=
 (rdI l a).bind fun p1=>(rdI l p1.2).map fun p2=>(⟨p1.1,p2.1⟩,p2.2)
def rE(l:List UInt8)(a:Int):Option (Ed × Nat) :=
 (rdI l a).bind fun p1=>(rdI l p1.2).bind fun p2=>(rdI l p2.2).bind fun p3=>(rU l 1 p3.2).bind fun p4=>(rdI l p4.2).bind fun p5=>(rdI l p5.2).map fun p6=>(⟨p1.1,p2.1,p3.1,p4.1==1,p5.1,p6.1⟩,p6.2)
theorem RPost.none_{b:Nat}{s:ByteArray}{R:Option (Value × Nat)}{w w0 w':World}{e:Ending}(h:RPost b s none w e w')(hR:R=none)(k:KR b w0 w):(∃v,e= .panicked [{v:= .iface 45 (.int .i64 v),recovered:=false}])/\RPost b s R w0 e w':=by
 subst hR;exact⟨h.1,h.before k⟩
theorem Rd.row{W:World}{b:Nat}{s:ByteArray}{a:Int}{k:Nat}(h:Rd W b s a)(hk:k≠b)(cs:Array Value):Rd (W.setRow k cs) b s a/\(b<=k->KR b W (W.setRow k cs)\/True):=by
 refine⟨?_,fun _=> .inr trivial⟩;unfold Rd at *
 rw[setRow_other W k b cs (fun e=>hk e.symm)];exact h
theorem KR.row{b k:Nat}{w w0 W:World}(h:KR b w0 W)(hw:KR b w w0)(hb:b<w.heap.size)(hk:w.heap.size<=k)(cs:Array Value):KR b w (W.setRow k cs):=by
 have h2:=hw.trans h;refine⟨below_setRow' h2.below (by omega) _,fun j e hj=>?_⟩;rw[setRow_other W k j cs (by omega)];exact h2.keep j e hj
theorem rvertex_any(b:Nat)(s:ByteArray)(a:Int)(w:World)(h:Rd w b s a)(hs:s.size<=maxLen)(h1 : -9223372036854775808<=a)(h2:a<=9223372036854775807):
  Calls Tryz.prog 94 #[.pointer (some ⟨b,0,none⟩)] w (RPost b s ((rV s.data.toList a).map fun p=>(.agg #[.int .i64 p.1.id,.int .i64 p.1.side],p.2)) w):=by
 have hl:s.data.toList.length=s.size:=Array.length_toList;have hs':=hs;unfold maxLen at hs';have hb:=h.lt;obtain⟨R,hR⟩:∃R,Hid (R=((rV s.data.toList a).map fun p=>((.agg #[.int .i64 p.1.id,.int .i64 p.1.side],p.2):Value × Nat))):=⟨_,rfl⟩;rw[<-hR.out];obtain⟨w0,hw0⟩:∃w0,w0=w.alloc (.cells #[.int .i64 0,.int .i64 0] 29):=⟨_,rfl⟩;have hB0:Below w.heap.size w w0:=by rw[hw0];exact(Below.refl _ _).alloc (Nat.le_refl _) _
 have r0:=h.below hB0;have hk0:=Hd (KR.of hB0 (by omega):KR b w w0);have g0:w0.heap[w.heap.size]?=some (.cells #[.int .i64 0,.int .i64 0] 29 (0,0)):=by rw[hw0];exact heap_alloc_new w _
 have hsz:w0.heap.size=w.heap.size+1:=by rw[hw0];simp
 have hbx0:=Hd g0;have kk0:=Hd (KR.refl b w0);have hw0h:=Hd hw0;clear hw0 g0 hB0 h;have k1:=Hd (numR b s a w0 r0 hs h1 h2);cases e1:rdI s.data.toList a with
 | none =>
  rw[e1]at k1;have hRn:R=none:=by rw[hR.out];simp[rV,e1]
  have kq:=Hd (hk0.out.trans kk0.out);have hRh:=Hd hRn;clear hRn e1 r0;go_enter Tryz.func94,Tryz.ntmps94;go_wp2_with fail;rw[<-hw0h.out];with_reducible refine k1.out.mono ?_
  intro e wq q;obtain⟨⟨v,rfl⟩,q2⟩:=q.none_ hRh.out kq.out;have hq:=Hd q2;clear q q2;go_wp2_with fail;exact⟨rfl,hq.out⟩
 | some p =>
  obtain⟨n1,m1⟩:=p;rw[e1]at k1;have b1:=rdI_ok e1;rw[hl]at b1;go_enter Tryz.func94,Tryz.ntmps94;go_wp2_with fail;rw[<-hw0h.out];with_reducible refine k1.out.mono ?_
  rintro e w1 ⟨rfl,r1,q⟩;have kk1:=Hd (kk0.out.trans q);clear q k1 r0 kk0;have k2:=Hd (numR b s m1 w1 r1 hs (by omega) (by omega));cases e2:rdI s.data.toList m1 with
  | none =>
   rw[e2]at k2;have hRn:R=none:=by rw[hR.out];simp[rV,e1,e2]
   have kq:=Hd (hk0.out.trans kk1.out);have hRh:=Hd hRn;clear hRn e1 e2 r1;go_wp2_with fail;with_reducible refine k2.out.mono ?_
   intro e wq q;obtain⟨⟨v,rfl⟩,q2⟩:=q.none_ hRh.out kq.out;have hq:=Hd q2;clear q q2;go_wp2_with fail;exact⟨rfl,hq.out⟩
  | some p =>
   obtain⟨n2,m2⟩:=p;rw[e2]at k2;have b2:=rdI_ok e2;rw[hl]at b2;have e2h:=Hd e2;clear e2;go_wp2_with fail;have e2:=e2h.out;clear e2h;with_reducible refine k2.out.mono ?_
   rintro e w2 ⟨rfl,r2,q⟩;have kk2:=Hd (kk1.out.trans q);clear q k2 r1 kk1;have hRs:R=some (.agg #[.int .i64 n1,.int .i64 n2],m2):=by rw[hR.out];simp[rV,e1,e2]
   have hx:w2.heap[w.heap.size]?=some (.cells #[.int .i64 0,.int .i64 0] 29 (0,0)):=(kk2.out.keep w.heap.size (by omega) (by omega)).trans hbx0.out;have hf:Hid (RPost b s R w (.returned (.agg #[.int .i64 n1,.int .i64 n2])) (w2.setRow w.heap.size #[.int .i64 n1,.int .i64 n2])):=by
    rw[hRs];exact⟨rfl,(r2.row (by omega) _).1,kk2.out.row hk0.out hb (Nat.le_refl _) _⟩
   clear hRs e1 e2 r2
   go_wp2_with (refine wpList_store_row rfl 29 (.tmp 2) (.tmp 7) rfl w.heap.size #[.int .i64 n1,.int .i64 n2] rfl rfl 29 _ hx (by kernel_rfl) rfl (by simp[Value.oneCell']) ?_)
   refine bodyPost_ret (results_cell_row (fn:=Tryz.f94) rfl _ _ w.heap.size 29 #[.int .i64 n1,.int .i64 n2] (0,0) _ rfl (setRow_heap _ _ _ _ _ _ hx) Tryz.underlying29 rfl (by kernel_rfl)) rfl ?_;exact hf.out
theorem redge_any(b:Nat)(s:ByteArray)(a:Int)(w:World)(h:Rd w b s a)(hs:s.size<=maxLen)(h1 : -9223372036854775808<=a)(h2:a<=9223372036854775807):
  Calls Tryz.prog 95 #[.pointer (some ⟨b,0,none⟩)] w (RPost b s ((rE s.data.toList a).map fun p=>(.agg (edCells p.1),p.2)) w):=by
 have hl:s.data.toList.length=s.size:=Array.length_toList;have hs':=hs;unfold maxLen at hs';have hb:=h.lt;obtain⟨R,hR⟩:∃R,Hid (R=((rE s.data.toList a).map fun p=>((.agg (edCells p.1),p.2):Value × Nat))):=⟨_,rfl⟩;rw[<-hR.out];obtain⟨w0,hw0⟩:∃w0,w0=w.alloc (.cells #[.int .i64 0,.int .i64 0,.int .i64 0,.bool false,.int .i64 0,.int .i64 0] 31):=⟨_,rfl⟩;have hB0:Below w.heap.size w w0:=by rw[hw0];exact(Below.refl _ _).alloc (Nat.le_refl _) _
 have r0:=h.below hB0;have hk0:=Hd (KR.of hB0 (by omega):KR b w w0);have g0:w0.heap[w.heap.size]?=some (.cells #[.int .i64 0,.int .i64 0,.int .i64 0,.bool false,.int .i64 0,.int .i64 0] 31 (0,0)):=by rw[hw0];exact heap_alloc_new w _
 have hsz:w0.heap.size=w.heap.size+1:=by rw[hw0];simp
 have hbx0:=Hd g0;have kk0:=Hd (KR.refl b w0);have hw0h:=Hd hw0;clear hw0 g0 hB0 h;have k1:=Hd (numR b s a w0 r0 hs h1 h2);cases e1:rdI s.data.toList a with
 | none =>
  rw[e1]at k1;have hRn:R=none:=by rw[hR.out];simp[rE,e1]
  have kq:=Hd (hk0.out.trans kk0.out);have hRh:=Hd hRn;clear hRn e1 r0;go_enter Tryz.func95,Tryz.ntmps95;go_wp2_with fail;rw[<-hw0h.out];with_reducible refine k1.out.mono ?_
  intro e wq q;obtain⟨⟨v,rfl⟩,q2⟩:=q.none_ hRh.out kq.out;have hq:=Hd q2;clear q q2;go_wp2_with fail;exact⟨rfl,hq.out⟩
 | some p =>
  obtain⟨n1,m1⟩:=p;rw[e1]at k1;have b1:=rdI_ok e1;rw[hl]at b1;go_enter Tryz.func95,Tryz.ntmps95;go_wp2_with fail;rw[<-hw0h.out];with_reducible refine k1.out.mono ?_
  rintro e w1 ⟨rfl,r1,q⟩;have kk1:=Hd (kk0.out.trans q);clear q k1 r0 kk0;have k2:=Hd (numR b s m1 w1 r1 hs (by omega) (by omega));cases e2:rdI s.data.toList m1 with
  | none =>
   rw[e2]at k2;have hRn:R=none:=by rw[hR.out];simp[rE,e1,e2]
   have kq:=Hd (hk0.out.trans kk1.out);have hRh:=Hd hRn;clear hRn e1 e2 r1;go_wp2_with fail;with_reducible refine k2.out.mono ?_
   intro e wq q;obtain⟨⟨v,rfl⟩,q2⟩:=q.none_ hRh.out kq.out;have hq:=Hd q2;clear q q2;go_wp2_with fail;exact⟨rfl,hq.out⟩
  | some p =>
   obtain⟨n2,m2⟩:=p;rw[e2]at k2;have b2:=rdI_ok e2;rw[hl]at b2;have e2h:=Hd e2;clear e2;go_wp2_with fail;have e2:=e2h.out;clear e2h;with_reducible refine k2.out.mono ?_
   rintro e w2 ⟨rfl,r2,q⟩;have kk2:=Hd (kk1.out.trans q);clear q k2 r1 kk1;have k3:=Hd (numR b s m2 w2 r2 hs (by omega) (by omega));cases e3:rdI s.data.toList m2 with
   | none =>
    rw[e3]at k3;have hRn:R=none:=by rw[hR.out];simp[rE,e1,e2,e3]
    have kq:=Hd (hk0.out.trans kk2.out);have hRh:=Hd hRn;clear hRn e1 e2 e3 r2;go_wp2_with fail;with_reducible refine k3.out.mono ?_
    intro e wq q;obtain⟨⟨v,rfl⟩,q2⟩:=q.none_ hRh.out kq.out;have hq:=Hd q2;clear q q2;go_wp2_with fail;exact⟨rfl,hq.out⟩
   | some p =>
    obtain⟨n3,m3⟩:=p;rw[e3]at k3;have b3:=rdI_ok e3;rw[hl]at b3;have e3h:=Hd e3;clear e3;go_wp2_with fail;have e3:=e3h.out;clear e3h;with_reducible refine k3.out.mono ?_
    rintro e w3 ⟨rfl,r3,q⟩;have kk3:=Hd (kk2.out.trans q);clear q k3 r2 kk2;have k4:=Hd (upTo_any b s m3 1 w3 r3 hs (by omega) (by omega));cases e4:rU s.data.toList 1 m3 with
    | none =>
     rw[e4]at k4;have hRn:R=none:=by rw[hR.out];simp[rE,e1,e2,e3,e4]
     have kq:=Hd (hk0.out.trans kk3.out);have hRh:=Hd hRn;clear hRn e1 e2 e3 e4 r3;go_wp2_with fail;with_reducible refine k4.out.mono ?_
     intro e wq q;obtain⟨⟨v,rfl⟩,q2⟩:=q.none_ hRh.out kq.out;have hq:=Hd q2;clear q q2;go_wp2_with fail;exact⟨rfl,hq.out⟩
    | some p =>
     obtain⟨n4,m4⟩:=p;rw[e4]at k4;have b4:=rU_ok e4;rw[hl]at b4;have e4h:=Hd e4;clear e4;go_wp2_with fail;have e4:=e4h.out;clear e4h;with_reducible refine k4.out.mono ?_
     rintro e w4 ⟨rfl,r4,q⟩;have kk4:=Hd (kk3.out.trans q);clear q k4 r3 kk3;have k5:=Hd (numR b s m4 w4 r4 hs (by omega) (by omega));cases e5:rdI s.data.toList m4 with
     | none =>
      rw[e5]at k5;have hRn:R=none:=by rw[hR.out];simp[rE,e1,e2,e3,e4,e5]
      have kq:=Hd (hk0.out.trans kk4.out);have hRh:=Hd hRn;clear hRn e1 e2 e3 e4 e5 r4;go_wp2_with fail;with_reducible refine k5.out.mono ?_
      intro e wq q;obtain⟨⟨v,rfl⟩,q2⟩:=q.none_ hRh.out kq.out;have hq:=Hd q2;clear q q2;go_wp2_with fail;exact⟨rfl,hq.out⟩
     | some p =>
      obtain⟨n5,m5⟩:=p;rw[e5]at k5;have b5:=rdI_ok e5;rw[hl]at b5;have e5h:=Hd e5;clear e5;go_wp2_with fail;have e5:=e5h.out;clear e5h;with_reducible refine k5.out.mono ?_
      rintro e w5 ⟨rfl,r5,q⟩;have kk5:=Hd (kk4.out.trans q);clear q k5 r4 kk4;have k6:=Hd (numR b s m5 w5 r5 hs (by omega) (by omega));cases e6:rdI s.data.toList m5 with
      | none =>
       rw[e6]at k6;have hRn:R=none:=by rw[hR.out];simp[rE,edCells,e1,e2,e3,e4,e5,e6]
       have kq:=Hd (hk0.out.trans kk5.out);have hRh:=Hd hRn;clear hRn e1 e2 e3 e4 e5 e6 r5;go_wp2_with fail;with_reducible refine k6.out.mono ?_
       intro e wq q;obtain⟨⟨v,rfl⟩,q2⟩:=q.none_ hRh.out kq.out;have hq:=Hd q2;clear q q2;go_wp2_with fail;exact⟨rfl,hq.out⟩
      | some p =>
       obtain⟨n6,m6⟩:=p;rw[e6]at k6;have b6:=rdI_ok e6;rw[hl]at b6;have e6h:=Hd e6;clear e6;go_wp2_with fail;have e6:=e6h.out;clear e6h;with_reducible refine k6.out.mono ?_
       rintro e w6 ⟨rfl,r6,q⟩;have kk6:=Hd (kk5.out.trans q);clear q k6 r5 kk5;have hRs:R=some (.agg #[.int .i64 n1,.int .i64 n2,.int .i64 n3,.bool (n4==1),.int .i64 n5,.int .i64 n6],m6):=by rw[hR.out];simp[rE,edCells,e1,e2,e3,e4,e5,e6]
       have hx:w6.heap[w.heap.size]?=some (.cells #[.int .i64 0,.int .i64 0,.int .i64 0,.bool false,.int .i64 0,.int .i64 0] 31 (0,0)):=(kk6.out.keep w.heap.size (by omega) (by omega)).trans hbx0.out;have hf:Hid (RPost b s R w (.returned (.agg #[.int .i64 n1,.int .i64 n2,.int .i64 n3,.bool (n4==1),.int .i64 n5,.int .i64 n6])) (w6.setRow w.heap.size #[.int .i64 n1,.int .i64 n2,.int .i64 n3,.bool (n4==1),.int .i64 n5,.int .i64 n6])):=by
        rw[hRs];exact⟨rfl,(r6.row (by omega) _).1,kk6.out.row hk0.out hb (Nat.le_refl _) _⟩
       clear hRs e1 e2 e3 e4 e5 e6 r6
       go_wp2_with (refine wpList_store_row rfl 31 (.tmp 2) (.tmp 16) rfl w.heap.size #[.int .i64 n1,.int .i64 n2,.int .i64 n3,.bool (n4==1),.int .i64 n5,.int .i64 n6] rfl rfl 31 _ hx (by kernel_rfl) rfl (by simp[Value.oneCell']) ?_)
       refine bodyPost_ret (results_cell_row (fn:=Tryz.f95) rfl _ _ w.heap.size 31 #[.int .i64 n1,.int .i64 n2,.int .i64 n3,.bool (n4==1),.int .i64 n5,.int .i64 n6] (0,0) _ rfl (setRow_heap _ _ _ _ _ _ hx) Tryz.underlying31 rfl (by kernel_rfl)) rfl ?_;exact hf.out
theorem snocK(b B:Nat)(T e:TypeId)(i0:TypeInfo)(z:Value)(k by_:Nat)(hT:Tryz.prog.underlying T=some (.slice e))(hi:Tryz.prog.info? e=some i0)(hz:i0.zero=some z)(hk:i0.size=k)(hby:i0.bytes=by_)(hzs:z.cells.size=k)(h0:0<k)(hb48:by_<=48)
  (W:World) (v:Value) (n:Nat) (xs:List Value) (cs:Array Value) (hcs:cs.size=k) (hall:∀u∈cs.toList,u.oneCell'=true) (hown:W.ownsRow B e k v n xs) (hn:n<=1000000) (hB:B<=W.heap.size) :
  ∃g cap w',(Builtin.append_ #[T,T] T #[v,.slice (some ⟨W.heap.size,0,none⟩) 1 1]).run Tryz.prog (W.alloc (.cells cs e))= .ok (.slice (some ⟨g,0,none⟩) (n+1) cap) w'/\w'.ownsRow B e k (.slice (some ⟨g,0,none⟩) (n+1) cap) (n+1) (xs++cs.toList)/\W.heap.size<=w'.heap.size /\
   (∀w0:World,b<w0.heap.size->w0.heap.size<=B->KR b w0 W->KR b w0 w')/\(∀j,j<B->w'.heap[j]?=W.heap[j]?):=by
 have hmul:(n+1)*by_<=1000001*48:=Nat.mul_le_mul (by omega) hb48;obtain⟨g,cap,w',hr,ho,hg,_,_⟩:=run_append_lies (P:=Tryz.prog) (W.alloc (.cells cs e)) T T B e i0 z k by_ hT hi hz hk hby hzs h0 v n xs (hown.alloc _) ⟨W.heap.size,0,none⟩ 1 1 cs.toList (by simp[hcs])
  (World.news_of_block (cs:=cs) (t:=e) (fr:=(0,0)) (heap_alloc_new W _)) hall (by omega) (by unfold maxLen;omega) (by omega) (by simp;omega) (W.heap.size+1) (by simp)
 have hal:Below W.heap.size W (W.alloc (.cells cs e)):=(Below.refl _ W).alloc (Nat.le_refl _) _;have hne:∀j,v.ownBlock=some j->B<=j:=fun j hj=>by
  rcases hown.2 with⟨q,_⟩|⟨g',_,_,q1,q2,_⟩
  ·rw[q]at hj;cases hj
  ·rw[q1]at hj;injection hj with hj;subst hj;exact q2
 have hsz:(W.alloc (.cells cs e)).heap.size=W.heap.size+1:=by simp
 have hgs:(W.alloc (.cells cs e)).heap.size<=w'.heap.size:=((Below.refl 0 _).grown hg (Nat.zero_le _) (fun j hj=>Nat.zero_le _)).size;have hold:∀j,j<B->w'.heap[j]?=W.heap[j]?:=fun j hj=>(hg.block j (by omega) (fun q=>by have:=hne j q.symm;omega)).trans (hal.block j (by omega));refine⟨g,cap,w',hr,ho,by omega,fun w0 h1 h2 K=>⟨?_,fun j hj hlt=>?_⟩,hold⟩
 ·exact(K.below.alloc (by omega) _).grown hg (by omega) (fun j hj=>by have:=hne j hj;omega)
 ·rw[hold j (by omega)];exact K.keep j hj hlt
def rMany{α:Type}(one:Nat->Option (α × Nat)):Nat->Nat->Option (List α × Nat)
 | 0,a=>some ([],a)
 | k+1,a=>(one a).bind fun p=>(rMany one k p.2).map fun q=>(p.1::q.1,q.2)
def rLst{α:Type}(one:Nat->Option (α × Nat))(l:List UInt8)(most:Int)(a:Int):Option (List α × Nat) :=
 (rU l most a).bind fun p=>rMany one p.1.toNat p.2
theorem rV_ok{l:List UInt8}{a:Int}{p:Vx × Nat}(h:rV l a=some p):p.2<=l.length/\inP p.1.id/\inP p.1.side:=by
 unfold rV at h;cases e1:rdI l a with
 | none=>rw[e1]at h;cases h
 | some p1 =>
  rw[e1]at h;simp only[Option.bind_some]at h;cases e2:rdI l p1.2 with
  | none=>rw[e2]at h;cases h
  | some p2 =>
   rw[e2]at h;simp only[Option.map_some,Option.some.injEq]at h;subst h;exact⟨(rdI_ok (n:=p2.1) (m:=p2.2) e2).1,(rdI_ok (n:=p1.1) (m:=p1.2) e1).2,(rdI_ok (n:=p2.1) (m:=p2.2) e2).2⟩
theorem rE_ok{l:List UInt8}{a:Int}{p:Ed × Nat}(h:rE l a=some p):p.2<=l.length:=by
 unfold rE at h;cases e1:rdI l a with
 | none=>rw[e1]at h;cases h
 | some p1 =>
  rw[e1]at h;simp only[Option.bind_some]at h;cases e2:rdI l p1.2 with
  | none=>rw[e2]at h;cases h
  | some p2 =>
   rw[e2]at h;simp only[Option.bind_some]at h;cases e3:rdI l p2.2 with
   | none=>rw[e3]at h;cases h
   | some p3 =>
    rw[e3]at h;simp only[Option.bind_some]at h;cases e4:rU l 1 p3.2 with
    | none=>rw[e4]at h;cases h
    | some p4 =>
     rw[e4]at h;simp only[Option.bind_some]at h;cases e5:rdI l p4.2 with
     | none=>rw[e5]at h;cases h
     | some p5 =>
      rw[e5]at h;simp only[Option.bind_some]at h;cases e6:rdI l p5.2 with
      | none=>rw[e6]at h;cases h
      | some p6 =>
       rw[e6]at h;simp only[Option.map_some,Option.some.injEq]at h;subst h;exact(rdI_ok (n:=p6.1) (m:=p6.2) e6).1
def LPost{α:Type}(own:World->Nat->Value->List α->Prop)(b:Nat)(s:ByteArray)(r:Option (List α × Nat))(w:World)(e:Ending)(w':World):Prop :=
 match r with
 | none=>(∃v,e= .panicked [{v:= .iface 45 (.int .i64 v),recovered:=false}])/\KR b w w'
 | some (L,m)=>∃v,e= .returned v/\own w' w.heap.size v L/\Rd w' b s m/\KR b w w'
theorem rMany_step{α:Type}(one:Nat->Option (α × Nat))(N m0 k m:Nat)(L:List α)(hk:k<N)(h:rMany one N m0=(rMany one (N-k) m).map fun q=>(L++q.1,q.2)):
  (one m=none->rMany one N m0=none)/\ ∀x m',one m=some (x,m')->rMany one N m0=(rMany one (N-(k+1)) m').map fun q=>(L++[x]++q.1,q.2):=by
 obtain⟨j,hj⟩:∃j,N-k=j+1:=⟨N-k-1,by omega⟩;have hj2:N-(k+1)=j:=by omega
 rw[hj]at h;rw[hj2];constructor
 ·intro e;rw[h];simp[rMany,e]
 ·intro x m' e;rw[h];simp only[rMany,e,Option.bind_some,Option.map_map];congr 1
  funext q
  simp
theorem rlistI(b:Nat)(s:ByteArray)(a most:Int)(w:World)(h:Rd w b s a)(hs:s.size<=maxLen)(h1 : -9223372036854775808<=a)(h2:a<=9223372036854775807)(hm:most<=1000):
  Calls Tryz.prog 96 #[.pointer (some ⟨b,0,none⟩),.int .i64 most,.func (.func 93) #[] #[]] w (LPost OwnI b s (rLst (fun m=>rdI s.data.toList m) s.data.toList most a) w):=by
 have hl:s.data.toList.length=s.size:=Array.length_toList;have hs':=hs;unfold maxLen at hs';have hb:=h.lt;obtain⟨i0,hi,hz0,hz1,hz2⟩:=info_parts info3;obtain⟨R,hR⟩:∃R,Hid (R=rLst (fun m=>rdI s.data.toList m) s.data.toList most a):=⟨_,rfl⟩;rw[<-hR.out];have hnone:Hid (∀v W,R=none->KR b w W->LPost OwnI b s R w (.panicked [{v:= .iface 45 (.int .i64 v),recovered:=false}]) W):=fun v W e k=>by rw[e];exact⟨⟨v,rfl⟩,k⟩
 have hsome:Hid (∀v W L m,R=some (L,m)->OwnI W w.heap.size v L->Rd W b s m->KR b w W->LPost OwnI b s R w (.returned v) W):=fun v W L m e o r k=>by rw[e];exact⟨v,rfl,o,r,k⟩
 have k1:=Hd (upTo_any b s a most w h hs h1 h2);cases e1:rU s.data.toList most a with
 | none =>
  have hRn:Hid (R=none):=by show _=_;rw[hR.out];unfold rLst;rw[e1];rfl
  rw[e1]at k1;clear e1 h hR;go_enter Tryz.func96,Tryz.ntmps96;go_wp2_with fail;with_reducible refine k1.out.mono ?_
  rintro e w1 ⟨⟨v,rfl⟩,hk⟩;have hf:=Hd (hnone.out v w1 hRn.out hk);clear hk;go_wp2_with fail;exact⟨rfl,hf.out⟩
 | some p =>
  obtain⟨n0,m0⟩:=p;have hu:=rU_ok e1;rw[hl]at hu;rw[e1]at k1;obtain⟨N,rfl⟩:∃N:Nat,n0=N:=⟨n0.toNat,by omega⟩;have hRm:Hid (R=rMany (fun m=>rdI s.data.toList m) N m0):=by
   show _=_;rw[hR.out];unfold rLst;rw[e1];simp
  have hN:N<=1000:=by omega
  have hm0:m0<=s.size:=hu.1;clear e1 h hR hu;go_enter Tryz.func96,Tryz.ntmps96;go_wp2_with fail;with_reducible refine k1.out.mono ?_
  rintro e w1 ⟨rfl,hr1,hk1⟩;have hr1h:=Hd hr1;have hk1h:=Hd hk1;clear hr1 hk1 k1;go_wp2_with fail
  go_loopw [7,11] (fun lv i wr=>∃(k m:Nat) (L:List Int),k<=N/\i= .int .i64 k/\Hid (R=(rMany (fun m=>rdI s.data.toList m) (N-k) m).map fun q=>(L++q.1,q.2))/\L.length=k/\Hid (OwnI wr w.heap.size lv L)/\Hid (Rd wr b s m)/\Hid (KR b w wr)/\m<=s.size) (fun _ i _=>N-(intOf i).toNat)
  case atStart=>exact⟨0,m0,[],by omega,rfl,by show _=_;rw[hRm.out];simp,rfl,World.ownsRow_nil _ _ _ _,hr1h.out,hk1h.out,hm0⟩
  case round =>
   obtain⟨_,m,L,hk,rfl,hrun,rfl,hown,hrd,hkr,hms⟩:=hrel;obtain⟨k,hkk⟩:∃k,Hid (k=L.length):=⟨_,rfl⟩;rw[<-hkk.out]at hk hrun ⊢;by_cases hlt:k<N
   ·have i0':(0:Int)<=(k:Int):=by omega
    have i1:(k:Int)<(N:Int):=by omega
    have hst:=Hd (rMany_step (fun m=>rdI s.data.toList m) N m0 k m L hlt (by rw[<-hRm.out];exact hrun.out));have kc:=Hd (numR b s m wr hrd.out hs (by omega) (by omega));obtain⟨lq1,lq2,hlv⟩:∃x y,u7= .slice x k y:=by
     rcases hown.out.2 with⟨q,hq⟩|⟨g,cap,_,q,_⟩
     ·exact⟨none,0,by rw[q,hkk.out,hq]⟩
     ·exact⟨_,_,by rw[hkk.out];exact q⟩
    subst hlv;cases eo:rdI s.data.toList (m:Int)with
    | none =>
     rw[eo]at kc;have hRn:Hid (R=none):=by show _=_;rw[hRm.out];exact hst.out.1 eo
     clear eo hst;go_wp2_with fail;with_reducible refine kc.out.mono ?_
     rintro e w2 ⟨⟨v,rfl⟩,hk2⟩;have hf:=Hd (hnone.out v w2 hRn.out (hkr.out.trans hk2));clear hk2;go_wp2_with fail;exact⟨rfl,hf.out⟩
    | some p =>
     obtain⟨x,m'⟩:=p;rw[eo]at kc;have hbd:=(rdI_ok eo).1;have hRs:Hid (R=(rMany (fun m=>rdI s.data.toList m) (N-(k+1)) m').map fun q=>(L++[x]++q.1,q.2)):=by show _=_;rw[hRm.out];exact hst.out.2 x m' eo
     clear eo hst;go_wp2_with fail;with_reducible refine kc.out.mono ?_
     rintro e w2 ⟨rfl,hr2,hk2⟩;have hkr2:=Hd (hkr.out.trans hk2);have hwb:b<wr.heap.size:=hrd.out.lt;have hws:w.heap.size<=wr.heap.size:=hkr.out.below.size;have hws2:wr.heap.size<=w2.heap.size:=hk2.below.size;have hown2:OwnI w2 w.heap.size (.slice lq1 k lq2) L:=by
      have q:=hown.out;refine⟨q.1,?_⟩;rcases q.2 with q2|⟨g,cap,cur,q1,q2,q3,q4⟩
      ·exact .inl q2
      ·exact .inr ⟨g,cap,cur,q1,q2,(hk2.keep g (by omega) (Array.getElem?_eq_some_iff.1 q3).1).trans q3,q4⟩
     obtain⟨g,cap,w3,hrun3,ho3,hz3,hK3,hold3⟩:=snocK b w.heap.size 24 3 i0 _ 1 8 Tryz.underlying24 hi hz0 hz1 hz2 rfl (by omega) (by omega) w2 _ k (cI L) #[.int .i64 x] rfl (by simp[Value.oneCell',cI]) (by have q:=hown2;unfold OwnI at q;rw[<-hkk.out]at q;exact q) (by omega) (by omega);have hf1:Hid (OwnI w3 w.heap.size (.slice (some ⟨g,0,none⟩) (k+1) cap) (L++[x])):=by
      have q:=ho3;show World.ownsRow _ _ _ _ _ _ _;rw[List.length_append,<-hkk.out];simpa[cI,cI]using q
     have hf2:Hid (Rd w3 b s m'):=by
      show _=_;rw[hold3 b hb];exact hr2
     have hf3:Hid (KR b w w3):=hK3 w hb (Nat.le_refl _) hkr2.out;have hf4:m'<=s.size:=by rw[<-hl];exact hbd
     clear ho3 hK3 hold3 hown2 hr2 hk2 kc hbd
     skip
     go_wp2_with (at_builtin;refine wpList_append_runB rfl (.tmp 13) (.tmp 17) 24 rfl _ _ rfl rfl _ _ hrun3 ?_)
     go_roundw
     case rel=>exact⟨k+1,m',L++[x],by omega,by go_num,hRs,by rw[List.length_append,<-hkk.out];rfl,hf1,hf2,hf3,hf4⟩
     case measure=>simp[intOf];omega
   ·have hk2:k=N:=by omega
    have hRs:R=some (L,m):=by
     have q:=hrun.out;rw[show N-k=0 by omega]at q;rw[q];simp[rMany]
    have hf:=Hd (hsome.out _ wr L m hRs hown.out hrd.out hkr.out);have i1:¬(k:Int)<(N:Int):=by omega
    clear hRs hk2;go_wp2_with fail;go_ret;exact hf.out
end Go.Proofs.YtlaldnlgapeckaaGreat
