/- Facts. -/
import Derived.Lib.AppendStr
import Derived.Lib.Builder
import Derived.Shelf.RegionOpenPlain
import Derived.Test.YtlaldnlgapeckaaGreatVYX
set_option maxRecDepth 100000
set_option maxHeartbeats 4000000
namespace Go.Proofs.YtlaldnlgapeckaaGreat
open Go.RowKit
/-! ### A strings.Builder that lies in a writer -/
def StayW:Obj->Bool
 | .cells _ t _=>!(t==5||t==99)
 | _=>true
structure KW(B:Nat)(W W':World):Prop where
 below:Below B W W'
 keep:∀(k:Nat) (o:Obj),W.heap[k]?=some o->StayW o=true->W'.heap[k]?=some o
theorem KW.refl(B:Nat)(W:World):KW B W W:=⟨Below.refl _ _,fun _ _ h _=>h⟩
theorem KW.trans{B:Nat}{a b c:World}(h:KW B a b)(k:KW B b c):KW B a c:=⟨h.below.trans k.below,fun i o e s=>k.keep i o (h.keep i o e s) s⟩
theorem KW.of{B:Nat}{W W':World}(h:Below W.heap.size W W')(hB:B<=W.heap.size):KW B W W' :=
 ⟨h.mono hB,fun k _ e _=>(h.block k (Array.getElem?_eq_some_iff.1 e).1).trans e⟩
theorem KW.grown{B:Nat}{W W':World}{r:Option Nat}(h:W.grownBy W' r)(hr:∀g,r=some g->B<=g/\ ∃o,W.heap[g]?=some o/\StayW o=false)(hB:B<=W.heap.size):KW B W W':=by
 cases r with
 | none=>exact⟨(Below.refl B W).grown h hB (fun k e=>by cases e),fun k o e _=>(h.block k (Array.getElem?_eq_some_iff.1 e).1 (by simp)).trans e⟩
 | some g =>
  obtain⟨h1,o,h2,h3⟩:=hr g rfl;refine⟨(Below.refl B W).grown h hB (fun k e=>by injection e with e;omega),fun k o' e s=>?_⟩;refine(h.block k (Array.getElem?_eq_some_iff.1 e).1 (fun e2=>?_)).trans e;injection e2 with e2
  subst e2;rw[h2]at e;injection e with e
  rw[e]at h3;rw[h3]at s;cases s
theorem KW.cellSet{B b i:Nat}{W:World}{o:Obj}(hb:B<=b)(hg:W.heap[b]?=some o)(hs:StayW o=false)(v:Value):KW B W (W.setCell ⟨b,i,none⟩ v) :=
 ⟨(Below.refl B W).setCell (p:=⟨b,i,none⟩) hb v,fun k o' e s=>by
  by_cases e2:k=b
  ·subst e2;rw[hg]at e;injection e with e;rw[e]at hs;rw[hs]at s;cases s
  ·exact(heap_setCell_other W ⟨b,i,none⟩ k v e2).trans e⟩
structure WrV(W:World)(B b:Nat)(p v:Value)(bs:List UInt8)(f:Bool):Prop where
 hB:B<=b
 box:W.heap[b]?=some (.cells #[p,v,.bool f] 99 (0,0))
 ad:p= .pointer none\/p= .pointer (some ⟨b,0,none⟩)
 row:W.ownsRow B 5 1 v bs.length (Lib.byteCells bs)
def Wr(W:World)(B b:Nat)(bs:List UInt8)(f:Bool):Prop:=∃p v,WrV W B b p v bs f
set_option maxHeartbeats 1000000 in
theorem copyCheck_used(b:Nat)(w:World)(h0:w.cell? ⟨b,0,none⟩=some (.pointer (some ⟨b,0,none⟩))):
  Calls Tryz.prog 116 #[.pointer (some ⟨b,0,none⟩)] w fun e w'=>e= .returned (.tuple #[])/\w'=w:=by
 obtain⟨j,hj,_⟩:=Option.map_eq_some_iff.1 (show(Tryz.prog.info? 97).map (·.size)=some 2 by kernel_rfl);go_enter Tryz.func116,Tryz.ntmps116
 go_wp2
 rw[Lib.run_neq_ptr_same w _ Tryz.underlying95 hj]
 go_wp2
 go_end0
 exact⟨rfl,rfl⟩
set_option maxHeartbeats 1000000 in
theorem copyCheck_fresh(b:Nat)(w:World)(h0:w.cell? ⟨b,0,none⟩=some (.pointer none))(hsh:w.shape? b=some (99,3))(hfz:w.frozen? ⟨b,0,none⟩=false):
  Calls Tryz.prog 116 #[.pointer (some ⟨b,0,none⟩)] w fun e w'=>e= .returned (.tuple #[])/\w'=w.setCell ⟨b,0,none⟩ (.pointer (some ⟨b,0,none⟩)):=by
 obtain⟨j,hj,hjs⟩:=Option.map_eq_some_iff.1 (show(Tryz.prog.info? 97).map (·.size)=some 2 by kernel_rfl);go_enter Tryz.func116,Tryz.ntmps116
 go_wp2
 rw[Lib.run_to_unsafe w ⟨b,0,none⟩ Tryz.underlying95 Tryz.underlying172 hj (by rw[hjs];decide) hsh (Nat.zero_lt_succ 2)];simp only[Result.andThen];rw[Oper.upon_value]
 go_wp2
 rw[run_callFunc_extern Tryz.func135 (by kernel_rfl) (by kernel_rfl) (by kernel_rfl) (e:=Extern.AbiNoEscape.same) (by kernel_rfl)];rw[Lib.run_noEscape];simp only[Result.andThen];rw[Oper.upon_value]
 go_wp2
 rw[Lib.run_from_unsafe w ⟨b,0,none⟩ Tryz.underlying172 Tryz.underlying95 hj hsh (by kernel_rfl)];simp only[Result.andThen];rw[Oper.upon_value]
 go_wp2
 go_end0
 exact⟨rfl,rfl⟩
theorem WrV.cells{W:World}{B b:Nat}{p v:Value}{bs:List UInt8}{f:Bool}(h:WrV W B b p v bs f):W.cell? ⟨b,0,none⟩=some p/\W.cell? ⟨b,1,none⟩=some v/\W.cell? ⟨b,2,none⟩=some (.bool f):=by
 refine⟨?_,?_,?_⟩<;>(rw[cell_of_row W b _ _ _ _ h.box];rfl)
theorem WrV.free{W:World}{B b:Nat}{p v:Value}{bs:List UInt8}{f:Bool}(h:WrV W B b p v bs f)(i:Nat):W.frozen? ⟨b,i,none⟩=false:=frozen_of_row W b i _ _ h.box
theorem WrV.lt{W:World}{B b:Nat}{p v:Value}{bs:List UInt8}{f:Bool}(h:WrV W B b p v bs f):b<W.heap.size:=(Array.getElem?_eq_some_iff.1 h.box).1
theorem WrV.base{W:World}{B b:Nat}{p v:Value}{bs:List UInt8}{f:Bool}(h:WrV W B b p v bs f):B<=W.heap.size:=by have:=h.lt;have:=h.hB;omega
theorem WrV.below{W W':World}{B b:Nat}{p v:Value}{bs:List UInt8}{f:Bool}(h:WrV W B b p v bs f)(hb:Below W.heap.size W W'):WrV W' B b p v bs f :=
 ⟨h.hB,(hb.block _ h.lt).trans h.box,h.ad,own_below h.row hb⟩
theorem own_row99{W W':World}{base n b:Nat}{size:Nat}{v:Value}{xs:List Value}{cs:Array Value}{fr:Nat × Nat}(h:W.ownsRow base 5 size v n xs)(hb:W.heap[b]?=some (.cells cs 99 fr))(hk:∀k,k≠b->W'.heap[k]?=W.heap[k]?):W'.ownsRow base 5 size v n xs:=by
 refine⟨h.1,?_⟩;rcases h.2 with q|⟨g,cap,cur,q1,q2,q3,q4⟩
 ·exact .inl q
 ·refine .inr ⟨g,cap,cur,q1,q2,?_,q4⟩;rw[hk _ (fun e2=>by rw[e2,hb]at q3;injection q3 with q3;injection q3 with _ q3;exact absurd q3 (by decide))];exact q3
theorem box_set{W:World}{b:Nat}{cs:Array Value}(hb:W.heap[b]?=some (.cells cs 99 (0,0)))(i:Nat)(v:Value):(W.setCell ⟨b,i,none⟩ v).heap[b]?=some (.cells (cs.setIfInBounds i v) 99 (0,0)):=by
 rw[heap_setCell_same W b i cs 99 v hb]
theorem WrV.setP{W:World}{B b:Nat}{p v:Value}{bs:List UInt8}{f:Bool}(h:WrV W B b p v bs f):WrV (W.setCell ⟨b,0,none⟩ (.pointer (some ⟨b,0,none⟩))) B b (.pointer (some ⟨b,0,none⟩)) v bs f/\KW B W (W.setCell ⟨b,0,none⟩ (.pointer (some ⟨b,0,none⟩))) :=
 ⟨⟨h.hB,by rw[box_set h.box];rfl,.inr rfl,own_row99 h.row h.box (fun k hk=>heap_setCell_other W ⟨b,0,none⟩ k _ hk)⟩,KW.cellSet h.hB h.box rfl _⟩
theorem WrV.setF{W:World}{B b:Nat}{p v:Value}{bs:List UInt8}{f:Bool}(h:WrV W B b p v bs f)(f':Bool):WrV (W.setCell ⟨b,2,none⟩ (.bool f')) B b p v bs f'/\KW B W (W.setCell ⟨b,2,none⟩ (.bool f')) :=
 ⟨⟨h.hB,by rw[box_set h.box];rfl,h.ad,own_row99 h.row h.box (fun k hk=>heap_setCell_other W ⟨b,2,none⟩ k _ hk)⟩,KW.cellSet h.hB h.box rfl _⟩
theorem row5_kind{W:World}{B:Nat}{v:Value}{n:Nat}{xs:List Value}(h:W.ownsRow B 5 1 v n xs):∀g,v.ownBlock=some g->B<=g/\ ∃o,W.heap[g]?=some o/\StayW o=false/\ ∀cs fr,o≠ .cells cs 99 fr:=by
 intro g hg;rcases h.2 with⟨q,_⟩|⟨g',cap,cur,q1,q2,q3,q4⟩
 ·rw[q]at hg;cases hg
 ·rw[q1]at hg;injection hg with hg
  subst hg;exact⟨q2,_,q3,rfl,fun cs fr e=>by injection e with _ e;exact absurd e (by decide)⟩
theorem WrV.setB{W W':World}{B b:Nat}{p v v':Value}{bs bs':List UInt8}{f:Bool}(h:WrV W B b p v bs f)(hg:W.grownBy W' v.ownBlock)(ho:W'.ownsRow B 5 1 v' bs'.length (Lib.byteCells bs')):
  WrV (W'.setCell ⟨b,1,none⟩ v') B b p v' bs' f/\KW B W (W'.setCell ⟨b,1,none⟩ v'):=by
 have k1:KW B W W':=KW.grown hg (fun g e=>by obtain⟨q1,o,q2,q3,_⟩:=row5_kind h.row g e;exact⟨q1,o,q2,q3⟩) h.base;have hb:W'.heap[b]?=some (.cells #[p,v,.bool f] 99 (0,0)):=(hg.block b h.lt (fun e=>by
  obtain⟨_,o,q2,_,q3⟩:=row5_kind h.row b e.symm;rw[h.box]at q2;injection q2 with q2;exact q3 _ _ q2.symm)).trans h.box
 exact⟨⟨h.hB,by rw[box_set hb];rfl,h.ad,own_row99 ho hb (fun k hk=>heap_setCell_other W' ⟨b,1,none⟩ k _ hk)⟩,k1.trans (KW.cellSet h.hB hb rfl _)⟩
theorem copyCheck_any(B b:Nat)(p v:Value)(bs:List UInt8)(f:Bool)(w:World)(h:WrV w B b p v bs f):
  Calls Tryz.prog 116 #[.pointer (some ⟨b,0,none⟩)] w fun e w'=>e= .returned (.tuple #[])/\WrV w' B b (.pointer (some ⟨b,0,none⟩)) v bs f/\KW B w w':=by
 rcases h.ad with rfl|rfl
 ·refine(copyCheck_fresh b w h.cells.1 (by simp[World.shape?,h.box]) (h.free 0)).mono ?_;rintro e w' ⟨rfl,rfl⟩;exact⟨rfl,h.setP.1,h.setP.2⟩
 ·refine(copyCheck_used b w h.cells.1).mono ?_;rintro e w' ⟨rfl,rfl⟩;exact⟨rfl,h,KW.refl _ _⟩
theorem WriteString_any(B b:Nat)(bs s:List UInt8)(f:Bool)(w:World)(h:Wr w B b bs f)(hlen:bs.length+s.length<=140737488355328):
  Calls Tryz.prog 89 #[.pointer (some ⟨b,0,none⟩),.string ⟨s.toArray⟩] w fun e w'=>e= .returned (.tuple #[.int .i64 (s.length:Nat),.nilIface])/\Wr w' B b (bs++s) f/\KW B w w':=by
 obtain⟨i0,hi,hz0,hz1,hz2⟩:=info_parts (show(Tryz.prog.info? 5).map (fun i=>(i.zero,i.size,i.bytes))=some (some (.int .u8 0),1,1)by kernel_rfl);obtain⟨p,v,hw⟩:=h;go_enter Tryz.func89,Tryz.ntmps89
 go_wp2_with (refine(copyCheck_any B b p v bs f _ hw).mono ?_)
 rintro e w1 ⟨rfl,h1,hk1⟩;obtain⟨c0,c1,c2⟩:=h1.cells;have hs:(⟨s.toArray⟩:ByteArray).size=s.length:=by simp[ByteArray.size]
 go_wp2_with (at_builtin;refine Lib.wpList_append_own_string _ rfl _ _ 62 9 rfl B 5 i0 Tryz.underlying62 Tryz.underlying9 hi hz0 hz1 hz2 _ _ _ rfl h1.row ⟨s.toArray⟩ rfl ?c3 ?c4 ?c5 ?_)
 case c3=>rw[hs];unfold maxLen;omega
 case c4=>rw[hs];omega
 case c5=>exact h1.base
 intro v' w2 hown' hgrow _;have ho:w2.ownsRow B 5 1 v' (bs++s).length (Lib.byteCells (bs++s)):=by
  have e1:Lib.byteCells (bs++s)=Lib.byteCells bs++Lib.strCells ⟨s.toArray⟩:=by simp[Lib.byteCells,Lib.strCells]
  rw[e1,List.length_append];try rw[hs]at hown'
  exact hown'
 obtain⟨hnew,hk2⟩:=h1.setB hgrow ho;have hb2:w2.heap[b]?=some (.cells #[.pointer (some ⟨b,0,none⟩),v,.bool f] 99 (0,0)):=(hgrow.block b h1.lt (fun e=>by
  obtain⟨_,o,q2,_,q3⟩:=row5_kind h1.row b e.symm;rw[h1.box]at q2;injection q2 with q2;exact q3 _ _ q2.symm)).trans h1.box
 have d1:w2.cell? ⟨b,1,none⟩=some v:=by rw[cell_of_row _ _ _ _ _ _ hb2];rfl
 have f1:w2.frozen? ⟨b,1,none⟩=false:=frozen_of_row w2 b 1 _ _ hb2;obtain⟨ao,n',cap,rfl⟩:∃ao n' cap,v'= .slice ao n' cap:=by
  rcases hown'.2 with⟨hv,_⟩|⟨g,cap,cur,hv,_⟩
  ·exact⟨_,_,_,hv⟩
  ·exact⟨_,_,_,hv⟩
 have hf:=Hd (⟨⟨_,_,hnew⟩,hk1.trans hk2⟩:Wr _ B b (bs++s) f/\KW B w _);clear hnew hk2 hown' ho hb2 hgrow h1 hw hk1
 go_wp2
 refine bodyPost_ret (results_tmp2 rfl _ _ _) rfl ?_;exact⟨rfl,hf.out.1,hf.out.2⟩
def numF(bs:List UInt8)(f:Bool):List Int->List UInt8 × Bool
 | []=>(bs,f)
 | n::t=>if inB n (-4611686018427387903) 4611686018427387903=true then numF (bs++putL n) f t else(bs,true)
theorem numF_len(l:List Int):∀(bs:List UInt8) (f:Bool),(numF bs f l).1.length<=bs.length+9*l.length:=by
 induction l with
 | nil=>intro bs f;simp[numF]
 | cons n t ih =>
  intro bs f;unfold numF
  split
  ·have h1:=ih (bs++putL n) f;have h2:=(putL_len n).2;rw[List.length_append]at h1;simp only[List.length_cons];omega
  ·simp
def PutPost(x:Int)(w:World)(e:Ending)(w':World):Prop :=
 (if inB x (-4611686018427387903) 4611686018427387903=true then e= .returned (.tuple #[.string ⟨(putL x).toArray⟩,.int .i64 0])else e= .returned (.tuple #[.string ⟨#[]⟩,.int .i64 10]))/\Below w.heap.size w w'
theorem PutInt_all(x:Int)(w:World)(h1 : -9223372036854775808<=x)(h2:x<=9223372036854775807):Calls Tryz.prog 88 #[.int .i64 x] w (PutPost x w):=by
 by_cases h:inB x (-4611686018427387903) 4611686018427387903=true
 ·have h':=(inB_iff _ _ _).1 h;refine(PutInt_any x w h'.1 h'.2).mono ?_;rintro e w' ⟨rfl,hb⟩;exact⟨by rw[if_pos h],hb⟩
 ·have h':¬(-4611686018427387903<=x/\x<=4611686018427387903):=fun q=>h ((inB_iff _ _ _).2 q);refine(PutInt_bad x w (by omega) h1 h2).mono ?_;rintro e w' ⟨rfl,hb⟩;exact⟨by rw[if_neg h],hb⟩
def NumPost(B b:Nat)(bs:List UInt8)(f:Bool)(l:List Int)(w:World)(e:Ending)(w':World):Prop :=
 e= .returned (.tuple #[])/\Wr w' B b (numF bs f l).1 (numF bs f l).2/\KW B w w'
theorem numbers_any(B b:Nat)(bs:List UInt8)(f:Bool)(v:Value)(l:List Int)(w:World)(h:Wr w B b bs f)(hl:∀W,KW B w W->DL W v l)(hr:∀n∈l,-9223372036854775808<=n/\n<=9223372036854775807)(hn:l.length<=1000000)(hb:bs.length<=100000000):
  Calls Tryz.prog 62 #[.pointer (some ⟨b,0,none⟩),v] w (NumPost B b bs f l w):=by
 obtain⟨a,c,rfl⟩:=(hl w (KW.refl _ _)).shape;have cellD:=Hd (show ∀(k:Nat) (hk:k<l.length),∃bv ov,a=some ⟨bv,ov,none⟩/\ ∀W,KW B w W->W.cell? ⟨bv,ov+k,none⟩=some (.int .i64 l[k])from fun k hk=>by
  have hne:l≠[]:=fun e=>by rw[e]at hk;simp at hk
  obtain⟨bv,ov,c',he,_,_,e3⟩:=(hl w (KW.refl _ _)).own hne;injection he with he
  refine⟨bv,ov,he,fun W K=>?_⟩;obtain⟨bv',ov',c'',he',_,_,e3'⟩:=(hl W K).own hne;injection he' with he'
  rw[he]at he';injection he' with he'
  injection he' with q1 q2
  subst q1 q2;exact e3' k _ (List.getElem?_eq_getElem hk))
 have hrh:=Hd hr;have hh:=Hd h;have hpost:Hid (∀W b1 f1,numF bs f l=(b1,f1)->Wr W B b b1 f1->KW B w W->NumPost B b bs f l w (.returned (.tuple #[])) W):=fun W b1 f1 e h1 h2=>⟨rfl,by rw[e];exact h1,h2⟩;obtain⟨N,hN⟩:∃N,Hid (N=l.length):=⟨_,rfl⟩;rw[<-hN.out]at hn ⊢;clear hl hr h;go_enter Tryz.func62,Tryz.ntmps62;go_wp2_with fail
 go_loopw [10] (fun i wr=>∃(k:Nat) (bk:List UInt8),k<=N/\i= .int .i64 k/\Hid (numF bs f l=numF bk f (l.drop k))/\Hid (Wr wr B b bk f)/\Hid (KW B w wr)/\bk.length<=bs.length+9*k) (fun i _=>N-(intOf i).toNat)
 case atStart=>exact⟨0,bs,by omega,rfl,rfl,hh.out,KW.refl _ _,by omega⟩
 case round =>
  obtain⟨k,bk,hk,rfl,hnum,hW,hK,hlen⟩:=hrel;by_cases hlt:k<N
  ·have hkl:k<l.length:=by rw[<-hN.out];exact hlt
   obtain⟨bv,ov,rfl,hc⟩:=cellD.out k hkl;have d0:=hc wr hK.out;have i0:(0:Int)<=(k:Int):=by omega
   have i1:(k:Int)<(N:Int):=by omega
   have hp:=Hd (PutInt_all l[k] wr (hrh.out _ (List.getElem_mem hkl)).1 (hrh.out _ (List.getElem_mem hkl)).2);have hdr:Hid (numF bk f (l.drop k)=if inB l[k] (-4611686018427387903) 4611686018427387903=true then numF (bk++putL l[k]) f (l.drop (k+1))else(bk,true)):=by
    show _=_;rw[List.drop_eq_getElem_cons hkl];rfl
   have hpl:=(putL_len l[k]).2;generalize l[k]=x at *
   clear hc;go_wp2_with fail;with_reducible refine hp.out.mono ?_
   rintro e w2 ⟨he,hb2⟩;obtain⟨p,v,hV⟩:=hW.out;have hV2:=hV.below hb2;have hK2:=Hd (hK.out.trans (KW.of hb2 hV.base));by_cases hin:inB x (-4611686018427387903) 4611686018427387903=true
   ·rw[if_pos hin]at he;subst he;have hws:=Hd (WriteString_any B b bk (putL x) f w2 ⟨p,v,hV2⟩ (by omega));have hnum2:=Hd (hnum.out.trans (hdr.out.trans (if_pos hin)));clear hin hdr hnum hp d0 hb2 hV hV2 hW hK;go_wp2_with fail;with_reducible refine hws.out.mono ?_
    rintro e w3 ⟨rfl,hW3,hK3⟩;have hW3h:=Hd hW3;have hK3h:=Hd (hK2.out.trans hK3);clear hW3 hK3 hws;go_wp2_with fail
    go_roundw
    case rel=>exact⟨k+1,bk++putL x,by omega,by go_num,hnum2.out,hW3h.out,hK3h.out,by rw[List.length_append];omega⟩
    case measure=>simp[intOf];omega
   ·rw[if_neg hin]at he;subst he;have hnum2:=Hd (hnum.out.trans (hdr.out.trans (if_neg hin)));have fr2:=hV2.free 2;have c2:=hV2.cells.2.2;have hf:=Hd (hpost.out _ bk true hnum2.out ⟨p,v,(hV2.setF true).1⟩ (hK2.out.trans (hV2.setF true).2));clear hin hdr hnum hp d0 hb2 hV hV2 hW hK;go_wp2_with fail
    go_end0
    exact hf.out
  ·have hk2:k=N:=by omega
   have hf:=Hd (hpost.out wr bk f (by
    have e:=hnum.out;rw[List.drop_of_length_le (by rw[hk2,hN.out];exact Nat.le_refl _)]at e;exact e) hW.out hK.out)
   have i1:¬(k:Int)<(N:Int):=by omega
   clear hk2;go_wp2_with fail
   go_end0
   exact hf.out
theorem unsafeString_none(W:World)(q:Option Addr):(Builtin.unsafeString_ #[160,3] 9 #[.pointer q,.int .i64 0]).run Tryz.prog W= .ok (.string .empty) W :=
 Lib.run_unsafeString_none W _ _ _ q
set_option maxHeartbeats 1000000 in
theorem String_full(B b:Nat)(l:List UInt8)(f:Bool)(w:World)(h:Wr w B b l f)(h0:l≠[]):
  Calls Tryz.prog 90 #[.pointer (some ⟨b,0,none⟩)] w fun e w'=>e= .returned (.string ⟨l.toArray⟩)/\Below B w w':=by
 obtain⟨p,v,hw⟩:=h;have hbk:=hw.box;have hown:=hw.row;have hl0:l.length≠0:=by simpa using h0
 obtain⟨g,cap,cur,rfl,hbg,hg,hnc,hcm,hcs,htake⟩:∃g cap cur,v= .slice (some ⟨g,0,none⟩) l.length cap/\B<=g/\w.heap[g]?=some (.cells cur 5 (0,0))/\l.length<=cap/\cap<=maxLen/\cur.size=cap*1/\cur.toList.take (l.length*1)=Lib.byteCells l:=by
  rcases hown.2 with⟨_,hz⟩|⟨g,cap,cur,hv,r⟩
  ·exact absurd hz hl0
  ·exact⟨g,cap,cur,hv,r⟩
 have c1:w.drew.cell? ⟨b,1,none⟩=some (.slice (some ⟨g,0,none⟩) l.length cap):=hw.cells.2.1;have hSD:(Builtin.unsafeSliceData_ #[62] 160 #[.slice (some ⟨g,0,none⟩) l.length cap]).run Tryz.prog w.drew= .ok (.pointer (some ⟨g,0,none⟩)) w.drew :=
  Lib.run_unsafeSliceData_row _ _ _ _ _ _ (by omega)
 have hUS:(Builtin.unsafeString_ #[160,3] 9 #[.pointer (some ⟨g,0,none⟩),.int .i64 l.length]).run Tryz.prog w.drew= .ok (.string ⟨l.toArray⟩) (w.drew.freeze ⟨g,0,none⟩ l.length):=by
  refine Lib.run_unsafeString_row w.drew 160 3 9 5 Tryz.underlying160 (by kernel_rfl) g cur.size (by have hg':w.drew.heap[g]?=some (.cells cur 5 (0,0)):=hg;simp[World.shape?,hg']) l h0 (by omega) (by unfold maxLen at hcm;omega) ?_;intro j x hx;have:=hown.cells (g:=g) rfl j (.int .u8 x.toNat) (by simp[Lib.byteCells,hx]);exact this
 clear hw;have mixed:Tryz.prog.follows .mixedOrders=true:=by kernel_rfl
 go_enter Tryz.func90,Tryz.ntmps90
 go_wp2
 go_region_o
 all_goals (go_wp2;go_ret;exact⟨rfl,Lib.below_freeze (Below.drew (Below.refl B w)) (p:=⟨g,0,none⟩) hbg _⟩)
theorem String_nil(B b:Nat)(p:Value)(f:Bool)(w:World)(hbk:w.heap[b]?=some (.cells #[p,.slice none 0 0,.bool f] 99 (0,0))):
  Calls Tryz.prog 90 #[.pointer (some ⟨b,0,none⟩)] w fun e w'=>e= .returned (.string ⟨#[]⟩)/\Below B w w':=by
 have hUS:=unsafeString_none;have c1:w.drew.cell? ⟨b,1,none⟩=some (.slice none 0 0):=by
  have:w.drew.heap[b]?=some (.cells #[p,.slice none 0 0,.bool f] 99 (0,0)):=hbk;rw[cell_of_row _ _ _ _ _ _ this];rfl
 have hSD:(Builtin.unsafeSliceData_ #[62] 160 #[.slice none 0 0]).run Tryz.prog w.drew= .ok (.pointer none) w.drew:=rfl;have mixed:Tryz.prog.follows .mixedOrders=true:=by kernel_rfl
 go_enter Tryz.func90,Tryz.ntmps90
 go_wp2
 go_region_o
 all_goals (go_wp2;go_ret;exact⟨rfl,Below.drew (Below.refl B w)⟩)
theorem String_noroom(B b g:Nat)(p:Value)(f:Bool)(cur:Array Value)(w:World)(hBw:B<=w.heap.size)(hbk:w.heap[b]?=some (.cells #[p,.slice (some ⟨g,0,none⟩) 0 0,.bool f] 99 (0,0)))(hg:w.heap[g]?=some (.cells cur 5 (0,0))):
  Calls Tryz.prog 90 #[.pointer (some ⟨b,0,none⟩)] w fun e w'=>e= .returned (.string ⟨#[]⟩)/\Below B w w':=by
 have hUS:=unsafeString_none;have c1:w.drew.cell? ⟨b,1,none⟩=some (.slice (some ⟨g,0,none⟩) 0 0):=by
  have:w.drew.heap[b]?=some (.cells #[p,.slice (some ⟨g,0,none⟩) 0 0,.bool f] 99 (0,0)):=hbk;rw[cell_of_row _ _ _ _ _ _ this];rfl
 have hSD:(Builtin.unsafeSliceData_ #[62] 160 #[.slice (some ⟨g,0,none⟩) 0 0]).run Tryz.prog w.drew= .ok (.pointer (some ⟨w.drew.heap.size,0,none⟩)) (w.drew.alloc (.view ⟨g,0,none⟩ 5)) :=
  Lib.run_unsafeSliceData_zero w.drew _ _ 5 Tryz.underlying160 ⟨g,0,none⟩ 0 (5,cur.size) (by have hg':w.drew.heap[g]?=some (.cells cur 5 (0,0)):=hg;simp[World.shape?,hg'])
 have c2:(w.drew.alloc (.view ⟨g,0,none⟩ 5)).cell? ⟨b,1,none⟩=some (.slice (some ⟨g,0,none⟩) 0 0):=by
  have:(w.drew.alloc (.view ⟨g,0,none⟩ 5)).heap[b]?=_:=al_keep (show w.drew.heap[b]?=_ from hbk);rw[cell_of_row _ _ _ _ _ _ this];rfl
 have c3:(w.alloc (.view ⟨g,0,none⟩ 5)).drew.cell? ⟨b,1,none⟩=some (.slice (some ⟨g,0,none⟩) 0 0):=c2;have c0:w.cell? ⟨b,1,none⟩=some (.slice (some ⟨g,0,none⟩) 0 0):=c1;have mixed:Tryz.prog.follows .mixedOrders=true:=by kernel_rfl
 go_enter Tryz.func90,Tryz.ntmps90
 go_wp2
 go_region_o
 all_goals (go_wp2;go_ret;exact⟨rfl,(Below.drew (Below.refl B w)).alloc hBw _⟩)
theorem String_room(B b g cap:Nat)(p:Value)(f:Bool)(w:World)(hc0:cap≠0)(hbk:w.heap[b]?=some (.cells #[p,.slice (some ⟨g,0,none⟩) 0 cap,.bool f] 99 (0,0))):
  Calls Tryz.prog 90 #[.pointer (some ⟨b,0,none⟩)] w fun e w'=>e= .returned (.string ⟨#[]⟩)/\Below B w w':=by
 have hUS:=unsafeString_none;have c1:w.drew.cell? ⟨b,1,none⟩=some (.slice (some ⟨g,0,none⟩) 0 cap):=by
  have:w.drew.heap[b]?=some (.cells #[p,.slice (some ⟨g,0,none⟩) 0 cap,.bool f] 99 (0,0)):=hbk;rw[cell_of_row _ _ _ _ _ _ this];rfl
 have hSD:(Builtin.unsafeSliceData_ #[62] 160 #[.slice (some ⟨g,0,none⟩) 0 cap]).run Tryz.prog w.drew= .ok (.pointer (some ⟨g,0,none⟩)) w.drew :=
  Lib.run_unsafeSliceData_row _ _ _ _ _ _ hc0
 clear hc0;have mixed:Tryz.prog.follows .mixedOrders=true:=by kernel_rfl
 go_enter Tryz.func90,Tryz.ntmps90
 go_wp2
 go_region_o
 all_goals (go_wp2;go_ret;exact⟨rfl,Below.drew (Below.refl B w)⟩)
theorem String_any(B b:Nat)(l:List UInt8)(f:Bool)(w:World)(h:Wr w B b l f):
  Calls Tryz.prog 90 #[.pointer (some ⟨b,0,none⟩)] w fun e w'=>e= .returned (.string ⟨l.toArray⟩)/\Below B w w':=by
 cases l with
 | cons x r=>exact String_full B b (x::r) f w h (by simp)
 | nil =>
  obtain⟨p,v,hw⟩:=h;have hbk:=hw.box;rcases hw.row.2 with⟨rfl,_⟩|⟨g,cap,cur,rfl,hbg,hg,_,_,_,_⟩
  ·exact String_nil B b p f w hbk
  ·by_cases hc0:cap=0
   ·subst hc0;exact String_noroom B b g p f cur w hw.base hbk hg
   ·exact String_room B b g cap p f w hc0 hbk
theorem Wr.below{W W':World}{B b:Nat}{bs:List UInt8}{f:Bool}(h:Wr W B b bs f)(hb:Below W.heap.size W W'):Wr W' B b bs f:=by
 obtain⟨p,v,h⟩:=h;exact⟨p,v,h.below hb⟩
theorem Wr.base{W:World}{B b:Nat}{bs:List UInt8}{f:Bool}(h:Wr W B b bs f):B<=W.heap.size:=by
 obtain⟨p,v,h⟩:=h;exact h.base
theorem lit_stays{B k:Nat}{W:World}{l:List Int}(hne:l≠[])(h:W.heap[k]?=some (.cells (l.map (Value.int .i64)).toArray 3 (0,0))):∀W',KW B W W'->DL W' (.slice (some ⟨k,0,none⟩) l.length l.length) l:=fun W' K=>by
 have h2:=K.keep k _ h rfl;refine Or.inr ⟨hne,k,0,l.length,rfl,Nat.le_refl _,(Array.getElem?_eq_some_iff.1 h2).1,fun j x e=>?_⟩;rw[Nat.zero_add,cell_of_row _ _ _ _ _ _ h2];simp[e]
def inI(n:Int):Prop:= -9223372036854775808<=n/\n<=9223372036854775807
theorem wvertex_any(B b:Nat)(bs:List UInt8)(f:Bool)(u:Vx)(w:World)(h:Wr w B b bs f)(h1:inI u.id)(h2:inI u.side)(hb:bs.length<=100000000):
  Calls Tryz.prog 63 #[.pointer (some ⟨b,0,none⟩),.agg #[.int .i64 u.id,.int .i64 u.side]] w (NumPost B b bs f [u.id,u.side] w):=by
 obtain⟨w1,hw1⟩:∃w1,w1=(w.alloc (.cells #[.int .i64 u.id,.int .i64 u.side] 29)).alloc (.cells #[.int .i64 u.id,.int .i64 u.side] 3):=⟨_,rfl⟩;have B1:Below w.heap.size w w1:=by rw[hw1];exact((Below.refl _ w).alloc (Nat.le_refl _) _).alloc (by simp) _
 have g1:w1.heap[w.heap.size+1]?=some (.cells ([u.id,u.side].map (Value.int .i64)).toArray 3 (0,0)):=by
  rw[hw1];have:=heap_alloc_new (w.alloc (.cells #[.int .i64 u.id,.int .i64 u.side] 29)) (.cells #[.int .i64 u.id,.int .i64 u.side] 3);simpa using this
 have hk:=Hd (numbers_any B b bs f (.slice (some ⟨w.heap.size+1,0,none⟩) 2 2) [u.id,u.side] w1 (h.below B1) (lit_stays (by simp) g1) (by intro n hn;simp at hn;rcases hn with rfl|rfl<;>assumption) (by simp) hb);have hK:=Hd (KW.of B1 h.base);have hfin:Hid (∀w2,NumPost B b bs f [u.id,u.side] w1 (.returned (.tuple #[])) w2->NumPost B b bs f [u.id,u.side] w (.returned (.tuple #[])) w2):=fun w2 q=>⟨rfl,q.2.1,hK.out.trans q.2.2⟩;have hw1h:=Hd hw1;clear hw1 g1 B1 h;go_enter Tryz.func63,Tryz.ntmps63;go_wp2_with fail;rw[<-hw1h.out];with_reducible refine hk.out.mono ?_
 rintro e w2 hq;have hf:=Hd (hfin.out w2 (by rw[<-hq.1];exact hq));obtain⟨rfl,_,_⟩:=hq;go_wp2_with fail
 go_end0
 exact hf.out
def edN(u:Ed):List Int:=[u.id,u.src,u.dst,if u.dir=true then 1 else 0,u.wt,u.cap]
theorem wedge_any(B b:Nat)(bs:List UInt8)(f:Bool)(u:Ed)(w:World)(h:Wr w B b bs f)(hr:∀n∈edN u,inI n)(hb:bs.length<=100000000):
  Calls Tryz.prog 64 #[.pointer (some ⟨b,0,none⟩),.agg (edCells u)] w (NumPost B b bs f (edN u) w):=by
 obtain⟨w1,hw1⟩:∃w1,w1=(w.alloc (.cells (edCells u) 31)).alloc (.cells #[.int .i64 u.id,.int .i64 u.src,.int .i64 u.dst,.int .i64 (if u.dir=true then 1 else 0),.int .i64 u.wt,.int .i64 u.cap] 3):=⟨_,rfl⟩;have B1:Below w.heap.size w w1:=by rw[hw1];exact((Below.refl _ w).alloc (Nat.le_refl _) _).alloc (by simp) _
 have g1:w1.heap[w.heap.size+1]?=some (.cells ((edN u).map (Value.int .i64)).toArray 3 (0,0)):=by
  rw[hw1];have:=heap_alloc_new (w.alloc (.cells (edCells u) 31)) (.cells #[.int .i64 u.id,.int .i64 u.src,.int .i64 u.dst,.int .i64 (if u.dir=true then 1 else 0),.int .i64 u.wt,.int .i64 u.cap] 3);simpa[edN]using this
 have hk:=Hd (numbers_any B b bs f (.slice (some ⟨w.heap.size+1,0,none⟩) 6 6) (edN u) w1 (h.below B1) (lit_stays (by simp[edN]) g1) hr (by simp[edN]) hb);have hK:=Hd (KW.of B1 h.base);have hw1h:=Hd hw1;have hfin:Hid (∀w2,NumPost B b bs f (edN u) w1 (.returned (.tuple #[])) w2->NumPost B b bs f (edN u) w (.returned (.tuple #[])) w2):=fun w2 q=>⟨rfl,q.2.1,hK.out.trans q.2.2⟩;obtain⟨w0,hw0⟩:∃w0,w0=w.alloc (.cells (edCells u) 31):=⟨_,rfl⟩;have hEd:EdAt w0 w.heap.size 0 u:=by rw[hw0];exact EdAt.box w _ 31
 clear hw1 g1 B1 h;simp only[EdAt,Nat.zero_add]at hEd;obtain⟨q0,q1,q2,q3,q4,q5⟩:=hEd;rw[hw0]at q0 q1 q2 q3 q4 q5;clear hw0;unfold edCells at hw1h q0 q1 q2 q3 q4 q5 ⊢;cases hd:u.dir with
 | true =>
  rw[hd]at hw1h q0 q1 q2 q3 q4 q5;simp only[if_true]at hw1h;clear hd;go_enter Tryz.func64,Tryz.ntmps64;go_wp2_with fail;rw[<-hw1h.out];with_reducible refine hk.out.mono ?_
  rintro e w2 hq;have hf:=Hd (hfin.out w2 (by rw[<-hq.1];exact hq));obtain⟨rfl,_,_⟩:=hq;go_wp2_with fail
  go_end0
  exact hf.out
 | false =>
  rw[hd]at hw1h q0 q1 q2 q3 q4 q5;simp only[Bool.false_eq_true,if_false]at hw1h;clear hd;go_enter Tryz.func64,Tryz.ntmps64;go_wp2_with fail;rw[<-hw1h.out];with_reducible refine hk.out.mono ?_
  rintro e w2 hq;have hf:=Hd (hfin.out w2 (by rw[<-hq.1];exact hq));obtain⟨rfl,_,_⟩:=hq;go_wp2_with fail
  go_end0
  exact hf.out
theorem wlist_any(B b:Nat)(bs:List UInt8)(f:Bool)(v:Value)(l:List Int)(w:World)(h:Wr w B b bs f)(hl:∀W,KW B w W->DL W v l)(hr:∀n∈l,inI n)(hn:l.length<=1000000)(hb:bs.length<=90000000):
  Calls Tryz.prog 65 #[.pointer (some ⟨b,0,none⟩),v] w fun e w'=>e= .returned (.tuple #[])/\Wr w' B b (numF (numF bs f [(l.length:Int)]).1 (numF bs f [(l.length:Int)]).2 l).1 (numF (numF bs f [(l.length:Int)]).1 (numF bs f [(l.length:Int)]).2 l).2/\KW B w w':=by
 obtain⟨a,c,rfl⟩:=(hl w (KW.refl _ _)).shape;obtain⟨w1,hw1⟩:∃w1,w1=w.alloc (.cells #[.int .i64 (l.length:Int)] 3):=⟨_,rfl⟩;have B1:Below w.heap.size w w1:=by rw[hw1];exact(Below.refl _ w).alloc (Nat.le_refl _) _
 have g1:w1.heap[w.heap.size]?=some (.cells ([(l.length:Int)].map (Value.int .i64)).toArray 3 (0,0)):=by
  rw[hw1];exact heap_alloc_new w _
 have hk:=Hd (show Calls Tryz.prog 62 #[.pointer (some ⟨b,0,none⟩),.slice (some ⟨w.heap.size,0,none⟩) 1 1] w1 fun e w'=>e= .returned (.tuple #[])/\Wr w' B b (numF bs f [(l.length:Int)]).1 (numF bs f [(l.length:Int)]).2/\KW B w1 w' from(numbers_any B b bs f (.slice (some ⟨w.heap.size,0,none⟩) 1 1) [(l.length:Int)] w1 (h.below B1) (lit_stays (by simp) g1) (by intro n hn;simp at hn;subst hn;unfold inI at *;omega) (by simp) (by omega)).mono (fun e w' q=>⟨q.1,q.2.1,q.2.2⟩));have hlen1:=numF_len [(l.length:Int)] bs f;have hK:=Hd (KW.of B1 h.base);have hk2:=Hd (fun(W:World) (K:KW B w W) (hW:Wr W B b (numF bs f [(l.length:Int)]).1 (numF bs f [(l.length:Int)]).2)=>show Calls Tryz.prog 62 #[.pointer (some ⟨b,0,none⟩),.slice a l.length c] W fun e w'=>e= .returned (.tuple #[])/\Wr w' B b (numF (numF bs f [(l.length:Int)]).1 (numF bs f [(l.length:Int)]).2 l).1 (numF (numF bs f [(l.length:Int)]).1 (numF bs f [(l.length:Int)]).2 l).2/\KW B W w' from(numbers_any B b _ _ _ l W hW (fun W' K'=>hl W' (K.trans K')) hr hn (by simp only[List.length_cons,List.length_nil]at hlen1;omega)).mono (fun e w' q=>⟨q.1,q.2.1,q.2.2⟩));have hw1h:=Hd hw1;clear hw1 g1 B1 h hl hlen1;generalize numF bs f [(l.length:Int)]=R at *
 generalize numF R.1 R.2 l=S at *
 generalize l.length=n at *
 go_enter Tryz.func65,Tryz.ntmps65;go_wp2_with fail;rw[<-hw1h.out];with_reducible refine hk.out.mono ?_
 rintro e w2 ⟨rfl,hW,hk3⟩;have hc:=Hd (hk2.out w2 (hK.out.trans hk3) hW);go_wp2_with fail;with_reducible refine hc.out.mono ?_
 rintro e w3 ⟨rfl,hW3,hk4⟩;have hf1:=Hd hW3;have hf2:=Hd (hK.out.trans (hk3.trans hk4));clear hW3 hk4 hW hk3;go_wp2_with fail
 go_end0
 exact⟨rfl,hf1.out,hf2.out⟩
theorem wresult_any(B b:Nat)(bs:List UInt8)(f:Bool)(w:World)(h:Wr w B b bs f):
  Calls Tryz.prog 66 #[.pointer (some ⟨b,0,none⟩)] w fun e w'=>e= .returned (.tuple (if f=true then #[.string ⟨#[]⟩,.int .i64 30]else #[.string ⟨bs.toArray⟩,.int .i64 0]))/\Below B w w':=by
 have hs:=Hd (String_any B b bs f w h);obtain⟨p,v,hw⟩:=h;have c2:=hw.cells.2.2;clear hw;cases f with
 | true =>
  go_enter Tryz.func66,Tryz.ntmps66;go_wp2_with fail;refine bodyPost_ret (results_tmp2 rfl _ _ _) rfl ?_;exact⟨rfl,Below.refl _ _⟩
 | false =>
  go_enter Tryz.func66,Tryz.ntmps66;go_wp2_with fail;with_reducible refine hs.out.mono ?_
  rintro e w2 ⟨rfl,hq⟩;have hf:=Hd hq;clear hq;go_wp2_with fail;refine bodyPost_ret (results_tmp2 rfl _ _ _) rfl ?_;exact⟨rfl,hf.out⟩
def inP(n:Int):Prop:= -4611686018427387903<=n/\n<=4611686018427387903
theorem numF_all(l:List Int):∀(bs:List UInt8) (f:Bool),(∀n∈l,inP n)->numF bs f l=(bs++l.flatMap putL,f):=by
 induction l with
 | nil=>intro bs f _;simp[numF]
 | cons n t ih =>
  intro bs f h;unfold numF;rw[if_pos ((inB_iff _ _ _).2 (h n (by simp))),ih _ _ (fun m hm=>h m (by simp[hm]))]
  simp
theorem inP.toI{n:Int}(h:inP n):inI n:=by unfold inP at h;unfold inI;omega
def GoodPost(B b:Nat)(bs:List UInt8)(w:World)(e:Ending)(w':World):Prop:=e= .returned (.tuple #[])/\Wr w' B b bs false/\KW B w w'
theorem one_any(B b:Nat)(bs:List UInt8)(n:Int)(W:World)(h:Wr W B b bs false)(hn:inP n)(hb:bs.length<=100000000):
  Calls Tryz.prog 62 #[.pointer (some ⟨b,0,none⟩),.slice (some ⟨W.heap.size,0,none⟩) 1 1] (W.alloc (.cells #[.int .i64 n] 3)) (GoodPost B b (bs++putL n) W):=by
 have hB:Below W.heap.size W (W.alloc (.cells #[.int .i64 n] 3)):=(Below.refl _ _).alloc (Nat.le_refl _) _;refine(numbers_any B b bs false (.slice (some ⟨W.heap.size,0,none⟩) 1 1) [n] _ (h.below hB) (lit_stays (by simp) (by simpa using heap_alloc_new W (.cells #[.int .i64 n] 3))) (by intro m hm;simp at hm;subst hm;exact hn.toI) (by simp) hb).mono ?_;intro e w' q;rw[NumPost,numF_all _ _ _ (by intro m hm;simp at hm;subst hm;exact hn)]at q;exact⟨q.1,by simpa using q.2.1,(KW.of hB h.base).trans q.2.2⟩
def vB(u:Vx):List UInt8:=putL u.id++putL u.side
def eB(u:Ed):List UInt8:=(edN u).flatMap putL
theorem vB_len(u:Vx):(vB u).length<=18:=by
 unfold vB;rw[List.length_append];have:=(putL_len u.id).2;have:=(putL_len u.side).2;omega
theorem eB_len(u:Ed):(eB u).length<=54:=by
 unfold eB edN;simp only[List.flatMap_cons,List.flatMap_nil,List.length_append,List.length_nil];have:=(putL_len u.id).2;have:=(putL_len u.src).2;have:=(putL_len u.dst).2;have:=(putL_len (if u.dir=true then 1 else 0)).2;have:=(putL_len u.wt).2;have:=(putL_len u.cap).2;omega
theorem wv_good(B b:Nat)(bs:List UInt8)(u:Vx)(w:World)(h:Wr w B b bs false)(h1:inP u.id)(h2:inP u.side)(hb:bs.length<=100000000):
  Calls Tryz.prog 63 #[.pointer (some ⟨b,0,none⟩),.agg #[.int .i64 u.id,.int .i64 u.side]] w (GoodPost B b (bs++vB u) w):=by
 refine(wvertex_any B b bs false u w h h1.toI h2.toI hb).mono ?_;intro e w' q;rw[NumPost,numF_all _ _ _ (by intro m hm;simp at hm;rcases hm with rfl|rfl<;>assumption)]at q;exact⟨q.1,by simpa[vB]using q.2.1,q.2.2⟩
theorem we_good(B b:Nat)(bs:List UInt8)(u:Ed)(w:World)(h:Wr w B b bs false)(h1:∀n∈edN u,inP n)(hb:bs.length<=100000000):
  Calls Tryz.prog 64 #[.pointer (some ⟨b,0,none⟩),.agg (edCells u)] w (GoodPost B b (bs++eB u) w):=by
 refine(wedge_any B b bs false u w h (fun n hn=>(h1 n hn).toI) hb).mono ?_;intro e w' q;rw[NumPost,numF_all _ _ _ h1]at q;exact⟨q.1,q.2.1,q.2.2⟩
def lB(l:List Int):List UInt8:=putL l.length++l.flatMap putL
theorem wl_good(B b:Nat)(bs:List UInt8)(v:Value)(l:List Int)(w:World)(h:Wr w B b bs false)(hl:∀W,KW B w W->DL W v l)(h1:∀n∈l,inP n)(hn:l.length<=1000000)(hb:bs.length<=90000000):
  Calls Tryz.prog 65 #[.pointer (some ⟨b,0,none⟩),v] w (GoodPost B b (bs++lB l) w):=by
 refine(wlist_any B b bs false v l w h hl (fun n hn=>(h1 n hn).toI) hn hb).mono ?_;intro e w' q;rw[numF_all [(l.length:Int)] _ _ (by intro m hm;simp at hm;subst hm;unfold inP;omega),numF_all _ _ _ h1]at q;exact⟨q.1,by simpa[lB]using q.2.1,q.2.2⟩
def encB(g:Gr):List UInt8:=putL g.vs.length++g.vs.flatMap vB++putL g.es.length++g.es.flatMap eB++lB g.ds
def EncPost(g:Gr)(w:World)(e:Ending)(w':World):Prop :=
 e= .returned (.tuple (if g.ok=true then #[.string ⟨(encB g).toArray⟩,.int .i64 0]else #[.string ⟨#[]⟩,.int .i64 30]))/\Below w.heap.size w w'
theorem flat_take{α:Type}(l:List α)(F:α->List UInt8)(k:Nat)(hk:k<l.length):(l.take (k+1)).flatMap F=(l.take k).flatMap F++F l[k]:=by
 rw[List.take_add_one,List.flatMap_append,List.getElem?_eq_getElem hk]
 simp
theorem flat_len{α:Type}(l:List α)(F:α->List UInt8)(m:Nat)(h:∀x,(F x).length<=m)(k:Nat):((l.take k).flatMap F).length<=m*k:=by
 induction k generalizing l with
 | zero=>simp
 | succ k ih =>
  cases l with
  | nil=>simp
  | cons x t =>
   rw[List.take_succ_cons,List.flatMap_cons,List.length_append];have:=ih t;have:=h x;rw[Nat.mul_succ];omega
theorem cellsV{w:World}{v:Value}{l:List Vx}(hv:VL w v l)(k:Nat)(hk:k<l.length):∃b o c,v= .slice (some ⟨b,o,none⟩) l.length c/\ ∀W,Below w.heap.size w W->W.cell? ⟨b,o+k*2,none⟩=some (.int .i64 l[k].id)/\W.cell? ⟨b,o+k*2+1,none⟩=some (.int .i64 l[k].side):=by
 obtain⟨b,o,c,he,e1,e2,e3⟩:=hv.own (fun e=>by rw[e]at hk;simp at hk);exact⟨b,o,c,he,fun W B=>(e3.below e2 B) k _ (List.getElem?_eq_getElem hk)⟩
theorem cellsE{w:World}{v:Value}{l:List Ed}(hv:EL w v l)(k:Nat)(hk:k<l.length):∃b o c,v= .slice (some ⟨b,o,none⟩) l.length c/\ ∀W,Below w.heap.size w W->EdAt W b (o+k*6) l[k]:=by
 obtain⟨b,o,c,he,e1,e2,e3⟩:=hv.own (fun e=>by rw[e]at hk;simp at hk);exact⟨b,o,c,he,fun W B=>(e3.below e2 B) k _ (List.getElem?_eq_getElem hk)⟩
def wrZero:Array Value:= #[.pointer none,.slice none 0 0,.bool false]
theorem wr_new(W:World):Wr (W.alloc (.cells wrZero 99)) W.heap.size W.heap.size [] false :=
 ⟨.pointer none,.slice none 0 0,Nat.le_refl _,heap_alloc_new W _,.inl rfl,World.ownsRow_nil _ _ _ _⟩
theorem Ok.inV{g:Gr}(h:Ok g)(u:Vx)(hu:u∈g.vs):inP u.id/\inP u.side:=by
 have:=(Vx.ok_iff u).1 (h.vok u hu);unfold inP;omega
theorem Ok.inE{g:Gr}(h:Ok g)(u:Ed)(hu:u∈g.es):∀n∈edN u,inP n:=by
 have h1:=(Ed.okIn_iff u _).1 (h.eok u hu);have hk:∀x,x∈keysV g.vs->0<=x/\x<=23:=fun x hx=>by
  obtain⟨v,hv,rfl⟩:=mem_keysV.1 hx;exact((Vx.ok_iff v).1 (h.vok v hv)).1
 have hs:=hk u.src h1.2.1;have hd:=hk u.dst h1.2.2.1;intro n hn;unfold inP;simp only[edN,List.mem_cons,List.not_mem_nil,or_false]at hn;rcases hn with rfl|rfl|rfl|rfl|rfl|rfl
 ·omega
 ·omega
 ·omega
 ·split<;>omega
 ·omega
 ·omega
theorem Ok.inD{g:Gr}(h:Ok g)(u:Int)(hu:u∈g.ds):inP u:=by
 obtain⟨v,hv,rfl⟩:=mem_keysV.1 (h.din u hu);have:=(Vx.ok_iff v).1 (h.vok v hv);unfold inP;omega
theorem Encode_any(v:Value)(g:Gr)(w:World)(hv:GV w v g)(hn:g.small):
  Calls Tryz.prog 32 #[v] w (EncPost g w):=by
 obtain⟨a,b,c,rfl,h1,h2,h3⟩:=hv;obtain⟨w1,hw1⟩:∃w1,w1=w.alloc (.cells #[a,b,c] 26):=⟨_,rfl⟩;obtain⟨B1,z1,hcell0⟩:=one_box w w1 a b c 26 hw1;have hcell:=Hd hcell0;have k1:=Hd (Valid_any (.agg #[a,b,c]) g w1 ⟨a,b,c,rfl,h1.below B1,h2.below B1,h3.below B1⟩ hn);have hB1:=Hd B1;have h1h:=Hd h1;have h2h:=Hd h2;have h3h:=Hd h3;obtain⟨a1,a2,rfl⟩:=h1.shape;obtain⟨b1,b2,rfl⟩:=h2.shape;obtain⟨c1,c2,rfl⟩:=h3.shape;have hw1h:=Hd hw1;obtain⟨d0,d1,d2⟩:=hcell.out w1 (Below.refl _ _);cases hok:g.ok with
 | false =>
  have hP:Hid (∀W,Below w.heap.size w W->EncPost g w (.returned (.tuple #[.string ⟨#[]⟩,.int .i64 30])) W):=fun W B=>⟨by rw[hok];rfl,B⟩;rw[hok]at k1;rw[hw1h.out]at d0 d1 d2;clear hw1 hcell0 B1 h1 h2 h3 hn hok h1h h2h h3h hcell;generalize g.vs.length=n1 at *
  generalize g.es.length=n2 at *
  generalize g.ds.length=n3 at *
  go_enter Tryz.func32,Tryz.ntmps32;go_wp2_with fail;rw[<-hw1h.out];with_reducible refine k1.out.mono ?_
  rintro e w2 ⟨rfl,hq⟩;have hB2:=Hd (hB1.out.trans (hq.mono hB1.out.size));clear hq;go_wp2_with fail;refine bodyPost_ret (results_tmp2 rfl _ _ _) rfl ?_;exact hP.out _ hB2.out
 | true =>
  have hO:=(ok_iff g).1 hok;have hP:Hid (∀W,Below w.heap.size w W->EncPost g w (.returned (.tuple #[.string ⟨(encB g).toArray⟩,.int .i64 0])) W):=fun W B=>⟨by rw[hok];rfl,B⟩;rw[hok]at k1;rw[hw1h.out]at d0 d1 d2;have l1:=hO.vlen;have l2:=hO.elen;have l3:=hO.dlen;have cV:=Hd (fun(k:Nat) (hk:k<g.vs.length)=>cellsV h1 k hk);have cE:=Hd (fun(k:Nat) (hk:k<g.es.length)=>cellsE h2 k hk);have hOh:=Hd hO;have lv:=Hd (flat_len g.vs vB 18 vB_len);have le:=Hd (flat_len g.es eB 54 eB_len);have hencB:Hid (encB g=putL g.vs.length++g.vs.flatMap vB++putL g.es.length++g.es.flatMap eB++lB g.ds):=rfl;obtain⟨n1,hn1⟩:∃n1,Hid (n1=g.vs.length):=⟨_,rfl⟩;obtain⟨n2,hn2⟩:∃n2,Hid (n2=g.es.length):=⟨_,rfl⟩;obtain⟨n3,hn3⟩:∃n3,Hid (n3=g.ds.length):=⟨_,rfl⟩;clear hw1 hcell0 B1 h1 h2 h3 hn hok hO;simp only[<-hn1.out,<-hn2.out,<-hn3.out]at hw1h d0 d1 d2 k1 l1 l2 l3 hcell ⊢;go_enter Tryz.func32,Tryz.ntmps32;go_wp2_with fail;rw[<-hw1h.out];with_reducible refine k1.out.mono ?_
  rintro e w2 ⟨rfl,hq⟩;obtain⟨w3,hw3⟩:∃w3,w3=w2.alloc (.cells wrZero 99):=⟨_,rfl⟩;have hW3:Wr w3 w2.heap.size w2.heap.size [] false:=by rw[hw3];exact wr_new w2
  have hB3:Below w.heap.size w w3:=by rw[hw3];exact(hB1.out.trans (hq.mono hB1.out.size)).alloc (by have:=hq.size;omega) _
  have hc3:=Hd (fun(W:World) (K:KW w2.heap.size w3 W)=>hcell.out W ((by rw[hw3];exact hq.alloc (by have:=hq.size;omega) _:Below w1.heap.size w1 w3).trans (K.below.mono hq.size)));have hbw:=Hd (fun(W:World) (K:KW w2.heap.size w3 W)=>show Below w.heap.size w W from hB3.trans (K.below.mono (by have:=hq.size;omega)));have z3:w3.heap.size=w2.heap.size+1:=by rw[hw3];simp
  have s2:w.heap.size<w2.heap.size:=by have:=hq.size;omega
  have hk1:=Hd (one_any w2.heap.size w2.heap.size [] (n1:Int) w3 hW3 (by unfold inP;omega) (by simp));obtain⟨d0,d1,d2⟩:=hc3.out w3 (KW.refl _ _);have hw3h:=Hd hw3;unfold wrZero at hw3h;rw[hw3h.out]at d0 d1 d2;rw[z3]at hk1;clear hw3 hq hB3 hcell k1 hW3;go_wp2_with fail;rw[<-hw3h.out];with_reducible refine hk1.out.mono ?_
  rintro e w4 ⟨rfl,hW4,hK4⟩;obtain⟨P1,hP1⟩:∃P1,Hid (P1=putL (n1:Int)):=⟨_,rfl⟩;have hP1l:P1.length<=9:=by rw[hP1.out];exact(putL_len _).2
  rw[List.nil_append,<-hP1.out]at hW4;have hW4h:=Hd hW4;have hK4h:=Hd hK4;obtain⟨d0,d1,d2⟩:=hc3.out w4 hK4;clear hk1 hW4 hK4;go_wp2_with fail
  go_loopw [20] (fun i wr=>∃k:Nat,k<=n1/\i= .int .i64 k/\Hid (Wr wr w2.heap.size w2.heap.size (P1++(g.vs.take k).flatMap vB) false)/\Hid (KW w2.heap.size w3 wr)) (fun i _=>n1-(intOf i).toNat)
  case atStart=>exact⟨0,by omega,rfl,by simpa using hW4h,hK4h⟩
  case round =>
   obtain⟨k,hk,rfl,hWk,hKk⟩:=hrel;by_cases hlt:k<n1
   ·have hkl:k<g.vs.length:=by rw[<-hn1.out];exact hlt
    obtain⟨bv,ov,cv,he,hat⟩:=cV.out k hkl;injection he with he1 he2 he3
    subst he1 he3;obtain⟨q0,q1⟩:=hat wr (hbw.out wr hKk.out);have i0:(0:Int)<=(k:Int):=by omega
    have i1:(k:Int)<(n1:Int):=by omega
    have hin:=Hd (hOh.out.inV g.vs[k] (List.getElem_mem hkl));have hst:Hid (P1++(g.vs.take (k+1)).flatMap vB=P1++(g.vs.take k).flatMap vB++vB g.vs[k]):=by
     show _=_;rw[flat_take g.vs vB k hkl,List.append_assoc]
    obtain⟨wa,hwa⟩:∃wa,wa=wr.alloc (.cells #[.int .i64 g.vs[k].id,.int .i64 g.vs[k].side] 29):=⟨_,rfl⟩;have hba:Below wr.heap.size wr wa:=by rw[hwa];exact(Below.refl _ _).alloc (Nat.le_refl _) _
    have hlk:=lv.out k;have hcall:=Hd (wv_good w2.heap.size w2.heap.size (P1++(g.vs.take k).flatMap vB) g.vs[k] wa (hWk.out.below hba) hin.out.1 hin.out.2 (by rw[List.length_append];omega));have hKa:=Hd (hKk.out.trans (KW.of hba hWk.out.base));have hbx:wa.heap[wr.heap.size]?=some (.cells #[.int .i64 g.vs[k].id,.int .i64 g.vs[k].side] 29 (0,0)):=by rw[hwa];exact heap_alloc_new wr _
    have y0:wa.cell? ⟨wr.heap.size,0,none⟩=some (.int .i64 g.vs[k].id):=by rw[cell_of_row _ _ _ _ _ _ hbx];rfl
    have y1:wa.cell? ⟨wr.heap.size,1,none⟩=some (.int .i64 g.vs[k].side):=by rw[cell_of_row _ _ _ _ _ _ hbx];rfl
    have hwah:=Hd hwa;rw[hwa]at y0 y1;clear hat hba hbx hwa hlk hin;generalize (g.vs.take k).flatMap vB=Lk at *
    generalize g.vs[k]=u at *
    go_wp2_with fail;rw[<-hwah.out];with_reducible refine hcall.out.mono ?_
    rintro e w5 ⟨rfl,hW5,hK5⟩;rw[<-hst.out]at hW5;have hW5h:=Hd hW5;have hK5h:=Hd (hKa.out.trans hK5);clear hW5 hK5 hcall;go_wp2_with fail
    go_roundw
    case rel=>exact⟨k+1,by omega,by go_num,hW5h,hK5h⟩
    case measure=>simp[intOf];omega
   ·have hk2:k=n1:=by omega
    have hWn:Wr wr w2.heap.size w2.heap.size (P1++g.vs.flatMap vB) false:=by
     have e:=hWk.out;rw[List.take_of_length_le (by rw[hk2,hn1.out];exact Nat.le_refl _)]at e;exact e
    have i1:¬(k:Int)<(n1:Int):=by omega
    obtain⟨d0,d1,d2⟩:=hc3.out wr hKk.out;have hll:(g.vs.flatMap vB).length<=18*n1:=by
     have e:=lv.out g.vs.length;rw[List.take_of_length_le (Nat.le_refl _),<-hn1.out]at e;exact e
    have hk1:=Hd (one_any w2.heap.size w2.heap.size _ (n2:Int) wr hWn (by unfold inP;omega) (by rw[List.length_append];omega));obtain⟨P2,hP2⟩:∃P2,Hid (P2=P1++g.vs.flatMap vB++putL (n2:Int)):=⟨_,rfl⟩;have hP2l:P2.length<=1000:=by rw[hP2.out,List.length_append,List.length_append];have:=(putL_len (n2:Int)).2;omega
    rw[<-hP2.out]at hk1;clear hk2 hWn hWk hll;go_wp2_with fail;with_reducible refine hk1.out.mono ?_
    rintro e w5 ⟨rfl,hW5,hK5⟩;have hW5h:=Hd hW5;have hK5h:=Hd (hKk.out.trans hK5);obtain⟨d0,d1,d2⟩:=hc3.out w5 hK5h.out;clear hk1 hW5 hK5 hKk;go_wp2_with fail
    go_loopw [35] (fun i wr=>∃k:Nat,k<=n2/\i= .int .i64 k/\Hid (Wr wr w2.heap.size w2.heap.size (P2++(g.es.take k).flatMap eB) false)/\Hid (KW w2.heap.size w3 wr)) (fun i _=>n2-(intOf i).toNat)
    case atStart=>exact⟨0,by omega,rfl,by simpa using hW5h,hK5h⟩
    case round =>
     obtain⟨k,hk,rfl,hWk,hKk⟩:=hrel;by_cases hlt:k<n2
     ·have hkl:k<g.es.length:=by rw[<-hn2.out];exact hlt
      obtain⟨bv,ov,cv,he,hat⟩:=cE.out k hkl;injection he with he1 he2 he3
      subst he1 he3;obtain⟨q0,q1,q2,q3,q4,q5⟩:=hat wr (hbw.out wr hKk.out);have i0:(0:Int)<=(k:Int):=by omega
      have i1:(k:Int)<(n2:Int):=by omega
      have hin:=Hd (hOh.out.inE g.es[k] (List.getElem_mem hkl));have hst:Hid (P2++(g.es.take (k+1)).flatMap eB=P2++(g.es.take k).flatMap eB++eB g.es[k]):=by
       show _=_;rw[flat_take g.es eB k hkl,List.append_assoc]
      obtain⟨wa,hwa⟩:∃wa,wa=wr.alloc (.cells (edCells g.es[k]) 31):=⟨_,rfl⟩;have hba:Below wr.heap.size wr wa:=by rw[hwa];exact(Below.refl _ _).alloc (Nat.le_refl _) _
      have hlk:=le.out k;have hcall:=Hd (we_good w2.heap.size w2.heap.size (P2++(g.es.take k).flatMap eB) g.es[k] wa (hWk.out.below hba) hin.out (by rw[List.length_append];omega));have hKa:=Hd (hKk.out.trans (KW.of hba hWk.out.base));have hEd:EdAt wa wr.heap.size 0 g.es[k]:=by rw[hwa];exact EdAt.box wr _ 31
      simp only[EdAt,Nat.zero_add]at hEd;obtain⟨y0,y1,y2,y3,y4,y5⟩:=hEd;have hwah:=Hd hwa;rw[hwa]at y0 y1 y2 y3 y4 y5;clear hat hba hwa hlk hin;generalize (g.es.take k).flatMap eB=Lk at *
      generalize g.es[k]=u at *
      unfold edCells at hwah hcall y0 y1 y2 y3 y4 y5;go_wp2_with fail;rw[<-hwah.out];with_reducible refine hcall.out.mono ?_
      rintro e w6 ⟨rfl,hW6,hK6⟩;rw[<-hst.out]at hW6;have hW6h:=Hd hW6;have hK6h:=Hd (hKa.out.trans hK6);clear hW6 hK6 hcall;go_wp2_with fail
      go_roundw
      case rel=>exact⟨k+1,by omega,by go_num,hW6h,hK6h⟩
      case measure=>simp[intOf];omega
     ·have hk2:k=n2:=by omega
      have hWn:Wr wr w2.heap.size w2.heap.size (P2++g.es.flatMap eB) false:=by
       have e:=hWk.out;rw[List.take_of_length_le (by rw[hk2,hn2.out];exact Nat.le_refl _)]at e;exact e
      have i1:¬(k:Int)<(n2:Int):=by omega
      obtain⟨d0,d1,d2⟩:=hc3.out wr hKk.out;have hll:(g.es.flatMap eB).length<=54*n2:=by
       have e:=le.out g.es.length;rw[List.take_of_length_le (Nat.le_refl _),<-hn2.out]at e;exact e
      have hcall:=Hd (wl_good w2.heap.size w2.heap.size _ (.slice c1 n3 c2) g.ds wr hWn (fun W K=>by rw[hn3.out];exact h3h.out.below (hbw.out W (hKk.out.trans K))) (fun n hn=>hOh.out.inD n hn) (by rw[<-hn3.out];omega) (by rw[List.length_append];omega));have hres:=Hd (fun(W:World) (hW:Wr W w2.heap.size w2.heap.size (P2++g.es.flatMap eB++lB g.ds) false)=>wresult_any w2.heap.size w2.heap.size _ false W hW);have hE:Hid (P2++g.es.flatMap eB++lB g.ds=encB g):=by
       show _=_;rw[hP2.out,hP1.out,hencB.out,<-hn1.out,<-hn2.out]
      rw[hE.out]at hcall;rw[hE.out]at hres;clear hk2 hWn hWk hll hE;go_wp2_with fail;with_reducible refine hcall.out.mono ?_
      rintro e w6 ⟨rfl,hW6,hK6⟩;have hr6:=Hd (hres.out w6 hW6);have hK6h:=Hd (hKk.out.trans hK6);clear hcall hres hW6 hK6;go_wp2_with fail;with_reducible refine hr6.out.mono ?_
      rintro e w7 ⟨rfl,hb7⟩;have hf:=Hd (hP.out w7 ((hbw.out w6 hK6h.out).trans (hb7.mono (by omega))));clear hb7 hr6;go_wp2_with fail;refine bodyPost_ret (results_tmp2 rfl _ _ _) rfl ?_;exact hf.out
end Go.Proofs.YtlaldnlgapeckaaGreat
