/- Facts. -/
import Derived.Test.YtlaldnlgapeckaaGreatVYDo
import Derived.Test.YtlaldnlgapeckaaGreatVYDr
set_option linter.unusedSimpArgs false
set_option maxRecDepth 100000
set_option maxHeartbeats 4000000
namespace Go.Proofs.YtlaldnlgapeckaaGreat
open Go.RowKit
/-! ### Histories -/
def runF(g:Gr):List Ch->Option Gr
 | []=>some g
 | c::t=>match actF g c with
  | none=>none
  | some (g',_)=>runF g' t
def stopF(g:Gr):List Ch->Nat
 | []=>0
 | c::t=>match actF g c with
  | none=>0
  | some (g',_)=>stopF g' t+1
def LieC(W:World)(b o:Nat)(l:List Ch):Prop:=∀(j:Nat) c,l[j]?=some c-> ∃x y,(∀i u,(chCells c x y)[i]?=some u->W.cell? ⟨b,o+j*13+i,none⟩=some u)/\DL W x c.ends/\DL W y c.deps
def LC(W:World)(v:Value)(l:List Ch):Prop :=
 (l=[]/\ ∃a c,v= .slice a 0 c)\/(l≠[]/\ ∃b o c,v= .slice (some ⟨b,o,none⟩) l.length c/\l.length<=c/\b<W.heap.size/\LieC W b o l)
theorem LieC.below{W W':World}{b o:Nat}{l:List Ch}(h:LieC W b o l)(hb:b<W.heap.size)(B:Below W.heap.size W W'):LieC W' b o l:=fun j c e=>by
 obtain⟨x,y,h1,h2,h3⟩:=h j c e;exact⟨x,y,fun i u hu=>by rw[B.cell (p:=⟨b,o+j*13+i,none⟩) hb];exact h1 i u hu,h2.below B,h3.below B⟩
theorem LC.below{W W':World}{v:Value}{l:List Ch}(h:LC W v l)(B:Below W.heap.size W W'):LC W' v l:=by
 rcases h with h|⟨h1,b,o,c,h2,h3,h4,h5⟩
 ·exact .inl h
 ·exact .inr ⟨h1,b,o,c,h2,h3,Nat.lt_of_lt_of_le h4 B.size,h5.below h4 B⟩
theorem LC.shape{W:World}{v:Value}{l:List Ch}(h:LC W v l):∃a c,v= .slice a l.length c:=by
 rcases h with⟨rfl,a,c,rfl⟩|⟨_,b,o,c,rfl,_⟩
 ·exact⟨_,_,rfl⟩
 ·exact⟨_,_,rfl⟩
def ChAt(W:World)(b o:Nat)(c:Ch)(x y:Value):Prop:=∀i u,(chCells c x y)[i]?=some u->W.cell? ⟨b,o+i,none⟩=some u
theorem ChAt.cells{W:World}{b o:Nat}{c:Ch}{x y:Value}(h:ChAt W b o c x y):
  W.cell? ⟨b,o,none⟩=some (.int .i64 c.kind)/\W.cell? ⟨b,o+1,none⟩=some (.int .i64 c.v.id)/\W.cell? ⟨b,o+2,none⟩=some (.int .i64 c.v.side)/\W.cell? ⟨b,o+3,none⟩=some (.int .i64 c.e.id)/\W.cell? ⟨b,o+4,none⟩=some (.int .i64 c.e.src) /\
  W.cell? ⟨b,o+5,none⟩=some (.int .i64 c.e.dst)/\W.cell? ⟨b,o+6,none⟩=some (.bool c.e.dir)/\W.cell? ⟨b,o+7,none⟩=some (.int .i64 c.e.wt)/\W.cell? ⟨b,o+8,none⟩=some (.int .i64 c.e.cap)/\W.cell? ⟨b,o+9,none⟩=some (.int .i64 c.id) /\
  W.cell? ⟨b,o+10,none⟩=some (.int .i64 c.n)/\W.cell? ⟨b,o+11,none⟩=some x/\W.cell? ⟨b,o+12,none⟩=some y :=
 ⟨h 0 _ rfl,h 1 _ rfl,h 2 _ rfl,h 3 _ rfl,h 4 _ rfl,h 5 _ rfl,h 6 _ rfl,h 7 _ rfl,h 8 _ rfl,h 9 _ rfl,h 10 _ rfl,h 11 _ rfl,h 12 _ rfl⟩
theorem LC.at_{W:World}{v:Value}{l:List Ch}(h:LC W v l)(k:Nat)(hk:k<l.length):∃b o c x y,v= .slice (some ⟨b,o,none⟩) l.length c/\b<W.heap.size/\ChAt W b (o+k*13) l[k] x y/\DL W x l[k].ends/\DL W y l[k].deps:=by
 rcases h with⟨rfl,_⟩|⟨_,b,o,c,h1,_,h2,h3⟩
 ·simp at hk
 ·obtain⟨x,y,q1,q2,q3⟩:=h3 k _ (List.getElem?_eq_getElem hk);exact⟨b,o,c,x,y,h1,h2,q1,q2,q3⟩
theorem zG_all:zG.all (·.oneCell')=true:=by simp[zG,nilS,Value.oneCell']
theorem al_keep{W:World}{k:Nat}{o p:Obj}(h:W.heap[k]?=some o):(W.alloc p).heap[k]?=some o:=by
 rw[Below.heap_alloc _ _ _ (Array.getElem?_eq_some_iff.1 h).1];exact h
theorem below_setRow'{W W':World}{B b:Nat}(h:Below B W W')(hb:B<=b)(cs:Array Value):Below B W (W'.setRow b cs) :=
 h.trans ⟨rfl,rfl,rfl,by simp,fun k hk=>setRow_other W' b k _ (by omega)⟩
theorem info26':(Tryz.prog.info? 26).map (·.size)=some zG.size:=size26
def AllPost(g:Gr)(l:List Ch)(w:World)(e:Ending)(w':World):Prop :=
 Below w.heap.size w w'/\match (if g.ok=true then runF g l else none)with
  | none=>e= .returned (.tuple #[.agg zG,.int .i64 (if g.ok=true then(stopF g l:Nat)else(0:Nat)),.int .i64 30])
  | some g'=>∃a b c,e= .returned (.tuple #[.agg #[a,b,c],.int .i64 (l.length:Nat),.int .i64 0])/\OwnV w' w.heap.size a g'.vs/\OwnEd w' w.heap.size b g'.es/\OwnI w' w.heap.size c g'.ds
theorem results_cell_tmp2_row{P:Program}{fn:Func}{p q r:Tmp}{ty:TypeId}(h:fn.results= #[.cell p ty,.tmp q,.tmp r])(tmps:Array Value)(w:World)(g:Nat)(t:TypeId)(cs:Array Value)(fr:Nat × Nat)(d:TypeDesc)(u v:Value)
  (hp:tmps.getD p undef= .pointer (some ⟨g,0,none⟩)) (hq:tmps.getD q undef=u) (hr:tmps.getD r undef=v) (hg:w.heap[g]?=some (.cells cs t fr))
  (hu:P.underlying ty=some d) (hd:(match d with| .struct _| .array _ _=>true|_=>false)=true) (hi:(P.info? ty).map (·.size)=some cs.size) :
  (results fn tmps).run P w= .ok (.tuple #[.agg cs,u,v]) w:=by
 have hp':tmps[p]?.getD undef= .pointer (some ⟨g,0,none⟩):=by simpa using hp
 have hq':tmps[q]?.getD undef=u:=by simpa using hq
 have hr':tmps[r]?.getD undef=v:=by simpa using hr
 simp[results,h,hp',hq',hr',asAddr,run_loadVar_row w g t ty cs fr d hg hu hd hi]
theorem ApplyAll_any(v vl:Value)(g:Gr)(l:List Ch)(w:World)(hv:GV w v g)(hl:LC w vl l)(hn:g.vs.length<=1000000/\g.es.length<=1000000/\g.ds.length<=1000000)(hm:l.length<=1000000)(hs:∀c∈l,c.ends.length<=1000000/\c.deps.length<=1000000):
  Calls Tryz.prog 24 #[v,vl] w (AllPost g l w):=by
 obtain⟨a,b,c,rfl,h1,h2,h3⟩:=hv;obtain⟨w1,hw1⟩:∃w1,w1=(w.alloc (.cells #[a,b,c] 26)).alloc (.cells zG 26):=⟨_,rfl⟩;have z1:w1.heap.size=w.heap.size+2:=by rw[hw1];simp
 have B1:Below w.heap.size w w1:=by rw[hw1];exact((Below.refl _ w).alloc (Nat.le_refl _) _).alloc (by simp) _
 have g0:w1.heap[w.heap.size]?=some (.cells #[a,b,c] 26 (0,0)):=by
  rw[hw1,Below.heap_alloc _ _ _ (by simp)];exact heap_alloc_new w _
 have g1:w1.heap[w.heap.size+1]?=some (.cells zG 26 (0,0)):=by
  rw[hw1];have:=heap_alloc_new (w.alloc (.cells #[a,b,c] 26)) (.cells zG 26);simpa using this
 have hcell:=Hd (fun(W:World) (b0:Below w1.heap.size w1 W)=>show W.cell? ⟨w.heap.size,0,none⟩=some a/\W.cell? ⟨w.heap.size,1,none⟩=some b/\W.cell? ⟨w.heap.size,2,none⟩=some c from by
  have q:=(b0.block w.heap.size (by omega)).trans g0;exact⟨by rw[cell_of_row _ _ _ _ _ _ q];rfl,by rw[cell_of_row _ _ _ _ _ _ q];rfl,by rw[cell_of_row _ _ _ _ _ _ q];rfl⟩)
 have hrx:=Hd (fun(W:World) (b0:Below w1.heap.size w1 W)=>(b0.block (w.heap.size+1) (by omega)).trans g1);have hgv:=Hd (fun(W:World) (b0:Below w1.heap.size w1 W)=>show GV W (.agg #[a,b,c]) g from⟨a,b,c,rfl,(h1.below B1).below b0,(h2.below B1).below b0,(h3.below B1).below b0⟩);have k1:=Hd (fun(W:World) (b0:Below w1.heap.size w1 W)=>Valid_any _ g W (hgv.out W b0) ⟨by omega,by omega,by omega⟩);have k2:=Hd (fun(W:World) (b0:Below w1.heap.size w1 W)=>draftOf_any _ g W (hgv.out W b0) hn);have hlc:=Hd (fun(W:World) (b0:Below w.heap.size w W)=>hl.below b0);obtain⟨la,lc,hle⟩:=hl.shape;obtain⟨a1,a2,rfl⟩:=h1.shape;obtain⟨b1,b2,rfl⟩:=h2.shape;obtain⟨c1,c2,rfl⟩:=h3.shape;have hw1h:=Hd hw1;unfold zG nilS at hw1h;cases hok:g.ok with
 | false =>
  rw[hok]at k1;have hpost:Hid (∀W,Below w.heap.size w W->AllPost g l w (.returned (.tuple #[.agg zG,.int .i64 0,.int .i64 30])) W):=fun W bW=>⟨bW,by rw[hok];rfl⟩;have c0:=hcell.out w1 (Below.refl _ _);subst hle;clear hw1 g0 g1 h1 h2 h3 hl k2 hgv;generalize g.vs.length=n1 at *
  generalize g.es.length=n2 at *
  generalize g.ds.length=n3 at *
  obtain⟨c0,c1,c2⟩:=c0;rw[hw1h.out]at c0 c1 c2;go_enter Tryz.func24,Tryz.ntmps24;go_wp2_with fail;rw[<-hw1h.out];with_reducible refine(k1.out w1 (Below.refl _ _)).mono ?_
  rintro e w2 ⟨rfl,hq⟩;have r2:=hrx.out w2 hq
  go_wp2_with (refine wpList_store_row rfl 26 (.tmp 4) (.tmp 15) rfl (w.heap.size+1) zG rfl rfl 26 _ r2 info26' rfl (by simp[zG,nilS,Value.oneCell']) ?_)
  refine bodyPost_ret (results_cell_tmp2_row (fn:=Tryz.f24) rfl _ _ (w.heap.size+1) 26 zG (0,0) _ _ _ rfl rfl rfl (setRow_heap _ _ _ _ _ _ r2) Tryz.underlying26 rfl info26') rfl ?_;exact hpost.out _ (below_setRow' (B1.trans (hq.mono B1.size)) (by omega) _)
 | true =>
  rw[hok]at k1;have hgO:Ok g:=(ok_iff g).1 hok;have cellC:=Hd (show ∀(k:Nat) (hk:k<l.length),∃b o x y,la=some ⟨b,o,none⟩/\ ∀W,Below w.heap.size w W->ChAt W b (o+k*13) l[k] x y/\DL W x l[k].ends/\DL W y l[k].deps from fun k hk=>by
   obtain⟨b,o,c',x,y,he,hb,q1,q2,q3⟩:=hl.at_ k hk;rw[hle]at he;injection he with he
   exact⟨b,o,x,y,he,fun W B=>⟨fun i u hu=>by rw[B.cell (p:=⟨b,o+k*13+i,none⟩) hb];exact q1 i u hu,q2.below B,q3.below B⟩⟩)
  have hsh:=Hd hs;have hpN:Hid (∀W (k:Nat),Below w.heap.size w W->runF g l=none->stopF g l=k->AllPost g l w (.returned (.tuple #[.agg zG,.int .i64 (k:Nat),.int .i64 30])) W):=fun W k bW hr hst=>⟨bW,by rw[hok,if_pos rfl,hr,if_pos rfl,hst]⟩;have hpS:Hid (∀W g' (x y z:Value),Below w.heap.size w W->runF g l=some g'->OwnV W w.heap.size x g'.vs->OwnEd W w.heap.size y g'.es->OwnI W w.heap.size z g'.ds->AllPost g l w (.returned (.tuple #[.agg #[x,y,z],.int .i64 (l.length:Nat),.int .i64 0])) W):=fun W g' x y z bW hr o1 o2 o3=>⟨bW,by rw[hok,if_pos rfl,hr];exact⟨x,y,z,rfl,o1,o2,o3⟩⟩;obtain⟨N,hN⟩:∃N,Hid (N=l.length):=⟨_,rfl⟩;rw[<-hN.out]at hle hm hpS;have c0:=hcell.out w1 (Below.refl _ _);subst hle;clear hw1 g0 g1 h1 h2 h3 hl hgv hok hs;generalize g.vs.length=n1 at *
  generalize g.es.length=n2 at *
  generalize g.ds.length=n3 at *
  obtain⟨c0,c1,c2⟩:=c0;rw[hw1h.out]at c0 c1 c2;go_enter Tryz.func24,Tryz.ntmps24;go_wp2_with fail;rw[<-hw1h.out];with_reducible refine(k1.out w1 (Below.refl _ _)).mono ?_
  rintro e w2 ⟨rfl,hq⟩;obtain⟨c0,c1,c2⟩:=hcell.out w2 hq;go_wp2_with fail;with_reducible refine(k2.out w2 hq).mono ?_
  rintro e w3 ⟨db,rfl,hD0,hb3⟩;have s2:=hq.size;have hB3:=Hd (B1.trans ((hq.trans (hb3.mono hq.size)).mono B1.size));have hrx3:=Hd (hrx.out w3 (hq.trans (hb3.mono hq.size)));have hDh:=Hd hD0;clear k1 k2 hcell hrx hb3 hq hD0 c0 c1 c2;go_wp2_with fail
  go_loopw [20] (fun i wr=>∃(k:Nat) (gk:Gr),k<=N/\i= .int .i64 k/\Hid (runF g l=runF gk (l.drop k)/\stopF g l=k+stopF gk (l.drop k))/\Hid (Draft wr w2.heap.size db gk)/\Hid (Ok gk)/\Hid (KD w2.heap.size w3 wr)) (fun i _=>N-(intOf i).toNat)
  case atStart=>exact⟨0,g,by omega,rfl,⟨rfl,by simp⟩,hDh.out,hgO,KD.refl _ _⟩
  case round =>
   obtain⟨k,gk,hk,rfl,hrun,hD,hO,hK⟩:=hrel;have hBw:=Hd (fun(W:World) (b0:Below w2.heap.size wr W)=>show Below w.heap.size w W from hB3.out.trans ((hK.out.below.trans b0).mono (by omega)));by_cases hlt:k<N
   ·have hkl:k<l.length:=by rw[<-hN.out];exact hlt
    obtain⟨cb,co,x,y,rfl,hch⟩:=cellC.out k hkl;have hcv:=Hd hch;obtain⟨d0,d1,d2,d3,d4,d5,d6,d7,d8,d9,d10,d11,d12⟩:=(hch wr (hBw.out wr (Below.refl _ _))).1.cells;obtain⟨x1,x2,hxe⟩:=(hch w (Below.refl _ _)).2.1.shape;obtain⟨y1,y2,hye⟩:=(hch w (Below.refl _ _)).2.2.shape;obtain⟨vv,ev,dv,mv,hDr⟩:=hD.out;have i0:(0:Int)<=(k:Int):=by omega
    have i1:(k:Int)<(N:Int):=by omega
    have hdr:Hid (runF gk (l.drop k)=(match actF gk l[k]with|none=>none|some (g',_)=>runF g' (l.drop (k+1)))/\stopF gk (l.drop k)=(match actF gk l[k]with|none=>0|some (g',_)=>stopF g' (l.drop (k+1))+1)):=by
     show _/\_;rw[List.drop_eq_getElem_cons hkl];exact⟨rfl,rfl⟩
    obtain⟨wa,hwa⟩:∃wa,wa=wr.alloc (.cells (chCells l[k] x y) 33):=⟨_,rfl⟩;have ba:Below wr.heap.size wr wa:=by rw[hwa];exact(Below.refl _ wr).alloc (Nat.le_refl _) _
    have hbase:=hDr.base;have hbox:wa.heap[wr.heap.size]?=some (.cells (chCells l[k] x y) 33 (0,0)):=by rw[hwa];exact heap_alloc_new wr _
    have hdo:=Hd (do_any w2.heap.size db vv ev dv mv gk (.agg (chCells l[k] x y)) l[k] wa (hDr.below ba) hO.out (fun W K=>⟨x,y,rfl,(hch W (hBw.out W ((ba.mono hbase).trans K.below))).2⟩) (hsh.out _ (List.getElem_mem hkl)));have hac:=Hd (act_ok gk l[k]);have hKa:=Hd (hK.out.trans (KD.of ba hbase));obtain⟨e0,e1,e2,e3,e4,e5,e6,e7,e8,e9,e10,e11,e12⟩:=ch_cells hbox;have hwah:=Hd hwa;rw[hwa]at e0 e1 e2 e3 e4 e5 e6 e7 e8 e9 e10 e11 e12;unfold chCells at hwah hdo e0 e1 e2 e3 e4 e5 e6 e7 e8 e9 e10 e11 e12;generalize actF gk l[k]=R at *
    generalize l[k]=c at *
    subst hxe hye;generalize c.ends.length=ce at *
    generalize c.deps.length=cd at *
    clear hch hwa hbox hDr hD ba hcv;go_wp2_with fail;rw[<-hwah.out];with_reducible refine hdo.out.mono ?_
    rintro e w5 ⟨hk5,hr5⟩;have r5:=(hKa.out.trans hk5).below.block (w.heap.size+1) (by omega) |>.trans hrx3.out;have hB5:=Hd (hBw.out _ (Below.refl _ _));have hB6:=Hd (hB3.out.trans ((hKa.out.trans hk5).below.mono (by omega)));have hKn:=Hd (hKa.out.trans hk5);have hs5:w2.heap.size<=w5.heap.size:=by
     have q1:=hk5.below.size;have q2:=hDh.out;obtain⟨_,_,_,_,q3⟩:=q2;have q4:=hKa.out.below.size;have q5:=q3.base;omega
    clear hk5;cases R with
    | none =>
     have hx:=hrun.out;rw[hdr.out.1,hdr.out.2]at hx;have hfin:=Hd (fun W (bW:Below w.heap.size w W)=>hpN.out W k bW hx.1 (by rw[hx.2];rfl));have he5:e= .returned (.tuple #[.agg zCells,.bool false]):=hr5;unfold zCells chCells zC zV zE nilS at he5;subst he5;clear hr5 hx hdr hrun hac
     go_wp2_with (refine wpList_store_row rfl 26 (.tmp 4) (.tmp 33) rfl (w.heap.size+1) zG rfl rfl 26 _ (al_keep r5) info26' rfl zG_all ?_)
     refine bodyPost_ret (results_cell_tmp2_row (fn:=Tryz.f24) rfl _ _ (w.heap.size+1) 26 zG (0,0) _ _ _ rfl rfl rfl (setRow_heap _ _ _ _ _ _ (al_keep r5)) Tryz.underlying26 rfl info26') rfl ?_;exact hfin.out _ (below_setRow' (hB6.out.alloc (by omega) _) (by omega) _)
    | some p =>
     obtain⟨g',u⟩:=p;obtain⟨ua,ub,he5,hD5,ho1,ho2⟩:=(hr5:∃a b,e= .returned (.tuple #[.agg (chCells u a b),.bool true])/\Draft w5 w2.heap.size db g'/\OwnI w5 0 a u.ends/\OwnI w5 0 b u.deps);obtain⟨q1,q2,rfl⟩:=ho1.DL.shape;obtain⟨q3,q4,rfl⟩:=ho2.DL.shape;have hx:=hrun.out;rw[hdr.out.1,hdr.out.2]at hx;have hx2:Hid (runF g l=runF g' (l.drop (k+1))/\stopF g l=k+1+stopF g' (l.drop (k+1))):=⟨hx.1,by rw[hx.2];simp only[];omega⟩;have hO5:=Hd (hac.out g' u hO.out rfl);have hD6:=Hd hD5;unfold chCells at he5;subst he5;generalize u.ends.length=ue at *
     generalize u.deps.length=ud at *
     clear hx hdr hrun hac ho1 ho2 hD5 hO;go_wp2_with fail
     go_roundw
     case rel =>
      obtain⟨vv',ev',dv',mv',hq⟩:=hD6.out;exact⟨k+1,g',by omega,by go_num,hx2,⟨vv',ev',dv',mv',hq.below ((Below.refl _ _).alloc (Nat.le_refl _) _)⟩,hO5,hKn.out.trans (KD.of ((Below.refl _ _).alloc (Nat.le_refl _) _) hs5)⟩
     case measure=>simp[intOf];omega
   ·have hk2:k=N:=by omega
    obtain⟨vv,ev,dv,mv,hDr⟩:=hD.out;have hf:Hid (runF g l=some gk):=by
     show _=_;have h:=hrun.out.1;rw[List.drop_of_length_le (by rw[hk2,hN.out];exact Nat.le_refl _)]at h;exact h
    have i1:¬(k:Int)<(N:Int):=by omega
    obtain⟨v1,v2,rfl⟩:=hDr.v.VL.shape;obtain⟨e1,e2,rfl⟩:=hDr.e.EL.shape;obtain⟨d1,d2,rfl⟩:=hDr.d.DL.shape;have c0:=hDr.cells;have r5:=hK.out.below.block (w.heap.size+1) (by omega) |>.trans hrx3.out;have hB5:=Hd (hBw.out _ (Below.refl _ _));have hDrh:=Hd hDr;generalize hn1':gk.vs.length=m1 at *
    generalize hn2':gk.es.length=m2 at *
    generalize hn3':gk.ds.length=m3 at *
    have hfin:=Hd (fun(x y z:Value) (o1:OwnV wr w2.heap.size x gk.vs) (o2:OwnEd wr w2.heap.size y gk.es) (o3:OwnI wr w2.heap.size z gk.ds)=>hpS.out (wr.setRow (w.heap.size+1) #[x,y,z]) gk x y z (below_setRow' hB5.out (by omega) _) hf.out (own_row26 (own_le o1 (by omega)) (by decide) r5 _) (own_row26 (own_le o2 (by omega)) (by decide) r5 _) (own_row26 (own_le o3 (by omega)) (by decide) r5 _));clear hk2 hDr hn1' hn2' hn3' hrun hD hO;obtain⟨c0,c1,c2,c3⟩:=c0
    go_wp2_with (refine wpList_store_row rfl 26 (.tmp 4) (.tmp 39) rfl (w.heap.size+1) #[.slice v1 m1 v2,.slice e1 m2 e2,.slice d1 m3 d2] rfl rfl 26 _ r5 size26 rfl (by simp[Value.oneCell']) ?_)
    refine bodyPost_ret (results_cell_tmp2_row (fn:=Tryz.f24) rfl _ _ (w.heap.size+1) 26 #[.slice v1 m1 v2,.slice e1 m2 e2,.slice d1 m3 d2] (0,0) _ _ _ rfl rfl rfl (setRow_heap _ _ _ _ _ _ r5) Tryz.underlying26 rfl size26) rfl ?_;exact hfin.out _ _ _ hDrh.out.v hDrh.out.e hDrh.out.d
def exG:Gr:=⟨[⟨0,0⟩,⟨1,0⟩,⟨2,0⟩],[⟨0,0,1,false,5,0⟩,⟨1,1,2,false,7,0⟩],[]⟩
def cEx3:Array Value:= #[.int .i64 0,.int .i64 0,.int .i64 1,.int .i64 0,.int .i64 2,.int .i64 0]
def cEx2:Array Value:= #[.int .i64 0,.int .i64 0,.int .i64 1,.bool false,.int .i64 5,.int .i64 0,.int .i64 1,.int .i64 1,.int .i64 2,.bool false,.int .i64 7,.int .i64 0]
theorem al3(w:World)(o1 o2 o3:Obj):let W:=((w.alloc o1).alloc o2).alloc o3
  W.heap[w.heap.size]?=some o1/\W.heap[w.heap.size+1]?=some o2/\W.heap[w.heap.size+1+1]?=some o3/\Below w.heap.size w W/\W.heap.size=w.heap.size+3:=by
 intro W;refine⟨al_keep (al_keep (heap_alloc_new w o1)),?_,?_,(((Below.refl _ w).alloc (Nat.le_refl _) _).alloc (by simp) _).alloc (by simp;omega) _,by simp[W]⟩
 ·have:=heap_alloc_new (w.alloc o1) o2;simp only[World.size_alloc]at this;exact al_keep this
 ·have:=heap_alloc_new ((w.alloc o1).alloc o2) o3;simp only[World.size_alloc]at this;exact this
theorem ex_GV(W:World)(k:Nat)(h1:W.heap[k]?=some (.cells cEx3 29 (0,0)))(h2:W.heap[k+1]?=some (.cells cEx2 31 (0,0))):
  GV W (.agg #[.slice (some ⟨k,0,none⟩) 3 3,.slice (some ⟨k+1,0,none⟩) 2 2,.slice none 0 0]) exG:=by
 refine⟨_,_,_,rfl,.inr ⟨by simp[exG],k,0,3,rfl,by simp[exG],(Array.getElem?_eq_some_iff.1 h1).1,?_⟩,.inr ⟨by simp[exG],k+1,0,2,rfl,by simp[exG],(Array.getElem?_eq_some_iff.1 h2).1,?_⟩,.inl ⟨rfl,_,_,rfl⟩⟩
 ·intro j v hj;have c:=fun i=>cell_of_row W k i _ _ _ h1
  match j,hj with
  | 0,hj=>simp[exG]at hj;subst hj;exact⟨by rw[c];rfl,by rw[c];rfl⟩
  | 1,hj=>simp[exG]at hj;subst hj;exact⟨by rw[c];rfl,by rw[c];rfl⟩
  | 2,hj=>simp[exG]at hj;subst hj;exact⟨by rw[c];rfl,by rw[c];rfl⟩
  | j+3,hj=>simp[exG]at hj
 ·intro j v hj;have c:=fun i=>cell_of_row W (k+1) i _ _ _ h2
  match j,hj with
  | 0,hj=>simp[exG]at hj;subst hj;exact⟨by rw[c];rfl,by rw[c];rfl,by rw[c];rfl,by rw[c];rfl,by rw[c];rfl,by rw[c];rfl⟩
  | 1,hj=>simp[exG]at hj;subst hj;exact⟨by rw[c];rfl,by rw[c];rfl,by rw[c];rfl,by rw[c];rfl,by rw[c];rfl,by rw[c];rfl⟩
  | j+2,hj=>simp[exG]at hj
set_option maxHeartbeats 1000000 in
theorem example_any(w:World):Calls Tryz.prog 46 #[] w fun e w'=>∃x1 x2 x3 x4,e= .returned (.agg #[.slice x1 3 x2,.slice x3 2 x4,.slice none 0 0])/\GV w' (.agg #[.slice x1 3 x2,.slice x3 2 x4,.slice none 0 0]) exG/\Below w.heap.size w w':=by
 obtain⟨h1,h2,h3,h4,_⟩:=al3 w (.cells #[.slice (some ⟨w.heap.size+1,0,none⟩) 3 3,.slice (some ⟨w.heap.size+1+1,0,none⟩) 2 2,.slice none 0 0] 26) (.cells cEx3 29) (.cells cEx2 31);have hg:=Hd (ex_GV _ _ h2 h3);have hB:=Hd h4;have h1:=Hd h1;unfold cEx3 cEx2 at hg hB h1;clear h2 h3 h4;go_enter Tryz.func46,Tryz.ntmps46;go_wp2_with fail;refine bodyPost_ret (v:=_) (results_cell_row (fn:=Tryz.f46) rfl _ _ w.heap.size 26 _ (0,0) _ rfl h1.out Tryz.underlying26 rfl (by kernel_rfl)) rfl ?_;exact⟨_,_,_,_,rfl,hg.out,hB.out⟩
def ApplyPost(g:Gr)(c:Ch)(w:World)(e:Ending)(w':World):Prop :=
 Below w.heap.size w w'/\match (if g.ok=true then actF g c else none)with
  | none=>e= .returned (.tuple #[.agg zG,.int .i64 30])
  | some (g',_)=>∃a b c,e= .returned (.tuple #[.agg #[a,b,c],.int .i64 0])/\OwnV w' w.heap.size a g'.vs/\OwnEd w' w.heap.size b g'.es/\OwnI w' w.heap.size c g'.ds
theorem results_cell_tmp1_row{P:Program}{fn:Func}{p q:Tmp}{ty:TypeId}(h:fn.results= #[.cell p ty,.tmp q])(tmps:Array Value)(w:World)(g:Nat)(t:TypeId)(cs:Array Value)(fr:Nat × Nat)(d:TypeDesc)(u:Value)
  (hp:tmps.getD p undef= .pointer (some ⟨g,0,none⟩)) (hq:tmps.getD q undef=u) (hg:w.heap[g]?=some (.cells cs t fr))
  (hu:P.underlying ty=some d) (hd:(match d with| .struct _| .array _ _=>true|_=>false)=true) (hi:(P.info? ty).map (·.size)=some cs.size) :
  (results fn tmps).run P w= .ok (.tuple #[.agg cs,u]) w:=by
 have hp':tmps[p]?.getD undef= .pointer (some ⟨g,0,none⟩):=by simpa using hp
 have hq':tmps[q]?.getD undef=u:=by simpa using hq
 simp[results,h,hp',hq',asAddr,run_loadVar_row w g t ty cs fr d hg hu hd hi]
theorem Apply_any(v vc:Value)(g:Gr)(c:Ch)(w:World)(hv:GV w v g)(hc:CV w vc c)(hn:g.vs.length<=1000000/\g.es.length<=1000000/\g.ds.length<=1000000)(hs:c.ends.length<=1000000/\c.deps.length<=1000000):
  Calls Tryz.prog 19 #[v,vc] w (ApplyPost g c w):=by
 obtain⟨a,b,d,rfl,h1,h2,h3⟩:=hv;obtain⟨x,y,rfl,hx,hy⟩:=hc;obtain⟨w1,hw1⟩:∃w1,w1=(((w.alloc (.cells #[a,b,d] 26)).alloc (.cells (chCells c x y) 33)).alloc (.cells zG 26)):=⟨_,rfl⟩;have z1:w1.heap.size=w.heap.size+3:=by rw[hw1];simp
 have B1:Below w.heap.size w w1:=by rw[hw1];exact(((Below.refl _ w).alloc (Nat.le_refl _) _).alloc (by simp) _).alloc (by simp;omega) _
 have g0:w1.heap[w.heap.size]?=some (.cells #[a,b,d] 26 (0,0)):=by
  rw[hw1];exact al_keep (al_keep (heap_alloc_new w _))
 have g2:w1.heap[w.heap.size+1]?=some (.cells (chCells c x y) 33 (0,0)):=by
  rw[hw1];refine al_keep ?_;have:=heap_alloc_new (w.alloc (.cells #[a,b,d] 26)) (.cells (chCells c x y) 33);simpa using this
 have g1:w1.heap[w.heap.size+2]?=some (.cells zG 26 (0,0)):=by
  rw[hw1];have:=heap_alloc_new ((w.alloc (.cells #[a,b,d] 26)).alloc (.cells (chCells c x y) 33)) (.cells zG 26);simpa using this
 have hrow:w1.cell? ⟨w.heap.size,0,none⟩=some a/\w1.cell? ⟨w.heap.size,1,none⟩=some b/\w1.cell? ⟨w.heap.size,2,none⟩=some d:=by
  exact⟨by rw[cell_of_row _ _ _ _ _ _ g0];rfl,by rw[cell_of_row _ _ _ _ _ _ g0];rfl,by rw[cell_of_row _ _ _ _ _ _ g0];rfl⟩
 have hd0:=ch_cells g2;obtain⟨w2,hw2⟩:∃w2,w2=w1.alloc (.cells (chCells c x y) 33):=⟨_,rfl⟩;have B2:Below w.heap.size w w2:=by rw[hw2];exact B1.alloc (by omega) _
 have z2:w2.heap.size=w.heap.size+4:=by rw[hw2];simp[z1]
 have hg2:w2.heap[w.heap.size+2]?=some (.cells zG 26 (0,0)):=by rw[hw2];exact al_keep g1
 have hk:=Hd (ApplyAll_any (.agg #[a,b,d]) (.slice (some ⟨w.heap.size+1+1+1,0,none⟩) 1 1) g [c] w2 ⟨a,b,d,rfl,h1.below B2,h2.below B2,h3.below B2⟩
  (Or.inr ⟨by simp,w.heap.size+1+1+1,0,1,by simp,by simp,by omega,fun j c' e=>by
   cases j with
   | zero =>
    simp at e;subst e;refine⟨x,y,fun i u hu=>?_,hx.below B2,hy.below B2⟩;have q:w2.heap[w.heap.size+1+1+1]?=some (.cells (chCells c x y) 33 (0,0)):=by
     rw[hw2];have:=heap_alloc_new w1 (.cells (chCells c x y) 33);rw[z1]at this;simpa using this
    simp only[Nat.zero_mul,Nat.zero_add];rw[cell_of_row _ _ _ _ _ _ q];exact hu
   | succ j=>simp at e⟩) hn (by simp) (by simpa using hs))
 have hP:Hid (∀W,Below w.heap.size w W->(if g.ok=true then actF g c else none)=none->ApplyPost g c w (.returned (.tuple #[.agg zG,.int .i64 30])) W):=fun W B e=>⟨B,by rw[e]⟩;have hS:Hid (∀W g' u (x y z:Value),Below w.heap.size w W->(if g.ok=true then actF g c else none)=some (g',u)->OwnV W w.heap.size x g'.vs->OwnEd W w.heap.size y g'.es->OwnI W w.heap.size z g'.ds->ApplyPost g c w (.returned (.tuple #[.agg #[x,y,z],.int .i64 0])) W):=fun W g' u x y z B e o1 o2 o3=>⟨B,by rw[e];exact⟨x,y,z,rfl,o1,o2,o3⟩⟩;have hrun:Hid ((if g.ok=true then runF g [c]else none)=(if g.ok=true then actF g c else none).map (·.1)):=by
  show _=_;cases g.ok with
  | false=>rfl
  | true =>
   rw[if_pos rfl,if_pos rfl];unfold runF;cases actF g c with
   | none=>rfl
   | some p=>rfl
 have hw1h:=Hd hw1;have hw2h:=Hd hw2;unfold zG nilS chCells at hw1h;unfold chCells at hw2h;obtain⟨a1,a2,rfl⟩:=h1.shape;obtain⟨b1,b2,rfl⟩:=h2.shape;obtain⟨c1,c2,rfl⟩:=h3.shape;obtain⟨x1,x2,rfl⟩:=hx.shape;obtain⟨y1,y2,rfl⟩:=hy.shape;unfold chCells;clear g0 g1 g2 hw1 hw2 h1 h2 h3 hx hy hn hs;generalize g.vs.length=n1 at *
 generalize g.es.length=n2 at *
 generalize g.ds.length=n3 at *
 generalize c.ends.length=n4 at *
 generalize c.deps.length=n5 at *
 obtain⟨c0,c1,c2⟩:=hrow;obtain⟨d0,d1,d2,d3,d4,d5,d6,d7,d8,d9,d10,d11,d12⟩:=hd0;rw[hw1h.out]at c0 c1 c2 d0 d1 d2 d3 d4 d5 d6 d7 d8 d9 d10 d11 d12;go_enter Tryz.func19,Tryz.ntmps19;go_wp2_with fail;rw[<-hw1h.out,<-hw2h.out];with_reducible refine hk.out.mono ?_
 rintro e w3 ⟨b3,h3⟩;have r3:=(b3.block (w.heap.size+2) (by omega)).trans hg2;have hB3:=Hd (B2.trans (b3.mono B2.size));rw[hrun.out]at h3;have s3:=b3.size;generalize (if g.ok=true then actF g c else none)=R at *
 clear b3 hk;cases R with
 | none =>
  obtain⟨N,he⟩:∃N:Int,e= .returned (.tuple #[.agg zG,.int .i64 N,.int .i64 30]):=⟨_,h3⟩;have hP2:Hid (∀W,Below w.heap.size w W->ApplyPost g c w (.returned (.tuple #[.agg zG,.int .i64 30])) W):=fun W B=>hP.out W B rfl;unfold zG nilS at he;subst he;clear h3
  go_wp2_with (refine wpList_store_row rfl 26 (.tmp 4) (.tmp 17) rfl (w.heap.size+2) zG rfl rfl 26 _ (al_keep r3) info26' rfl zG_all ?_)
  refine bodyPost_ret (results_cell_tmp1_row (fn:=Tryz.f19) rfl _ _ (w.heap.size+2) 26 zG (0,0) _ _ rfl rfl (setRow_heap _ _ _ _ _ _ (al_keep r3)) Tryz.underlying26 rfl info26') rfl ?_;exact hP2.out _ (below_setRow' (hB3.out.alloc (by omega) _) (by omega) _)
 | some p =>
  obtain⟨g',u⟩:=p;obtain⟨va,ea,da,he,o1,o2,o3⟩:=(h3:∃a b c',e= .returned (.tuple #[.agg #[a,b,c'],.int .i64 ([c].length:Nat),.int .i64 0])/\OwnV w3 w2.heap.size a g'.vs/\OwnEd w3 w2.heap.size b g'.es/\OwnI w3 w2.heap.size c' g'.ds);obtain⟨v1,v2,rfl⟩:=o1.VL.shape;obtain⟨e1,e2,rfl⟩:=o2.EL.shape;obtain⟨l1,l2,rfl⟩:=o3.DL.shape;subst he;have r4:∀o,(w3.alloc o).heap[w.heap.size+2]?=some (.cells zG 26 (0,0)):=fun o=>al_keep r3;have hfin:=Hd (fun(o:Obj) (B:Below w3.heap.size w3 (w3.alloc o)) (x y z:Value) (q1:OwnV w3 w2.heap.size x g'.vs) (q2:OwnEd w3 w2.heap.size y g'.es) (q3:OwnI w3 w2.heap.size z g'.ds)=>hS.out ((w3.alloc o).setRow (w.heap.size+2) #[x,y,z]) g' u x y z (below_setRow' (hB3.out.alloc (by omega) _) (by omega) _) rfl (own_row26 (own_le (own_below q1 B) (by omega)) (by decide) (r4 o) _) (own_row26 (own_le (own_below q2 B) (by omega)) (by decide) (r4 o) _) (own_row26 (own_le (own_below q3 B) (by omega)) (by decide) (r4 o) _));have hO:=Hd (⟨o1,o2,o3⟩:_/\_/\_);generalize g'.vs.length=m1 at *
  generalize g'.es.length=m2 at *
  generalize g'.ds.length=m3 at *
  clear o1 o2 o3
  go_wp2_with (refine wpList_store_row rfl 26 (.tmp 4) (.tmp 17) rfl (w.heap.size+2) #[.slice v1 m1 v2,.slice e1 m2 e2,.slice l1 m3 l2] rfl rfl 26 _ (r4 _) size26 rfl (by simp[Value.oneCell']) ?_)
  refine bodyPost_ret (results_cell_tmp1_row (fn:=Tryz.f19) rfl _ _ (w.heap.size+2) 26 #[.slice v1 m1 v2,.slice e1 m2 e2,.slice l1 m3 l2] (0,0) _ _ rfl rfl (setRow_heap _ _ _ _ _ _ (r4 _)) Tryz.underlying26 rfl size26) rfl ?_;exact hfin.out _ ((Below.refl _ _).alloc (Nat.le_refl _) _) _ _ _ hO.out.1 hO.out.2.1 hO.out.2.2
def InvPost(g:Gr)(c:Ch)(w:World)(e:Ending)(w':World):Prop :=
 Below w.heap.size w w'/\match (if g.ok=true then actF g c else none)with
  | none=>e= .returned (.tuple #[nilS,.int .i64 30])
  | some (_,u)=>∃v,e= .returned (.tuple #[v,.int .i64 0])/\LC w' v [u]
theorem Draft.le{W:World}{B B' db:Nat}{g:Gr}(h:Draft W B db g)(hb:B'<=B):Draft W B' db g:=by
 obtain⟨vv,ev,dv,mv,h⟩:=h;exact⟨vv,ev,dv,mv,by have:=h.hB;omega,h.box,own_le h.v hb,own_le h.e hb,own_le h.d hb,h.m.le hb⟩
theorem Draft.below{W W':World}{B db:Nat}{g:Gr}(h:Draft W B db g)(b:Below W.heap.size W W'):Draft W' B db g:=by
 obtain⟨vv,ev,dv,mv,h⟩:=h;exact⟨vv,ev,dv,mv,h.below b⟩
def DidF(R:Option (Gr × Ch))(W:World)(u:Ch)(a b:Value)(ok:Bool):Prop :=
 match R with
 | none=>ok=false
 | some (_,u')=>ok=true/\u=u'/\OwnI W 0 a u.ends/\OwnI W 0 b u.deps
theorem DidF.below{R:Option (Gr × Ch)}{W W':World}{u:Ch}{a b:Value}{ok:Bool}(h:DidF R W u a b ok)(B:Below W.heap.size W W'):DidF R W' u a b ok:=by
 unfold DidF at *
 cases R with
 | none=>exact h
 | some p=>exact⟨h.1,h.2.1,own_below h.2.2.1 B,own_below h.2.2.2 B⟩
theorem DidF.row33{R:Option (Gr × Ch)}{W:World}{u:Ch}{a b:Value}{ok:Bool}{k:Nat}{cs:Array Value}{fr:Nat × Nat}(h:DidF R W u a b ok)(hb:W.heap[k]?=some (.cells cs 33 fr))(cs':Array Value):DidF R (W.setRow k cs') u a b ok:=by
 unfold DidF at *
 cases R with
 | none=>exact h
 | some p=>exact⟨h.1,h.2.1,h.2.2.1.row33 hb _,h.2.2.2.row33 hb _⟩
theorem did_of{R:Option (Gr × Ch)}{B db:Nat}{w w':World}{e:Ending}(h:ActPost B db w R e w'):
  ∃u x1 n1 x2 y1 n2 y2 ok,e= .returned (.tuple #[.agg (chCells u (.slice x1 n1 x2) (.slice y1 n2 y2)),.bool ok])/\KD B w w'/\DidF R w' u (.slice x1 n1 x2) (.slice y1 n2 y2) ok:=by
 obtain⟨hk,h⟩:=h;cases R with
 | none=>exact⟨zC,none,0,0,none,0,0,false,h,hk,rfl⟩
 | some p =>
  obtain⟨g',u⟩:=p;obtain⟨a,b,rfl,_,o1,o2⟩:=h;obtain⟨a1,a2,rfl⟩:=o1.DL.shape;obtain⟨b1,b2,rfl⟩:=o2.DL.shape;exact⟨u,_,_,_,_,_,_,true,rfl,hk,rfl,rfl,o1,o2⟩
theorem lc_one{W:World}{u:Ch}{a b:Value}(h1:DL W a u.ends)(h2:DL W b u.deps):LC (W.alloc (.cells (chCells u a b) 33)) (.slice (some ⟨W.heap.size,0,none⟩) 1 1) [u]:=by
 have B:Below W.heap.size W (W.alloc (.cells (chCells u a b) 33)):=(Below.refl _ W).alloc (Nat.le_refl _) _;refine Or.inr ⟨by simp,W.heap.size,0,1,by simp,by simp,by simp,fun j c' e=>?_⟩;cases j with
 | zero =>
  simp at e;subst e;refine⟨a,b,fun i t hu=>?_,h1.below B,h2.below B⟩;simp only[Nat.zero_mul,Nat.zero_add];rw[cell_of_row _ _ _ _ _ _ (heap_alloc_new W _)];exact hu
 | succ j=>simp at e
theorem Invert_any(v vc:Value)(g:Gr)(c:Ch)(w:World)(hv:GV w v g)(hc:CV w vc c)(hn:g.vs.length<=1000000/\g.es.length<=1000000/\g.ds.length<=1000000)(hs:c.ends.length<=1000000/\c.deps.length<=1000000):
  Calls Tryz.prog 21 #[v,vc] w (InvPost g c w):=by
 obtain⟨a,b,d,rfl,h1,h2,h3⟩:=hv;obtain⟨x,y,rfl,hx,hy⟩:=hc;obtain⟨w1,hw1⟩:∃w1,w1=(w.alloc (.cells #[a,b,d] 26)).alloc (.cells (chCells c x y) 33):=⟨_,rfl⟩;have z1:w1.heap.size=w.heap.size+2:=by rw[hw1];simp
 have B1:Below w.heap.size w w1:=by rw[hw1];exact(((Below.refl _ w).alloc (Nat.le_refl _) _).alloc (by simp) _)
 have g0:w1.heap[w.heap.size]?=some (.cells #[a,b,d] 26 (0,0)):=by
  rw[hw1];exact al_keep (heap_alloc_new w _)
 have g2:w1.heap[w.heap.size+1]?=some (.cells (chCells c x y) 33 (0,0)):=by
  rw[hw1];have:=heap_alloc_new (w.alloc (.cells #[a,b,d] 26)) (.cells (chCells c x y) 33);simpa using this
 have hcell:=Hd (fun(W:World) (b0:Below w1.heap.size w1 W)=>show(W.cell? ⟨w.heap.size,0,none⟩=some a/\W.cell? ⟨w.heap.size,1,none⟩=some b/\W.cell? ⟨w.heap.size,2,none⟩=some d)/\_ from⟨by
  have q:=(b0.block w.heap.size (by omega)).trans g0;exact⟨by rw[cell_of_row _ _ _ _ _ _ q];rfl,by rw[cell_of_row _ _ _ _ _ _ q];rfl,by rw[cell_of_row _ _ _ _ _ _ q];rfl⟩,ch_cells ((b0.block (w.heap.size+1) (by omega)).trans g2)⟩)
 have hgv:=Hd (fun(W:World) (b0:Below w1.heap.size w1 W)=>show GV W (.agg #[a,b,d]) g from⟨a,b,d,rfl,(h1.below B1).below b0,(h2.below B1).below b0,(h3.below B1).below b0⟩);have k1:=Hd (Valid_any _ g w1 (hgv.out w1 (Below.refl _ _)) ⟨by omega,by omega,by omega⟩);have k2:=Hd (fun(W:World) (b0:Below w1.heap.size w1 W)=>show Calls Tryz.prog 60 #[.agg #[a,b,d]] W fun e w'=>∃db,e= .returned (.pointer (some ⟨db,0,none⟩))/\Hid (Draft w' w1.heap.size db g)/\Below W.heap.size W w' from
  (draftOf_any _ g W (hgv.out W b0) hn).mono (by rintro e w' ⟨db,rfl,hD,hb⟩;exact⟨db,rfl,hD.le b0.size,hb⟩))
 have k3:=Hd (fun(hO:Ok g) (W:World) (db:Nat) (b0:Below w1.heap.size w1 W) (hD:Draft W w1.heap.size db g)=>show Calls Tryz.prog 61 #[.pointer (some ⟨db,0,none⟩),.agg (chCells c x y)] W fun e w'=>∃u x1 n1 x2 y1 n2 y2 ok,e= .returned (.tuple #[.agg (chCells u (.slice x1 n1 x2) (.slice y1 n2 y2)),.bool ok])/\Below w1.heap.size w1 w'/\Hid (KD w1.heap.size W w'/\DidF (actF g c) w' u (.slice x1 n1 x2) (.slice y1 n2 y2) ok)from by
  obtain⟨vv,ev,dv,mv,hq⟩:=hD;refine(do_any w1.heap.size db vv ev dv mv g _ c W hq hO (fun W' K=>⟨x,y,rfl,(hx.below B1).below (b0.trans K.below),(hy.below B1).below (b0.trans K.below)⟩) hs).mono ?_;intro e w' h;obtain⟨u,x1,n1,x2,y1,n2,y2,ok,he,hk,hd⟩:=did_of h;exact⟨u,x1,n1,x2,y1,n2,y2,ok,he,b0.trans hk.below,hk,hd⟩)
 have hw1h:=Hd hw1;have hB1:=Hd B1;unfold chCells at hw1h;obtain⟨a1,a2,rfl⟩:=h1.shape;obtain⟨b1,b2,rfl⟩:=h2.shape;obtain⟨c1,c2,rfl⟩:=h3.shape;obtain⟨x1,x2,rfl⟩:=hx.shape;obtain⟨y1,y2,rfl⟩:=hy.shape;unfold chCells;unfold chCells at k3;have c0:=hcell.out w1 (Below.refl _ _);obtain⟨⟨c0,c1',c2'⟩,_⟩:=c0;cases hok:g.ok with
 | false =>
  have hP:Hid (∀W,Below w.heap.size w W->InvPost g c w (.returned (.tuple #[nilS,.int .i64 30])) W):=fun W B=>⟨B,by rw[hok];rfl⟩;rw[hok]at k1;clear g0 g2 hw1 h1 h2 h3 hx hy hn hs k2 k3 hgv hok B1 hcell;unfold nilS at hP;generalize g.vs.length=n1 at *
  generalize g.es.length=n2 at *
  generalize g.ds.length=n3 at *
  generalize c.ends.length=n4 at *
  generalize c.deps.length=n5 at *
  rw[hw1h.out]at c0 c1' c2';go_enter Tryz.func21,Tryz.ntmps21;go_wp2_with fail;rw[<-hw1h.out];with_reducible refine k1.out.mono ?_
  rintro e w2 ⟨rfl,hq⟩;have hB2:=Hd (hB1.out.trans (hq.mono hB1.out.size));clear hq;go_wp2_with fail;refine bodyPost_ret (results_tmp2 rfl _ _ _) rfl ?_;exact hP.out _ hB2.out
 | true =>
  have hO:=(ok_iff g).1 hok;have k4:=Hd (k3.out hO);rw[hok]at k1;have hP:Hid (∀W u p q,Below w.heap.size w W->DidF (actF g c) W u p q false->InvPost g c w (.returned (.tuple #[nilS,.int .i64 30])) W):=fun W u p q B hd=>⟨B,by
   rw[hok,if_pos rfl];cases hR:actF g c with
   | none=>rfl
   | some r=>rw[hR]at hd;exact absurd hd.1 (by simp)⟩
  have hS:Hid (∀W u p q,Below w1.heap.size w1 W->DidF (actF g c) W u p q true->InvPost g c w (.returned (.tuple #[.slice (some ⟨W.heap.size,0,none⟩) 1 1,.int .i64 0])) (W.alloc (.cells (chCells u p q) 33))):=fun W u p q B hd=>⟨(B1.trans (B.mono B1.size)).alloc (by have:=B.size;have:=B1.size;omega) _,by
   rw[hok,if_pos rfl];cases hR:actF g c with
   | none=>rw[hR]at hd;exact absurd hd (by simp[DidF])
   | some r =>
    rw[hR]at hd;obtain⟨_,rfl,o1,o2⟩:=hd;exact⟨_,rfl,lc_one o1.DL o2.DL⟩⟩
  unfold nilS at hP;unfold chCells at hS;clear g0 g2 hw1 h1 h2 h3 hx hy hn hs k3 hgv hok B1 hO;generalize g.vs.length=n1 at *
  generalize g.es.length=n2 at *
  generalize g.ds.length=n3 at *
  generalize c.ends.length=n4 at *
  generalize c.deps.length=n5 at *
  rw[hw1h.out]at c0 c1' c2';go_enter Tryz.func21,Tryz.ntmps21;go_wp2_with fail;rw[<-hw1h.out];with_reducible refine k1.out.mono ?_
  rintro e w2 ⟨rfl,hq⟩;have hB2:=Hd hq;clear hq c0 c1' c2' k1;go_wp2_with fail;refine wp_region_F (fun w':World=>Below w1.heap.size w1 w') 999 (by kernel_rfl) hB2.out.drew (fun hHeld=>?_);refine tkP 0 rfl ?_ (by(intro w hSw;obtain⟨⟨q0,q1,q2⟩,d0,d1,d2,d3,d4,d5,d6,d7,d8,d9,d10,d11,d12⟩:=hcell.out w hSw;go_simp)<;>with_reducible rfl);refine tkP 2 rfl ?_ (by(intro w hSw;obtain⟨⟨q0,q1,q2⟩,d0,d1,d2,d3,d4,d5,d6,d7,d8,d9,d10,d11,d12⟩:=hcell.out w hSw;go_simp)<;>with_reducible rfl);refine rdy [1,7] ?_;refine arC rfl (fun K hK=>?_) ?_
  ·skip
   go_simp;with_reducible refine(k2.out _ hHeld).mono ?_
   rintro e w3 ⟨db,rfl,hD,b⟩;have b3:Below w1.heap.size w1 w3:=hHeld.trans (b.mono hHeld.size);have hD:=hD;clear b;go_wp2_with fail;refine hK.out _ _ ?_ (fun hHeld=>?_)
   ·exact b3
   clear hK K;try simp only[Act.put,zT,z0,zS]
   refine rdy [3,7] ?_;refine arC rfl (fun K hK=>?_) ?_
   ·skip
    go_simp;with_reducible refine(k4.out _ _ hHeld hD.out).mono ?_
    rintro e w4 ⟨u,p1,m1,p2,r1,m2,r2,ok,rfl,b4,hkd⟩;have hd3:=Hd hkd.out.2;unfold chCells at *
    clear hkd;go_wp2_with fail;refine hK.out _ _ ?_ (fun hHeld=>?_)
    ·exact b4
    clear hK K;try simp only[Act.put,zT,z0,zS]
    refine tkP 4 rfl ?_;refine tkP 5 rfl ?_;refine tkP 6 rfl ?_;refine rdy [7] ?_;refine arC rfl (fun K hK=>?_) ?_
    ·skip
     go_simp;obtain⟨xA,hxA,hxl⟩:∃xA,xA=(w4).heap.size/\Hid (w1.heap.size<=xA):=⟨_,rfl,hHeld.size⟩;obtain⟨wA,hwA⟩:∃wA,wA=(w4).alloc (.cells zCells 33):=⟨_,rfl⟩;have hA:Below w1.heap.size w1 wA:=by rw[hwA];exact hHeld.alloc hHeld.size _
     have hBA:=Hd (show Below (w4).heap.size (w4) wA from by rw[hwA];exact(Below.refl _ _).alloc (Nat.le_refl _) _);have hx0:=Hd (show ∀W2,Below wA.heap.size wA W2->W2.heap[xA]?=some (.cells zCells 33 (0,0))from fun W2 b2=>by rw[b2.block _ (by rw[hwA,hxA];simp[heap_drew]),hwA,hxA];exact heap_alloc_new (w4) _);have hd3:=Hd (hd3.out.below hBA.out);simp only[zCells,chCells,zC,zV,zE,nilS]at hwA;have hxA':=Hd hxA;refine hK.out _ _ ?_ (fun hHeld=>?_)
     ·rw[<-hwA];exact hA
     clear hK K;try simp only[Act.put,zT,z0,zS]
     rw[<-hwA];try simp only[heap_drew]at hxA
     rw[<-hxA];replace hHeld:=hA;clear hA hwA hxA hxA' hBA;refine rdy [8] ?_;refine arC rfl (fun K hK=>?_) ?_
     ·skip
      have hx:=hx0.out _ (Below.refl _ _);refine wp_store_row 33 (.tmp 6) (.tmp 16) rfl xA (chCells u (.slice p1 m1 p2) (.slice r1 m2 r2)) rfl rfl 33 _ hx (info33 _ _ _) rfl (ch_all _ _ _ _ _ _ _) ?_;obtain⟨W8,hW8⟩:∃W8,W8=World.setRow wA xA (chCells u (.slice p1 m1 p2) (.slice r1 m2 r2)):=⟨_,rfl⟩;have b8:Below w1.heap.size w1 W8:=by rw[hW8];exact below_setRow' hHeld hxl.out _
      have c8:W8.heap[xA]?=some (.cells (chCells u (.slice p1 m1 p2) (.slice r1 m2 r2)) 33 (0,0)):=by rw[hW8];exact setRow_heap _ _ _ _ _ _ hx
      have hd8:=Hd (show DidF (actF g c) W8 u (.slice p1 m1 p2) (.slice r1 m2 r2) ok from by rw[hW8];exact hd3.out.row33 hx _);refine hK.out _ _ ?_ (fun hHeld=>?_)
      ·rw[<-hW8];exact b8
      clear hK K;try simp only[Act.put,zT,z0,zS]
      rw[<-hW8];replace hHeld:=b8;clear hW8 hx;refine tkP 9 rfl ?_;refine wpAnyF_done (by kernel_rfl) ?_ _;obtain⟨e0,e1,e2,e3,e4,e5,e6,e7,e8,e9,e10,e11,e12⟩:=ch_cells c8;have hb8:=Hd b8;clear hHeld c8 b8;cases ok with
      | false =>
       go_wp2_with fail;refine bodyPost_ret (results_tmp2 rfl _ _ _) rfl ?_;exact hP.out _ _ _ _ (hB1.out.trans (hb8.out.mono hB1.out.size)) hd8.out
      | true =>
       go_wp2_with fail;refine bodyPost_ret (results_tmp2 rfl _ _ _) rfl ?_;exact hS.out _ _ _ _ hb8.out hd8.out
     exact AllReadyF.nil
    exact AllReadyF.nil
   refine arC rfl (fun K hK=>?_) ?_
   ·skip
    go_simp;obtain⟨xA,hxA,hxl⟩:∃xA,xA=(w3).heap.size/\Hid (w1.heap.size<=xA):=⟨_,rfl,hHeld.size⟩;obtain⟨wA,hwA⟩:∃wA,wA=(w3).alloc (.cells zCells 33):=⟨_,rfl⟩;have hA:Below w1.heap.size w1 wA:=by rw[hwA];exact hHeld.alloc hHeld.size _
    have hBA:=Hd (show Below (w3).heap.size (w3) wA from by rw[hwA];exact(Below.refl _ _).alloc (Nat.le_refl _) _);have hx0:=Hd (show ∀W2,Below wA.heap.size wA W2->W2.heap[xA]?=some (.cells zCells 33 (0,0))from fun W2 b2=>by rw[b2.block _ (by rw[hwA,hxA];simp[heap_drew]),hwA,hxA];exact heap_alloc_new (w3) _);have hD:=Hd (hD.out.below hBA.out);simp only[zCells,chCells,zC,zV,zE,nilS]at hwA;have hxA':=Hd hxA;refine hK.out _ _ ?_ (fun hHeld=>?_)
    ·rw[<-hwA];exact hA
    clear hK K;try simp only[Act.put,zT,z0,zS]
    rw[<-hwA];try simp only[heap_drew]at hxA
    rw[<-hxA];replace hHeld:=hA;clear hA hwA hxA hxA' hBA;refine rdy [3] ?_;refine arC rfl (fun K hK=>?_) ?_
    ·skip
     go_simp;with_reducible refine(k4.out _ _ hHeld hD.out).mono ?_
     rintro e w4 ⟨u,p1,m1,p2,r1,m2,r2,ok,rfl,b4,hkd⟩;have hx3:=Hd (hkd.out.1.keep xA _ (hx0.out _ (Below.refl _ _)) rfl);have hd3:=Hd hkd.out.2;unfold chCells at *
     clear hkd;go_wp2_with fail;refine hK.out _ _ ?_ (fun hHeld=>?_)
     ·exact b4
     clear hK K;try simp only[Act.put,zT,z0,zS]
     refine tkP 4 rfl ?_;refine tkP 5 rfl ?_;refine tkP 6 rfl ?_;refine rdy [8] ?_;refine arC rfl (fun K hK=>?_) ?_
     ·skip
      have hx:=hx3.out;refine wp_store_row 33 (.tmp 6) (.tmp 16) rfl xA (chCells u (.slice p1 m1 p2) (.slice r1 m2 r2)) rfl rfl 33 _ hx (info33 _ _ _) rfl (ch_all _ _ _ _ _ _ _) ?_;obtain⟨W8,hW8⟩:∃W8,W8=World.setRow w4 xA (chCells u (.slice p1 m1 p2) (.slice r1 m2 r2)):=⟨_,rfl⟩;have b8:Below w1.heap.size w1 W8:=by rw[hW8];exact below_setRow' hHeld hxl.out _
      have c8:W8.heap[xA]?=some (.cells (chCells u (.slice p1 m1 p2) (.slice r1 m2 r2)) 33 (0,0)):=by rw[hW8];exact setRow_heap _ _ _ _ _ _ hx
      have hd8:=Hd (show DidF (actF g c) W8 u (.slice p1 m1 p2) (.slice r1 m2 r2) ok from by rw[hW8];exact hd3.out.row33 hx _);refine hK.out _ _ ?_ (fun hHeld=>?_)
      ·rw[<-hW8];exact b8
      clear hK K;try simp only[Act.put,zT,z0,zS]
      rw[<-hW8];replace hHeld:=b8;clear hW8 hx;refine tkP 9 rfl ?_;refine wpAnyF_done (by kernel_rfl) ?_ _;obtain⟨e0,e1,e2,e3,e4,e5,e6,e7,e8,e9,e10,e11,e12⟩:=ch_cells c8;have hb8:=Hd b8;clear hHeld c8 b8;cases ok with
      | false =>
       go_wp2_with fail;refine bodyPost_ret (results_tmp2 rfl _ _ _) rfl ?_;exact hP.out _ _ _ _ (hB1.out.trans (hb8.out.mono hB1.out.size)) hd8.out
      | true =>
       go_wp2_with fail;refine bodyPost_ret (results_tmp2 rfl _ _ _) rfl ?_;exact hS.out _ _ _ _ hb8.out hd8.out
     exact AllReadyF.nil
    exact AllReadyF.nil
   exact AllReadyF.nil
  refine arC rfl (fun K hK=>?_) ?_
  ·skip
   go_simp;obtain⟨xA,hxA,hxl⟩:∃xA,xA=(w2.drew).heap.size/\Hid (w1.heap.size<=xA):=⟨_,rfl,hHeld.size⟩;obtain⟨wA,hwA⟩:∃wA,wA=(w2.alloc (.cells zCells 33)).drew:=⟨_,rfl⟩;have hA:Below w1.heap.size w1 wA:=by rw[hwA];exact hHeld.alloc hHeld.size _
   have hBA:=Hd (show Below (w2.drew).heap.size (w2.drew) wA from by rw[hwA];exact(Below.refl _ _).alloc (Nat.le_refl _) _);have hx0:=Hd (show ∀W2,Below wA.heap.size wA W2->W2.heap[xA]?=some (.cells zCells 33 (0,0))from fun W2 b2=>by rw[b2.block _ (by rw[hwA,hxA];simp[heap_drew]),hwA,hxA];exact heap_alloc_new (w2.drew) _);simp only[zCells,chCells,zC,zV,zE,nilS]at hwA;have hxA':=Hd hxA;refine hK.out _ _ ?_ (fun hHeld=>?_)
   ·rw[<-hwA];exact hA
   clear hK K;try simp only[Act.put,zT,z0,zS]
   rw[<-hwA];try simp only[heap_drew]at hxA
   rw[<-hxA];replace hHeld:=hA;clear hA hwA hxA hxA' hBA;refine rdy [1] ?_;refine arC rfl (fun K hK=>?_) ?_
   ·skip
    go_simp;with_reducible refine(k2.out _ hHeld).mono ?_
    rintro e w3 ⟨db,rfl,hD,b⟩;have b3:Below w1.heap.size w1 w3:=hHeld.trans (b.mono hHeld.size);have hx1:=Hd (hx0.out _ b);have hD:=hD;clear b;go_wp2_with fail;refine hK.out _ _ ?_ (fun hHeld=>?_)
    ·exact b3
    clear hK K;try simp only[Act.put,zT,z0,zS]
    refine rdy [3] ?_;refine arC rfl (fun K hK=>?_) ?_
    ·skip
     go_simp;with_reducible refine(k4.out _ _ hHeld hD.out).mono ?_
     rintro e w4 ⟨u,p1,m1,p2,r1,m2,r2,ok,rfl,b4,hkd⟩;have hx3:=Hd (hkd.out.1.keep xA _ (hx1.out) rfl);have hd3:=Hd hkd.out.2;unfold chCells at *
     clear hkd;go_wp2_with fail;refine hK.out _ _ ?_ (fun hHeld=>?_)
     ·exact b4
     clear hK K;try simp only[Act.put,zT,z0,zS]
     refine tkP 4 rfl ?_;refine tkP 5 rfl ?_;refine tkP 6 rfl ?_;refine rdy [8] ?_;refine arC rfl (fun K hK=>?_) ?_
     ·skip
      have hx:=hx3.out;refine wp_store_row 33 (.tmp 6) (.tmp 16) rfl xA (chCells u (.slice p1 m1 p2) (.slice r1 m2 r2)) rfl rfl 33 _ hx (info33 _ _ _) rfl (ch_all _ _ _ _ _ _ _) ?_;obtain⟨W8,hW8⟩:∃W8,W8=World.setRow w4 xA (chCells u (.slice p1 m1 p2) (.slice r1 m2 r2)):=⟨_,rfl⟩;have b8:Below w1.heap.size w1 W8:=by rw[hW8];exact below_setRow' hHeld hxl.out _
      have c8:W8.heap[xA]?=some (.cells (chCells u (.slice p1 m1 p2) (.slice r1 m2 r2)) 33 (0,0)):=by rw[hW8];exact setRow_heap _ _ _ _ _ _ hx
      have hd8:=Hd (show DidF (actF g c) W8 u (.slice p1 m1 p2) (.slice r1 m2 r2) ok from by rw[hW8];exact hd3.out.row33 hx _);refine hK.out _ _ ?_ (fun hHeld=>?_)
      ·rw[<-hW8];exact b8
      clear hK K;try simp only[Act.put,zT,z0,zS]
      rw[<-hW8];replace hHeld:=b8;clear hW8 hx;refine tkP 9 rfl ?_;refine wpAnyF_done (by kernel_rfl) ?_ _;obtain⟨e0,e1,e2,e3,e4,e5,e6,e7,e8,e9,e10,e11,e12⟩:=ch_cells c8;have hb8:=Hd b8;clear hHeld c8 b8;cases ok with
      | false =>
       go_wp2_with fail;refine bodyPost_ret (results_tmp2 rfl _ _ _) rfl ?_;exact hP.out _ _ _ _ (hB1.out.trans (hb8.out.mono hB1.out.size)) hd8.out
      | true =>
       go_wp2_with fail;refine bodyPost_ret (results_tmp2 rfl _ _ _) rfl ?_;exact hS.out _ _ _ _ hb8.out hd8.out
     exact AllReadyF.nil
    exact AllReadyF.nil
   exact AllReadyF.nil
  exact AllReadyF.nil
end Go.Proofs.YtlaldnlgapeckaaGreat
