/- Facts. -/
import Derived.Carry
import Derived.Laws.Tables
import Derived.MapKept
import Derived.Test.YtlaldnlgapeckaaGreatVYH
import Derived.Test.YtlaldnlgapeckaaGreatVYR
set_option maxRecDepth 100000
set_option maxHeartbeats 4000000
namespace Go.Proofs.YtlaldnlgapeckaaGreat
open Go.RowKit
def Stays:Obj->Bool
 | .cells _ t _=>!(t==29||t==31||t==94)
 | _=>true
structure KD(B:Nat)(W W':World):Prop where
 below:Below B W W'
 keep:∀(k:Nat) (o:Obj),W.heap[k]?=some o->Stays o=true->W'.heap[k]?=some o
theorem KD.refl(B:Nat)(W:World):KD B W W:=⟨Below.refl _ _,fun _ _ h _=>h⟩
theorem KD.trans{B:Nat}{a b c:World}(h:KD B a b)(k:KD B b c):KD B a c:=⟨h.below.trans k.below,fun i o e s=>k.keep i o (h.keep i o e s) s⟩
theorem KD.of{B:Nat}{W W':World}(h:Below W.heap.size W W')(hB:B<=W.heap.size):KD B W W' :=
 ⟨h.mono hB,fun k _ e _=>(h.block k (Array.getElem?_eq_some_iff.1 e).1).trans e⟩
theorem KD.grown{B g:Nat}{W W':World}{o:Obj}(h:W.grownBy W' (some g))(hg:W.heap[g]?=some o)(hs:Stays o=false)(hB:B<=g):KD B W W' :=
 ⟨(Below.refl B W).grown h (by have:=(Array.getElem?_eq_some_iff.1 hg).1;omega) (fun k e=>by injection e with e;omega),fun k o' e s=>by
  refine(h.block k (Array.getElem?_eq_some_iff.1 e).1 (fun e2=>?_)).trans e;injection e2 with e2
  subst e2;rw[hg]at e;injection e with e
  rw[e]at hs;rw[hs]at s;cases s⟩
theorem KD.grown'{B:Nat}{W W':World}{r:Option Nat}(h:W.grownBy W' r)(hr:∀g,r=some g->B<=g/\ ∃o,W.heap[g]?=some o/\Stays o=false)(hB:B<=W.heap.size):KD B W W':=by
 cases r with
 | none=>exact⟨(Below.refl B W).grown h hB (fun k e=>by cases e),fun k o e _=>(h.block k (Array.getElem?_eq_some_iff.1 e).1 (by simp)).trans e⟩
 | some g=>obtain⟨h1,o,h2,h3⟩:=hr g rfl;exact KD.grown h h2 h3 h1
theorem KD.setCell{B:Nat}{W:World}{p:Addr}{o:Obj}(hg:W.heap[p.block]?=some o)(hs:Stays o=false)(hB:B<=p.block)(u:Value):KD B W (W.setCell p u) :=
 ⟨(Below.refl B W).setCell hB u,fun k o' e s=>by
  by_cases hk:k=p.block
  ·subst hk;rw[hg]at e;injection e with e;rw[e]at hs;rw[hs]at s;cases s
  ·rw[heap_setCell_other _ _ _ _ hk];exact e⟩
theorem KD.size{B:Nat}{W W':World}(h:KD B W W'):W.heap.size<=W'.heap.size:=h.below.size
def Cl(W:World)(B:Nat)(lo hi:Int)(f:Nat)(v:Value):Prop :=
 ∃p,v= .func (.func 131) #[] #[.pointer (some ⟨p+2,0,none⟩),.pointer (some ⟨p,0,none⟩),.pointer (some ⟨p+1,0,none⟩)]/\B<=p /\
  W.heap[p]?=some (.cells #[.int .i64 lo] 3 (0,0))/\W.heap[p+1]?=some (.cells #[.int .i64 hi] 3 (0,0))/\W.heap[p+2]?=some (.cells #[.func (.func f) #[] #[]] 153 (0,0))
theorem Cl.kd{W W':World}{B B':Nat}{lo hi:Int}{f:Nat}{v:Value}(h:Cl W B lo hi f v)(k:KD B' W W'):Cl W' B lo hi f v:=by
 obtain⟨p,h1,h2,h3,h4,h5⟩:=h;exact⟨p,h1,h2,k.keep _ _ h3 rfl,k.keep _ _ h4 rfl,k.keep _ _ h5 rfl⟩
def fnV(n:Nat):Value:= .func (.func n) #[] #[]
def entries(x5 x6 x9:Value):Array MapEntry :=
 #[⟨.int .i64 1,fnV 103,0⟩,⟨.int .i64 2,fnV 104,1⟩,⟨.int .i64 3,fnV 105,2⟩,⟨.int .i64 4,fnV 106,3⟩,⟨.int .i64 5,x5,4⟩,⟨.int .i64 6,x6,5⟩,⟨.int .i64 7,fnV 110,6⟩,⟨.int .i64 8,fnV 111,7⟩,⟨.int .i64 9,x9,8⟩,⟨.int .i64 10,fnV 113,9⟩]
def Acts(W:World)(B:Nat)(m:Value):Prop :=
 ∃b x5 x6 x9,m= .map (some b)/\B<=b/\W.heap[b]?=some (.map (entries x5 x6 x9) 10)/\Cl W B (-1000) 1000 108 x5/\Cl W B 0 1000 109 x6/\Cl W B 0 3 112 x9
theorem Acts.kd{W W':World}{B B':Nat}{m:Value}(h:Acts W B m)(k:KD B' W W'):Acts W' B m:=by
 obtain⟨b,x5,x6,x9,h1,h2,h3,h4,h5,h6⟩:=h;exact⟨b,x5,x6,x9,h1,h2,k.keep _ _ h3 rfl,h4.kd k,h5.kd k,h6.kd k⟩
theorem OwnI.kd{W W':World}{B B':Nat}{v:Value}{l:List Int}(h:OwnI W B v l)(k:KD B' W W'):OwnI W' B v l:=by
 unfold OwnI at h ⊢;refine⟨h.1,?_⟩;rcases h.2 with h2|⟨g,cap,cur,h1,h2,h3,h4⟩
 ·exact .inl h2
 ·exact .inr ⟨g,cap,cur,h1,h2,k.keep _ _ h3 rfl,h4⟩
theorem own_kept{W W':World}{base n:Nat}{e:TypeId}{size:Nat}{v:Value}{xs:List Value}{r:Option Nat}(h:W.ownsRow base e size v n xs)(hg:W.grownBy W' r)(hne:∀g,r=some g-> ∃o,W.heap[g]?=some o/\ ∀cs,o≠ .cells cs e (0,0)):W'.ownsRow base e size v n xs:=by
 refine⟨h.1,?_⟩;rcases h.2 with h2|⟨g,cap,cur,h1,h2,h3,h4⟩
 ·exact .inl h2
 ·refine .inr ⟨g,cap,cur,h1,h2,(hg.block _ (Array.getElem?_eq_some_iff.1 h3).1 (fun e2=>?_)).trans h3,h4⟩;obtain⟨o,ho,hno⟩:=hne g e2.symm;rw[h3]at ho;injection ho with ho
  exact hno cur ho.symm
theorem own_below{W W':World}{base n:Nat}{e:TypeId}{size:Nat}{v:Value}{xs:List Value}(h:W.ownsRow base e size v n xs)(hb:Below W.heap.size W W'):W'.ownsRow base e size v n xs:=by
 refine⟨h.1,?_⟩;rcases h.2 with h2|⟨g,cap,cur,h1,h2,h3,h4⟩
 ·exact .inl h2
 ·exact .inr ⟨g,cap,cur,h1,h2,(hb.block _ (Array.getElem?_eq_some_iff.1 h3).1).trans h3,h4⟩
theorem own_row{W:World}{base n:Nat}{e:TypeId}{size:Nat}{v:Value}{xs:List Value}(h:W.ownsRow base e size v n xs)(g:Nat)(hg:v.ownBlock=some g):base<=g/\ ∃cur,W.heap[g]?=some (.cells cur e (0,0)):=by
 rcases h.2 with⟨rfl,_⟩|⟨g',cap,cur,rfl,h2,h3,h4⟩
 ·simp[Value.ownBlock]at hg
 ·simp[Value.ownBlock]at hg;subst hg;exact⟨h2,cur,h3⟩
structure DrV(W:World)(B db:Nat)(vv ev dv mv:Value)(g:Gr):Prop where
 hB:B<=db
 box:W.heap[db]?=some (.cells #[vv,ev,dv,mv] 94 (0,0))
 v:OwnV W B vv g.vs
 e:OwnEd W B ev g.es
 d:OwnI W B dv g.ds
 m:Acts W B mv
def Draft(W:World)(B db:Nat)(g:Gr):Prop:=∃vv ev dv mv,DrV W B db vv ev dv mv g
theorem DrV.lt{W:World}{B db:Nat}{vv ev dv mv:Value}{g:Gr}(h:DrV W B db vv ev dv mv g):db<W.heap.size:=(Array.getElem?_eq_some_iff.1 h.box).1
theorem DrV.base{W:World}{B db:Nat}{vv ev dv mv:Value}{g:Gr}(h:DrV W B db vv ev dv mv g):B<=W.heap.size:=by have:=h.lt;have:=h.hB;omega
theorem DrV.below{W W':World}{B db:Nat}{vv ev dv mv:Value}{g:Gr}(h:DrV W B db vv ev dv mv g)(hb:Below W.heap.size W W'):DrV W' B db vv ev dv mv g :=
 ⟨h.hB,(hb.block _ h.lt).trans h.box,own_below h.v hb,own_below h.e hb,own_below h.d hb,h.m.kd (KD.of hb h.base)⟩
theorem DrV.setV{W W':World}{B db:Nat}{vv ev dv mv v':Value}{g:Gr}{l:List Vx}(h:DrV W B db vv ev dv mv g)(hg:W.grownBy W' vv.ownBlock)(ho:OwnV W' B v' l):
  DrV (W'.setCell ⟨db,0,none⟩ v') B db v' ev dv mv {g with vs:=l}/\KD B W (W'.setCell ⟨db,0,none⟩ v'):=by
 have hr:∀g',vv.ownBlock=some g'->B<=g'/\ ∃cur,W.heap[g']?=some (.cells cur 29 (0,0)):=own_row h.v;have k1:KD B W W':=KD.grown' hg (fun g' e=>⟨(hr g' e).1,by obtain⟨cur,hc⟩:=(hr g' e).2;exact⟨_,hc,rfl⟩⟩) h.base;have hbox:W'.heap[db]?=some (.cells #[vv,ev,dv,mv] 94 (0,0)):=(hg.block _ h.lt (fun e=>by obtain⟨cur,hc⟩:=(hr db e.symm).2;rw[h.box]at hc;simp at hc)).trans h.box;have k2:KD B W' (W'.setCell ⟨db,0,none⟩ v'):=KD.setCell (p:=⟨db,0,none⟩) hbox rfl h.hB v';have e1:OwnEd W' B ev g.es:=own_kept h.e hg (fun g' e=>by obtain⟨cur,hc⟩:=(hr g' e).2;exact⟨_,hc,fun cs=>by simp⟩);have ne:∀ {e:TypeId} {v:Value} {n size:Nat} {xs:List Value},W'.ownsRow B e size v n xs->e≠94->v.ownBlock≠some (⟨db,0,none⟩:Addr).block:=fun hh he e2=>by
  obtain⟨_,cur,hc⟩:=own_row hh db e2;rw[hbox]at hc;simp at hc;exact he hc.2.symm
 refine⟨⟨h.hB,?_,?_,?_,?_,(h.m.kd k1).kd k2⟩,k1.trans k2⟩
 ·exact heap_setCell_same W' db 0 _ 94 v' hbox
 ·exact ownsRow_setCell_other ho (ne ho (by decide)) v'
 ·exact ownsRow_setCell_other e1 (ne e1 (by decide)) v'
 ·exact(h.d.kd k1).kd k2
theorem DrV.setE{W W':World}{B db:Nat}{vv ev dv mv v':Value}{g:Gr}{l:List Ed}(h:DrV W B db vv ev dv mv g)(hg:W.grownBy W' ev.ownBlock)(ho:OwnEd W' B v' l):
  DrV (W'.setCell ⟨db,1,none⟩ v') B db vv v' dv mv {g with es:=l}/\KD B W (W'.setCell ⟨db,1,none⟩ v'):=by
 have hr:∀g',ev.ownBlock=some g'->B<=g'/\ ∃cur,W.heap[g']?=some (.cells cur 31 (0,0)):=own_row h.e;have k1:KD B W W':=KD.grown' hg (fun g' e=>⟨(hr g' e).1,by obtain⟨cur,hc⟩:=(hr g' e).2;exact⟨_,hc,rfl⟩⟩) h.base;have hbox:W'.heap[db]?=some (.cells #[vv,ev,dv,mv] 94 (0,0)):=(hg.block _ h.lt (fun e=>by obtain⟨cur,hc⟩:=(hr db e.symm).2;rw[h.box]at hc;simp at hc)).trans h.box;have k2:KD B W' (W'.setCell ⟨db,1,none⟩ v'):=KD.setCell (p:=⟨db,1,none⟩) hbox rfl h.hB v';have e1:OwnV W' B vv g.vs:=own_kept h.v hg (fun g' e=>by obtain⟨cur,hc⟩:=(hr g' e).2;exact⟨_,hc,fun cs=>by simp⟩);have ne:∀ {e:TypeId} {v:Value} {n size:Nat} {xs:List Value},W'.ownsRow B e size v n xs->e≠94->v.ownBlock≠some (⟨db,1,none⟩:Addr).block:=fun hh he e2=>by
  obtain⟨_,cur,hc⟩:=own_row hh db e2;rw[hbox]at hc;simp at hc;exact he hc.2.symm
 refine⟨⟨h.hB,?_,?_,?_,?_,(h.m.kd k1).kd k2⟩,k1.trans k2⟩
 ·exact heap_setCell_same W' db 1 _ 94 v' hbox
 ·exact ownsRow_setCell_other e1 (ne e1 (by decide)) v'
 ·exact ownsRow_setCell_other ho (ne ho (by decide)) v'
 ·exact(h.d.kd k1).kd k2
theorem DrV.setD{W:World}{B db:Nat}{vv ev dv mv v':Value}{g:Gr}{l:List Int}(h:DrV W B db vv ev dv mv g)(ho:OwnI W B v' l):
  DrV (W.setCell ⟨db,2,none⟩ v') B db vv ev v' mv {g with ds:=l}/\KD B W (W.setCell ⟨db,2,none⟩ v'):=by
 have hbox:=h.box;have k2:KD B W (W.setCell ⟨db,2,none⟩ v'):=KD.setCell (p:=⟨db,2,none⟩) hbox rfl h.hB v';have ne:∀ {e:TypeId} {v:Value} {n size:Nat} {xs:List Value},W.ownsRow B e size v n xs->e≠94->v.ownBlock≠some (⟨db,2,none⟩:Addr).block:=fun hh he e2=>by
  obtain⟨_,cur,hc⟩:=own_row hh db e2;rw[hbox]at hc;simp at hc;exact he hc.2.symm
 refine⟨⟨h.hB,?_,?_,?_,?_,h.m.kd k2⟩,k2⟩
 ·exact heap_setCell_same W db 2 _ 94 v' hbox
 ·exact ownsRow_setCell_other h.v (ne h.v (by decide)) v'
 ·exact ownsRow_setCell_other h.e (ne h.e (by decide)) v'
 ·exact ho.kd k2
theorem DrV.setOther{W:World}{B db:Nat}{vv ev dv mv u:Value}{g:Gr}{p:Addr}{cs:Array Value}{t:TypeId}{fr:Nat × Nat}(h:DrV W B db vv ev dv mv g)(hp:W.heap[p.block]?=some (.cells cs t fr))
  (ht:t≠3/\t≠31/\t≠94/\t≠153) (hv:vv.ownBlock≠some p.block):DrV (W.setCell p u) B db vv ev dv mv g:=by
 have st:∀(i:Nat) (o:Obj),W.heap[i]?=some o->(∀cs' fr',o≠ .cells cs' t fr')->(W.setCell p u).heap[i]?=some o:=fun i o e hne=>by
  rw[heap_setCell_other _ _ _ _ (fun e2=>by rw[e2,hp]at e;injection e with e;exact hne cs fr e.symm)];exact e
 have ne:∀ {e:TypeId} {v:Value} {n size:Nat} {xs:List Value},W.ownsRow B e size v n xs->e≠t->v.ownBlock≠some p.block:=fun hh he e2=>by
  obtain⟨_,cur,hc⟩:=own_row hh p.block e2;rw[hp]at hc;injection hc with hc;injection hc with _ hc;exact he hc.symm
 obtain⟨t1,t2,t3,t4⟩:=ht;refine⟨h.hB,st _ _ h.box (fun cs' fr' e=>by injection e with _ e;exact t3 e.symm),ownsRow_setCell_other h.v hv u,ownsRow_setCell_other h.e (ne h.e (Ne.symm t2)) u,ownsRow_setCell_other h.d (ne h.d (Ne.symm t1)) u,?_⟩;obtain⟨b,x5,x6,x9,h1,h2,h3,h4,h5,h6⟩:=h.m;have cl:∀ {lo hi:Int} {f:Nat} {v:Value},Cl W B lo hi f v->Cl (W.setCell p u) B lo hi f v:=fun hc=>by
  obtain⟨q,c1,c2,c3,c4,c5⟩:=hc;exact⟨q,c1,c2,st _ _ c3 (fun cs' fr' e=>by injection e with _ e;exact t1 e.symm),st _ _ c4 (fun cs' fr' e=>by injection e with _ e;exact t1 e.symm),st _ _ c5 (fun cs' fr' e=>by injection e with _ e;exact t4 e.symm)⟩
 exact⟨b,x5,x6,x9,h1,h2,st _ _ h3 (fun cs' fr' e=>by cases e),cl h4,cl h5,cl h6⟩
theorem DrV.setRow33{W:World}{B db:Nat}{vv ev dv mv:Value}{g:Gr}{b:Nat}{cs cs':Array Value}{fr:Nat × Nat}(h:DrV W B db vv ev dv mv g)(hp:W.heap[b]?=some (.cells cs 33 fr)):DrV (W.setRow b cs') B db vv ev dv mv g:=by
 have st:∀(i:Nat) (o:Obj),W.heap[i]?=some o->(∀cs' fr',o≠ .cells cs' 33 fr')->(W.setRow b cs').heap[i]?=some o:=fun i o e hne=>by
  rw[setRow_other _ _ _ _ (fun e2=>by rw[e2,hp]at e;injection e with e;exact hne cs fr e.symm)];exact e
 have row:∀ {e:TypeId} {v:Value} {n size:Nat} {xs:List Value},W.ownsRow B e size v n xs->e≠33->(W.setRow b cs').ownsRow B e size v n xs:=fun hh he=>by
  refine⟨hh.1,?_⟩;rcases hh.2 with h2|⟨g,cap,cur,h1,h2,h3,h4⟩
  ·exact .inl h2
  ·exact .inr ⟨g,cap,cur,h1,h2,st _ _ h3 (fun cs' fr' e=>by injection e with _ e;exact he e),h4⟩
 refine⟨h.hB,st _ _ h.box (fun cs' fr' e=>by simp at e),row h.v (by decide),row h.e (by decide),row h.d (by decide),?_⟩;obtain⟨b,x5,x6,x9,h1,h2,h3,h4,h5,h6⟩:=h.m;have cl:∀ {lo hi:Int} {f:Nat} {v:Value},Cl W B lo hi f v->Cl (W.setRow _ cs') B lo hi f v:=fun hc=>by
  obtain⟨q,c1,c2,c3,c4,c5⟩:=hc;exact⟨q,c1,c2,st _ _ c3 (fun cs' fr' e=>by simp at e),st _ _ c4 (fun cs' fr' e=>by simp at e),st _ _ c5 (fun cs' fr' e=>by simp at e)⟩
 exact⟨b,x5,x6,x9,h1,h2,st _ _ h3 (fun cs' fr' e=>by cases e),cl h4,cl h5,cl h6⟩
theorem KD.setNew{B:Nat}{W W':World}{p:Addr}(h:KD B W W')(hp:W.heap.size<=p.block)(hB:B<=p.block)(u:Value):KD B W (W'.setCell p u) :=
 ⟨h.below.setCell hB u,fun k o e s=>by
  have:=(Array.getElem?_eq_some_iff.1 e).1;rw[heap_setCell_other _ _ _ _ (by omega)];exact h.keep k o e s⟩
theorem KD.setRowNew{B b:Nat}{W W':World}(h:KD B W W')(hp:W.heap.size<=b)(hB:B<=b)(cs:Array Value):KD B W (W'.setRow b cs) :=
 ⟨h.below.trans ⟨rfl,rfl,rfl,by simp,fun k hk=>setRow_other W' b k cs (by omega)⟩,fun k o e s=>by
  have:=(Array.getElem?_eq_some_iff.1 e).1;rw[setRow_other _ _ _ _ (by omega)];exact h.keep k o e s⟩
theorem DrV.cells{W:World}{B db:Nat}{vv ev dv mv:Value}{g:Gr}(h:DrV W B db vv ev dv mv g):W.cell? ⟨db,0,none⟩=some vv/\W.cell? ⟨db,1,none⟩=some ev/\W.cell? ⟨db,2,none⟩=some dv/\W.cell? ⟨db,3,none⟩=some mv:=by
 refine⟨?_,?_,?_,?_⟩<;>(rw[cell_of_row W db _ _ _ _ h.box];rfl)
theorem DrV.free{W:World}{B db:Nat}{vv ev dv mv:Value}{g:Gr}(h:DrV W B db vv ev dv mv g)(i:Nat):W.frozen? ⟨db,i,none⟩=false:=frozen_of_row W db i _ _ h.box
/-! changes in memory -/
def chCells(c:Ch)(a b:Value):Array Value:= #[.int .i64 c.kind,.int .i64 c.v.id,.int .i64 c.v.side,.int .i64 c.e.id,.int .i64 c.e.src,.int .i64 c.e.dst,.bool c.e.dir,.int .i64 c.e.wt,.int .i64 c.e.cap,.int .i64 c.id,.int .i64 c.n,a,b]
def CV(W:World)(v:Value)(c:Ch):Prop:=∃a b,v= .agg (chCells c a b)/\DL W a c.ends/\DL W b c.deps
theorem CV.below{W W':World}{v:Value}{c:Ch}(h:CV W v c)(B:Below W.heap.size W W'):CV W' v c:=by
 obtain⟨a,b,h1,h2,h3⟩:=h;exact⟨a,b,h1,h2.below B,h3.below B⟩
theorem ins_run{W:World}{b:Nat}{es:Array MapEntry}{clk:Nat}(k:Int)(v:Value)(hb:W.heap[b]?=some (.map es clk))(hf:Instr.findNow (.int .i64) (.int .i64 k) es.toList 0=some none):
  ∃W',(Instr.mapUpdate 92 (.map (some b)) (.int .i64 k) v).run Tryz.prog W= .ok () W'/\W'.heap[b]?=some (.map (es.push ⟨.int .i64 k,v,clk⟩) (clk+1))/\W.grownBy W' (some b):=by
 refine⟨{W with heap:=W.heap.setIfInBounds b (.map (es.push ⟨.int .i64 k,v,clk⟩) (clk+1))},?_,?_,?_⟩
 ·simp[Instr.mapUpdate,run_underlying Tryz.underlying92,MapKept.run_getObj_map hb,MapKept.run_checkKey Tryz.underlying3 (show MapKept.IsKey (.int .i64) (.int .i64 k)from rfl),MapKept.run_findKey Tryz.underlying3 hf,MapKept.run_setObj_map _ hb,Result.andThen]
 ·exact(MapKept.heap_set hb).1
 ·exact⟨rfl,rfl,rfl,by simp,fun i _ hne=>(MapKept.heap_set hb).2 i (fun e=>hne (by rw[e]))⟩
theorem setter_any(a b:Int)(f:Nat)(w:World):
  Calls Tryz.prog 107 #[.int .i64 a,.int .i64 b,.func (.func f) #[] #[]] w fun e w'=>e= .returned (.func (.func 131) #[] #[.pointer (some ⟨w.heap.size+1+1,0,none⟩),.pointer (some ⟨w.heap.size,0,none⟩),.pointer (some ⟨w.heap.size+1,0,none⟩)]) /\
   ((w.alloc (.cells #[.int .i64 a] 3)).alloc (.cells #[.int .i64 b] 3)).alloc (.cells #[.func (.func f) #[] #[]] 153)=w':=by
 go_enter Tryz.func107,Tryz.ntmps107;go_wp2_with fail;go_ret;exact⟨rfl,rfl⟩
theorem set_cl(w w':World)(B:Nat)(lo hi:Int)(f:Nat)(hB:B<=w.heap.size)(h:w'=((w.alloc (.cells #[.int .i64 lo] 3)).alloc (.cells #[.int .i64 hi] 3)).alloc (.cells #[.func (.func f) #[] #[]] 153)):
  w.grownBy w' none/\w'.heap.size=w.heap.size+3 /\
  Cl w' B lo hi f (.func (.func 131) #[] #[.pointer (some ⟨w.heap.size+1+1,0,none⟩),.pointer (some ⟨w.heap.size,0,none⟩),.pointer (some ⟨w.heap.size+1,0,none⟩)]):=by
 subst h;refine⟨((World.grownBy_alloc w _ none).trans (World.grownBy_alloc _ _ none)).trans (World.grownBy_alloc _ _ none),by simp,w.heap.size,rfl,hB,?_,?_,?_⟩
 ·rw[Below.heap_alloc _ _ _ (by simp;omega),Below.heap_alloc _ _ _ (by simp)];exact heap_alloc_new w _
 ·rw[Below.heap_alloc _ _ _ (by simp)];have:=heap_alloc_new (w.alloc (.cells #[.int .i64 lo] 3)) (.cells #[.int .i64 hi] 3);simpa using this
 ·have:=heap_alloc_new ((w.alloc (.cells #[.int .i64 lo] 3)).alloc (.cells #[.int .i64 hi] 3)) (.cells #[.func (.func f) #[] #[]] 153);simpa using this
theorem Cl.grown{W W':World}{B b:Nat}{lo hi:Int}{f:Nat}{v:Value}(h:Cl W B lo hi f v)(hg:W.grownBy W' (some b))(hb:∃es k,W.heap[b]?=some (.map es k)):Cl W' B lo hi f v:=by
 obtain⟨es,k,hb⟩:=hb;obtain⟨p,h1,h2,h3,h4,h5⟩:=h;have st:∀(i:Nat) (cs:Array Value) (t:TypeId) (fr:Nat × Nat),W.heap[i]?=some (.cells cs t fr)->W'.heap[i]?=some (.cells cs t fr):=fun i cs t fr e =>
  (hg.block i (Array.getElem?_eq_some_iff.1 e).1 (fun e2=>by injection e2 with e2;subst e2;rw[hb]at e;cases e)).trans e
 exact⟨p,h1,h2,st _ _ _ _ h3,st _ _ _ _ h4,st _ _ _ _ h5⟩
theorem Cl.grown0{W W':World}{B:Nat}{lo hi:Int}{f:Nat}{v:Value}(h:Cl W B lo hi f v)(hg:W.grownBy W' none):Cl W' B lo hi f v:=by
 obtain⟨p,h1,h2,h3,h4,h5⟩:=h;have st:∀(i:Nat) (o:Obj),W.heap[i]?=some o->W'.heap[i]?=some o:=fun i o e=>(hg.block i (Array.getElem?_eq_some_iff.1 e).1 (by simp)).trans e;exact⟨p,h1,h2,st _ _ h3,st _ _ h4,st _ _ h5⟩
theorem acts_any(w:World):Calls Tryz.prog 86 #[] w fun e w'=>∃m,e= .returned m/\Acts w' w.heap.size m/\Below w.heap.size w w':=by
 obtain⟨W0,hW0⟩:∃W0,W0=w.alloc (.map #[] 0):=⟨_,rfl⟩;have hm0:W0.heap[w.heap.size]?=some (.map #[] 0):=by rw[hW0];exact heap_alloc_new w _
 have b0:Below w.heap.size w W0:=by rw[hW0];exact(Below.refl _ w).alloc (Nat.le_refl _) _
 have hlt0:w.heap.size<W0.heap.size:=by rw[hW0];simp
 obtain⟨W1,r1,hm1,g1⟩:=ins_run 1 (.func (.func 103) #[] #[]) hm0 rfl;have b1:=b0.grown g1 (Nat.le_of_lt hlt0) (fun k e=>by injection e with e;omega);have hlt1:w.heap.size<W1.heap.size:=Nat.lt_of_lt_of_le hlt0 g1.size;obtain⟨W2,r2,hm2,g2⟩:=ins_run 2 (.func (.func 104) #[] #[]) hm1 rfl;have b2:=b1.grown g2 (Nat.le_of_lt hlt1) (fun k e=>by injection e with e;omega);have hlt2:w.heap.size<W2.heap.size:=Nat.lt_of_lt_of_le hlt1 g2.size;obtain⟨W3,r3,hm3,g3⟩:=ins_run 3 (.func (.func 105) #[] #[]) hm2 rfl;have b3:=b2.grown g3 (Nat.le_of_lt hlt2) (fun k e=>by injection e with e;omega);have hlt3:w.heap.size<W3.heap.size:=Nat.lt_of_lt_of_le hlt2 g3.size;obtain⟨W4,r4,hm4,g4⟩:=ins_run 4 (.func (.func 106) #[] #[]) hm3 rfl;have b4:=b3.grown g4 (Nat.le_of_lt hlt3) (fun k e=>by injection e with e;omega);have hlt4:w.heap.size<W4.heap.size:=Nat.lt_of_lt_of_le hlt3 g4.size;have k5:=Hd (setter_any (-1000) 1000 108 W4);obtain⟨V5,hV5⟩:∃V5,V5=((W4.alloc (.cells #[.int .i64 (-1000)] 3)).alloc (.cells #[.int .i64 1000] 3)).alloc (.cells #[.func (.func 108) #[] #[]] 153):=⟨_,rfl⟩;rw[<-hV5]at k5;obtain⟨gV5,sV5,cV5⟩:=set_cl W4 V5 w.heap.size (-1000) 1000 108 (by omega) hV5;obtain⟨x5,hx5⟩:∃x5,x5=Value.func (.func 131) #[] #[.pointer (some ⟨W4.heap.size+1+1,0,none⟩),.pointer (some ⟨W4.heap.size,0,none⟩),.pointer (some ⟨W4.heap.size+1,0,none⟩)]:=⟨_,rfl⟩;rw[<-hx5]at k5 cV5;clear hx5 hV5;have hmV5:=(gV5.block _ hlt4 (by simp)).trans hm4;have bV5:=b4.grown gV5 (Nat.le_of_lt hlt4) (fun k e=>by cases e);have hltV5:w.heap.size<V5.heap.size:=by omega
 obtain⟨W5,r5,hm5,g5⟩:=ins_run 5 x5 hmV5 rfl;have b5:=bV5.grown g5 (Nat.le_of_lt hltV5) (fun k e=>by injection e with e;omega);have hlt5:w.heap.size<W5.heap.size:=Nat.lt_of_lt_of_le hltV5 g5.size;have cV5:=cV5.grown g5 ⟨_,_,hmV5⟩;have k6:=Hd (setter_any 0 1000 109 W5);obtain⟨V6,hV6⟩:∃V6,V6=((W5.alloc (.cells #[.int .i64 0] 3)).alloc (.cells #[.int .i64 1000] 3)).alloc (.cells #[.func (.func 109) #[] #[]] 153):=⟨_,rfl⟩;rw[<-hV6]at k6;obtain⟨gV6,sV6,cV6⟩:=set_cl W5 V6 w.heap.size 0 1000 109 (by omega) hV6;obtain⟨x6,hx6⟩:∃x6,x6=Value.func (.func 131) #[] #[.pointer (some ⟨W5.heap.size+1+1,0,none⟩),.pointer (some ⟨W5.heap.size,0,none⟩),.pointer (some ⟨W5.heap.size+1,0,none⟩)]:=⟨_,rfl⟩;rw[<-hx6]at k6 cV6;clear hx6 hV6;have hmV6:=(gV6.block _ hlt5 (by simp)).trans hm5;have bV6:=b5.grown gV6 (Nat.le_of_lt hlt5) (fun k e=>by cases e);have hltV6:w.heap.size<V6.heap.size:=by omega
 have cV5:=cV5.grown0 gV6;obtain⟨W6,r6,hm6,g6⟩:=ins_run 6 x6 hmV6 rfl;have b6:=bV6.grown g6 (Nat.le_of_lt hltV6) (fun k e=>by injection e with e;omega);have hlt6:w.heap.size<W6.heap.size:=Nat.lt_of_lt_of_le hltV6 g6.size;have cV5:=cV5.grown g6 ⟨_,_,hmV6⟩;have cV6:=cV6.grown g6 ⟨_,_,hmV6⟩;obtain⟨W7,r7,hm7,g7⟩:=ins_run 7 (.func (.func 110) #[] #[]) hm6 rfl;have b7:=b6.grown g7 (Nat.le_of_lt hlt6) (fun k e=>by injection e with e;omega);have hlt7:w.heap.size<W7.heap.size:=Nat.lt_of_lt_of_le hlt6 g7.size;have cV5:=cV5.grown g7 ⟨_,_,hm6⟩;have cV6:=cV6.grown g7 ⟨_,_,hm6⟩;obtain⟨W8,r8,hm8,g8⟩:=ins_run 8 (.func (.func 111) #[] #[]) hm7 rfl;have b8:=b7.grown g8 (Nat.le_of_lt hlt7) (fun k e=>by injection e with e;omega);have hlt8:w.heap.size<W8.heap.size:=Nat.lt_of_lt_of_le hlt7 g8.size;have cV5:=cV5.grown g8 ⟨_,_,hm7⟩;have cV6:=cV6.grown g8 ⟨_,_,hm7⟩;have k9:=Hd (setter_any 0 3 112 W8);obtain⟨V9,hV9⟩:∃V9,V9=((W8.alloc (.cells #[.int .i64 0] 3)).alloc (.cells #[.int .i64 3] 3)).alloc (.cells #[.func (.func 112) #[] #[]] 153):=⟨_,rfl⟩;rw[<-hV9]at k9;obtain⟨gV9,sV9,cV9⟩:=set_cl W8 V9 w.heap.size 0 3 112 (by omega) hV9;obtain⟨x9,hx9⟩:∃x9,x9=Value.func (.func 131) #[] #[.pointer (some ⟨W8.heap.size+1+1,0,none⟩),.pointer (some ⟨W8.heap.size,0,none⟩),.pointer (some ⟨W8.heap.size+1,0,none⟩)]:=⟨_,rfl⟩;rw[<-hx9]at k9 cV9;clear hx9 hV9;have hmV9:=(gV9.block _ hlt8 (by simp)).trans hm8;have bV9:=b8.grown gV9 (Nat.le_of_lt hlt8) (fun k e=>by cases e);have hltV9:w.heap.size<V9.heap.size:=by omega
 have cV5:=cV5.grown0 gV9;have cV6:=cV6.grown0 gV9;obtain⟨W9,r9,hm9,g9⟩:=ins_run 9 x9 hmV9 rfl;have b9:=bV9.grown g9 (Nat.le_of_lt hltV9) (fun k e=>by injection e with e;omega);have hlt9:w.heap.size<W9.heap.size:=Nat.lt_of_lt_of_le hltV9 g9.size;have cV5:=cV5.grown g9 ⟨_,_,hmV9⟩;have cV6:=cV6.grown g9 ⟨_,_,hmV9⟩;have cV9:=cV9.grown g9 ⟨_,_,hmV9⟩;obtain⟨W10,r10,hm10,g10⟩:=ins_run 10 (.func (.func 113) #[] #[]) hm9 rfl;have b10:=b9.grown g10 (Nat.le_of_lt hlt9) (fun k e=>by injection e with e;omega);have hlt10:w.heap.size<W10.heap.size:=Nat.lt_of_lt_of_le hlt9 g10.size;have cV5:=cV5.grown g10 ⟨_,_,hm9⟩;have cV6:=cV6.grown g10 ⟨_,_,hm9⟩;have cV9:=cV9.grown g10 ⟨_,_,hm9⟩;have hfin:=Hd (show Acts W10 w.heap.size (.map (some w.heap.size))from⟨w.heap.size,x5,x6,x9,rfl,Nat.le_refl _,hm10,cV5,cV6,cV9⟩);have hb:=Hd b10;have hmm:∀t,(Instr.makeMap t none).run Tryz.prog w= .ok (.map (some w.heap.size)) W0:=fun t=>by rw[hW0];exact run_makeMap t w
 clear hm0 b0 hlt0 hm1 b1 hlt1 hm2 b2 hlt2 hm3 b3 hlt3 hm4 b4 hlt4 hm5 b5 hlt5 hm6 b6 hlt6 hm7 b7 hlt7 hm8 b8 hlt8 hm9 b9 hlt9 hm10 b10 hlt10 g1 g2 g3 g4 g5 g6 g7 g8 g9 g10 hmV5 bV5 hltV5 gV5 sV5 cV5 hmV6 bV6 hltV6 gV6 sV6 cV6 hmV9 bV9 hltV9 gV9 sV9 cV9 hW0;go_enter Tryz.func86,Tryz.ntmps86;go_wp2_with fail;refine k5.out.mono ?_;rintro e w' ⟨rfl,rfl⟩;go_wp2_with fail;refine k6.out.mono ?_;rintro e w' ⟨rfl,rfl⟩;go_wp2_with fail;refine k9.out.mono ?_;rintro e w' ⟨rfl,rfl⟩;go_wp2_with fail;go_ret;exact⟨_,rfl,hfin.out,hb.out⟩
theorem snocI(W:World)(base:Nat)(v:Value)(l:List Int)(x:Int)(h:OwnI W base v l)(hl:l.length<=1000000000)(hb:base<=W.heap.size):
  ∃v' w',(Builtin.append_ #[24,24] 24 #[v,.slice (some ⟨W.heap.size,0,none⟩) 1 1]).run Tryz.prog (W.alloc (.cells #[.int .i64 x] 3))= .ok v' w'/\OwnI w' base v' (l++[x])/\(∀w0:World,Below base w0 W->base<=w0.heap.size->w0.heap.size<=base->Below base w0 w') /\
   W.heap.size<=w'.heap.size/\ ∀b o u,b<W.heap.size->v.ownBlock≠some b->W.cell? ⟨b,o,none⟩=some u->w'.cell? ⟨b,o,none⟩=some u:=by
 obtain⟨i0,hi,hz0,hz1,hz2⟩:=info_parts info3;obtain⟨g,cap,w',hr,ho,hg,_,_⟩:=run_append_lies (P:=Tryz.prog) (W.alloc (.cells #[.int .i64 x] 3)) 24 24 base 3 i0 _ 1 8 Tryz.underlying24 hi hz0 hz1 hz2 rfl (by omega) v l.length (cI l) ((show W.ownsRow base 3 1 v l.length (cI l)from h).alloc _) ⟨W.heap.size,0,none⟩ 1 1 [.int .i64 x] rfl
  (World.news_of_block (cs:= #[.int .i64 x]) (t:=3) (fr:=(0,0)) (heap_alloc_new W _)) (by simp[Value.oneCell']) (by omega) (by unfold maxLen;omega) (by omega) (by simp;omega) (W.heap.size+1) (by simp)
 refine⟨_,w',hr,?_,fun w0 B h1 h2=>?_,?_,fun b o u hb2 hne hc=>?_⟩
 ·unfold OwnI;rw[List.length_append,cI,List.map_append];exact ho
 ·exact(B.alloc (by omega) _).grown hg (by simp;omega) (fun k hk=>by have:=(h.base k hk).1;omega)
 ·have:=hg.size;simp at this;omega
 ·rw[hg.cell_far _ (by simp;omega) (fun e=>hne e.symm)];rw[World.cell?_alloc_old _ _ _ (by dsimp only;omega)];exact hc
theorem endsF_snoc(l:List Ed)(i:Int)(k:Nat)(h:k<l.length):endsF (l.take (k+1)) i=endsF (l.take k) i++((if l[k].src=i then[2*l[k].id]else[])++(if l[k].dst=i then[2*l[k].id+1]else[])):=by
 unfold endsF;rw[List.take_succ_eq_append_getElem h,List.flatMap_append]
 simp
theorem endsF_len(l:List Ed)(i:Int):(endsF l i).length<=2*l.length:=by
 induction l with
 | nil=>simp[endsF]
 | cons e t ih =>
  unfold endsF at ih ⊢;rw[List.flatMap_cons,List.length_append,List.length_append,List.length_cons];have h1:(if e.src=i then[2*e.id]else[]).length<=1:=by split<;>simp
  have h2:(if e.dst=i then[2*e.id+1]else[]).length<=1:=by split<;>simp
  omega
theorem endsAt_any(db:Nat)(ev:Value)(l:List Ed)(x:Int)(w:World)(hd:w.cell? ⟨db,1,none⟩=some ev)(hv:EL w ev l)(hn:l.length<=1000000)(hid:∀e∈l,0<=e.id/\e.id<=1000000):
  Calls Tryz.prog 126 #[.pointer (some ⟨db,0,none⟩),.int .i64 x] w fun e w'=>∃r,e= .returned r/\OwnI w' w.heap.size r (endsF l x)/\Below w.heap.size w w':=by
 have cellE:=Hd (show ∀(k:Nat) (hk:k<l.length),∃b o,(∃c,ev= .slice (some ⟨b,o,none⟩) l.length c)/\ ∀W,Below w.heap.size w W->EdAt W b (o+k*6) l[k]from fun k hk=>by
  obtain⟨b,o,c,he,e1,e2,e3⟩:=hv.own (fun e=>by rw[e]at hk;simp at hk);exact⟨b,o,⟨c,he⟩,fun W B=>(e3.below e2 B) k _ (List.getElem?_eq_getElem hk)⟩)
 obtain⟨a,c,rfl⟩:=hv.shape;have hidh:=Hd hid;obtain⟨N,hN⟩:∃N,Hid (N=l.length):=⟨_,rfl⟩;have cellE2:=Hd (show ∀(k:Nat) (hk:k<l.length),∃b o,a=some ⟨b,o,none⟩/\ ∀W,Below w.heap.size w W->EdAt W b (o+k*6) l[k]from fun k hk=>by
  obtain⟨b,o,⟨c',he⟩,h⟩:=cellE.out k hk;injection he with he
  exact⟨b,o,he,h⟩)
 rw[<-hN.out]at hd hn;clear hv hid cellE;go_enter Tryz.func126,Tryz.ntmps126;go_wp2_with fail
 go_loopw [5,14] (fun lv i wr=>∃k:Nat,k<=N/\i= .int .i64 k/\OwnI wr w.heap.size lv (endsF (l.take k) x)/\Below w.heap.size w wr) (fun _ i _=>N-(intOf i).toNat)
 case atStart=>exact⟨0,by omega,rfl,World.ownsRow_nil _ _ _ _,Below.refl _ _⟩
 case round =>
  obtain⟨k,hk,rfl,hown,B⟩:=hrel;have Bs:=B.size;by_cases hlt:k<N
  ·have hkl:k<l.length:=by rw[<-hN.out];exact hlt
   obtain⟨bv,ov,rfl,cv⟩:=cellE2.out k hkl;obtain⟨d0,d1,d2,d3,d4,d5⟩:=cv wr B;have hsn:Hid (endsF (l.take (k+1)) x=endsF (l.take k) x++((if l[k].src=x then[2*l[k].id]else[])++(if l[k].dst=x then[2*l[k].id+1]else[]))):=endsF_snoc l x k hkl;have hlen:=endsF_len (l.take k) x;have hlen2:(endsF (l.take k) x).length<=3000000:=by simp at hlen;omega
   obtain⟨u0,u1⟩:=hidh.out l[k] (List.getElem_mem hkl);have i0:(0:Int)<=(k:Int):=by omega
   have i1:(k:Int)<(N:Int):=by omega
   clear cv hlen;generalize endsF (l.take k) x=L at *
   generalize l[k]=u at *
   obtain⟨we,hwe⟩:∃we,we=wr.alloc (.cells (edCells u) 31):=⟨_,rfl⟩;have Ba:Below w.heap.size w we:=by rw[hwe];exact B.alloc Bs _
   have hze:we.heap.size=wr.heap.size+1:=by rw[hwe];simp
   have hEd:EdAt we wr.heap.size 0 u:=by rw[hwe];exact EdAt.box wr _ 31
   have hownE:OwnI we w.heap.size u5 L:=by rw[hwe];exact(show wr.ownsRow _ _ _ _ _ _ from hown).alloc _
   have hne5:u5.ownBlock≠some wr.heap.size:=fun e=>by have:=(hown.base _ e).2;omega
   have w1:IntKind.i64.wrap (2*u.id)=2*u.id:=IntWalk.i64_in _ (by omega);have w2:IntKind.i64.wrap (2*u.id+1)=2*u.id+1:=IntWalk.i64_in _ (by omega);have hweh:=Hd hwe;unfold edCells at hweh;simp only[EdAt,Nat.zero_add]at hEd;have hEdh:=Hd hEd;have hownh:=Hd hownE;obtain⟨q0,q1,q2,q3,q4,q5⟩:=hEd;rw[hwe]at q0 q1 q2;unfold edCells at q0 q1 q2;clear hwe hown hownE q3 q4 q5;by_cases hs:u.src=x
   ·have t1:(u.src==x)=true:=by simpa using hs
    obtain⟨v1,wx,r1,o1,bl1,sz1,far1⟩:=snocI we w.heap.size _ L (2*u.id) hownh.out (by omega) (by omega);have B1:=bl1 w Ba (Nat.le_refl _) (Nat.le_refl _);have e1:=far1 wr.heap.size 0 _ (by omega) hne5 hEdh.out.1;have e2:=far1 wr.heap.size 2 _ (by omega) hne5 hEdh.out.2.2.1;rw[hweh.out]at r1;simp only[World.size_alloc]at r1;by_cases hd2:u.dst=x
    ·have t2:(u.dst==x)=true:=by simpa using hd2
     obtain⟨v2,wy,r2,o2,bl2,sz2,far2⟩:=snocI wx w.heap.size _ (L++[2*u.id]) (2*u.id+1) o1 (by rw[List.length_append];simp;omega) (by omega);have B2:=Hd (bl2 w B1 (Nat.le_refl _) (Nat.le_refl _));have hnew:Hid (endsF (l.take (k+1)) x=L++[2*u.id]++[2*u.id+1]):=by show _=_;rw[hsn.out,if_pos hs,if_pos hd2];simp
     have o2h:=Hd o2;clear hs hd2 hsn o1 o2 bl1 bl2 far1 far2 B1 hweh
     go_wp2_with (first
      | (at_builtin;refine wpList_append_runB rfl (.tmp 22) (.tmp 26) 24 rfl _ _ rfl rfl _ _ r1 ?_)
      | (at_builtin;refine wpList_append_runB rfl (.tmp 32) (.tmp 37) 24 rfl _ _ rfl rfl _ _ r2 ?_))
     go_roundw
     case rel=>exact⟨k+1,by omega,by go_num,by rw[hnew.out];exact o2h.out,B2.out⟩
     case measure=>simp[intOf];omega
    ·have t2:(u.dst==x)=false:=by simpa using hd2
     have hnew:Hid (endsF (l.take (k+1)) x=L++[2*u.id]):=by show _=_;rw[hsn.out,if_pos hs,if_neg hd2];simp
     have o1h:=Hd o1;have B2:=Hd B1;clear hs hd2 hsn o1 bl1 far1 B1 hweh
     go_wp2_with (at_builtin;refine wpList_append_runB rfl (.tmp 22) (.tmp 26) 24 rfl _ _ rfl rfl _ _ r1 ?_)
     go_roundw
     case rel=>exact⟨k+1,by omega,by go_num,by rw[hnew.out];exact o1h.out,B2.out⟩
     case measure=>simp[intOf];omega
   ·have t1:(u.src==x)=false:=by simpa using hs
    by_cases hd2:u.dst=x
    ·have t2:(u.dst==x)=true:=by simpa using hd2
     obtain⟨v1,wx,r1,o1,bl1,sz1,far1⟩:=snocI we w.heap.size _ L (2*u.id+1) hownh.out (by omega) (by omega);have B2:=Hd (bl1 w Ba (Nat.le_refl _) (Nat.le_refl _));have hnew:Hid (endsF (l.take (k+1)) x=L++[2*u.id+1]):=by show _=_;rw[hsn.out,if_neg hs,if_pos hd2];simp
     have o1h:=Hd o1;rw[hweh.out]at r1;simp only[World.size_alloc]at r1;clear hs hd2 hsn o1 bl1 far1 hweh
     go_wp2_with (at_builtin;refine wpList_append_runB rfl (.tmp 32) (.tmp 37) 24 rfl _ _ rfl rfl _ _ r1 ?_)
     go_roundw
     case rel=>exact⟨k+1,by omega,by go_num,by rw[hnew.out];exact o1h.out,B2.out⟩
     case measure=>simp[intOf];omega
    ·have t2:(u.dst==x)=false:=by simpa using hd2
     have hnew:Hid (endsF (l.take (k+1)) x=L):=by show _=_;rw[hsn.out,if_neg hs,if_neg hd2];simp
     have hfo:=Hd (show OwnI _ _ _ _ from hownh.out);rw[hweh.out]at hfo Ba;clear hs hd2 hsn hweh hownh;go_wp2_with fail
     go_roundw
     case rel=>exact⟨k+1,by omega,by go_num,by rw[hnew.out];exact hfo.out,Ba⟩
     case measure=>simp[intOf];omega
  ·have hk2:k=N:=by omega
   have hfin:Hid (endsF (l.take k) x=endsF l x):=by show _=_;rw[List.take_of_length_le (by rw[hk2,hN.out];exact Nat.le_refl _)]
   rw[hfin.out]at hown;have hE:=Hd hown;have i1:¬(k:Int)<(N:Int):=by omega
   clear hk2 hown;go_wp2_with fail;go_ret;exact⟨_,rfl,hE.out,B⟩
theorem isNaNs_any(x:Int)(w:World):Calls Tryz.prog 151 #[.int .i64 x] w fun e w'=>e= .returned (.bool false)/\w=w':=by
 have t:(x != x)=false:=by simp
 go_enter Tryz.func151,Tryz.ntmps151;go_wp2_with fail;go_ret;exact⟨ret_bool (by simp),rfl⟩
theorem Less_any(x y:Int)(w:World):Calls Tryz.prog 150 #[.int .i64 x,.int .i64 y] w fun e w'=>e= .returned (.bool (decide (x<y)))/\w=w':=by
 have h1:=Hd (isNaN_any x w);go_enter Tryz.func150,Tryz.ntmps150;go_wp2_with fail;refine h1.out.mono ?_;rintro e w' ⟨rfl,rfl⟩;go_wp2_with fail;go_ret;exact⟨rfl,rfl⟩
set_option maxHeartbeats 1000000 in
theorem searchI_any(v:Value)(l:List Int)(x:Int)(w:World)(hv:DL w v l)(hn:l.length<=1000000000000)(hs:Asc l):
  Calls Tryz.prog 146 #[v,.int .i64 x] w (PlacePost (posK l x) (decide (x∈l)) w):=by
 rcases hv with⟨rfl,a,c,rfl⟩|⟨h1,b,o,c,rfl,h3,h4,hL⟩
 ·have hr:decide (x∈([]:List Int))=false:=by simp
  have hp:posK [] x=0:=rfl;rw[hr,hp];clear hs hr hp;go_enter Tryz.func146,Tryz.ntmps146;go_wp2_with fail
  go_loop [7,8] (fun i j=>i= .int .i64 0/\j= .int .i64 0) (fun _ _=>0)
  case atStart=>exact⟨rfl,rfl⟩
  case round =>
   obtain⟨rfl,rfl⟩:=hrel;go_wp2_with fail;go_ret2;exact⟨rfl,Below.refl _ _⟩
 ·obtain⟨N,hN⟩:∃N,Hid (N=l.length):=⟨_,rfl⟩;rw[<-hN.out]at h3 hn ⊢;have hL2:=Hd hL;have hs2:=Hd hs;clear hL hs h1;go_enter Tryz.func146,Tryz.ntmps146;go_wp2_with fail
  go_loop [7,8,9] (fun i j _=>∃(p q:Nat),p<=q/\q<=N/\i= .int .i64 p/\j= .int .i64 q/\Hid (Btw l x p q)) (fun i j _=>(intOf j).toNat-(intOf i).toNat)
  case atStart=>exact⟨0,N,by omega,by omega,rfl,rfl,⟨fun k hk h=>by omega,fun k hk h=>by rw[<-hN.out]at hk;omega⟩⟩
  case round =>
   obtain⟨p,q,hpq,hq,rfl,rfl,hb⟩:=hrel;by_cases hlt:p<q
   ·obtain⟨h,hh⟩:∃h,h=(p+q) / 2:=⟨_,rfl⟩;have hhN:h<l.length:=by rw[<-hN.out];omega
    have e1:((p:Int)+(q:Int)) / 2=((h:Nat):Int):=by omega
    have e2:IntKind.i64.wrap ((p:Int)+(q:Int))=(p:Int)+(q:Int):=IntWalk.i64_in _ (by omega);have e3:IntKind.u64.wrap ((p:Int)+(q:Int))=(p:Int)+(q:Int):=IntWalk.u64_in _ (by omega);have e4:IntKind.i64.wrap ((h:Nat):Int)=(h:Int):=IntWalk.i64_in _ (by omega);have c1:=hL2.out h l[h] (List.getElem?_eq_getElem hhN);have hc:=Hd (Less_any l[h] x w);have i0:(0:Int)<=(h:Int):=by omega
    have i1:(h:Int)<(N:Int):=by omega
    have hup:=Hd (fun(hx:l[h]<x)=>hb.out.up hs2.out hhN hx);have hdn:=Hd (fun(hx:¬l[h]<x)=>hb.out.down hs2.out hhN hx);clear hh;generalize l[h]=u at *
    by_cases hx:u<x
    ·have t1:decide (u<x)=true:=by rw[decide_eq_true_iff];exact hx
     have hnew:=Hd (hup.out hx);rw[t1]at hc;clear hx hup hdn t1;go_wp2_with fail;refine hc.out.mono ?_;rintro e w2 ⟨rfl,rfl⟩;go_wp2_with fail
     go_round
     case rel=>exact⟨h+1,q,by omega,hq,by go_num,rfl,hnew.out⟩
     case measure=>simp[intOf];omega
    ·have t1:decide (u<x)=false:=by rw[decide_eq_false_iff_not];exact hx
     have hnew:=Hd (hdn.out hx);rw[t1]at hc;clear hx hup hdn t1;go_wp2_with fail;refine hc.out.mono ?_;rintro e w2 ⟨rfl,rfl⟩;go_wp2_with fail
     go_round
     case rel=>exact⟨p,h,by omega,by omega,rfl,rfl,hnew.out⟩
     case measure=>simp[intOf];omega
   ·have hpe:p=q:=by omega
    have hpos:Hid (posK l x=p):=posK_eq _ _ _ (by rw[<-hN.out];omega) hb.out.1 (fun j hj h=>hb.out.2 j hj (by omega));by_cases hpN:p<N
    ·have hpl:p<l.length:=by rw[<-hN.out];exact hpN
     have c1:=hL2.out p l[p] (List.getElem?_eq_getElem hpl);have hm:=mem_at l x hs2.out p hpl hb.out.1 (hb.out.2 p hpl (by omega));have i0:(0:Int)<=(p:Int):=by omega
     have i1:(p:Int)<(N:Int):=by omega
     clear hpe;generalize l[p]=u at *
     by_cases hux:u=x
     ·have hfd:Hid (decide (x∈l)=true):=by show _=_;rw[decide_eq_true_iff];exact hm.1 hux
      have t1:(u==x)=true:=by simpa using hux
      clear hm hux;go_wp2_with fail;go_ret2;refine⟨?_,Below.refl _ _⟩;rw[hpos.out,hfd.out];rfl
     ·have hfd:Hid (decide (x∈l)=false):=by show _=_;rw[decide_eq_false_iff_not];exact fun h=>hux (hm.2 h)
      have t1:(u==x)=false:=by simpa using hux
      have k1:=Hd (isNaNs_any u w);clear hm hux;go_wp2_with fail;refine k1.out.mono ?_;rintro e w2 ⟨rfl,rfl⟩;go_wp2_with fail;go_ret2;refine⟨?_,Below.refl _ _⟩;rw[hpos.out,hfd.out];rfl
    ·have hnm:Hid (decide (x∈l)=false):=by
      show _=_;rw[decide_eq_false_iff_not];exact mem_none _ _ (fun j hj=>hb.out.1 j hj (by rw[<-hN.out]at hj;omega))
     have i1:¬(p:Int)<(N:Int):=by omega
     have i2:decide ((p:Int)<(N:Int))=false:=by rw[decide_eq_false_iff_not];omega
     have i3:decide (p<N)=false:=by rw[decide_eq_false_iff_not];omega
     clear hpe;go_wp2_with fail;go_ret2;refine⟨?_,Below.refl _ _⟩;rw[hpos.out,hnm.out];rfl
theorem posI_lt(l:List Int)(x:Int)(h:Asc l)(hx:x∈l):posK l x<l.length:=by
 induction l with
 | nil=>simp at hx
 | cons v t ih =>
  rw[Asc,List.pairwise_cons]at h;by_cases hv:v<x
  ·have e:posK (v::t) x=posK t x+1:=by simp[posK,hv]
   rcases List.mem_cons.1 hx with h2|h2
   ·omega
   ·have:=ih h.2 h2;rw[e];simp;omega
  ·have e:posK (v::t) x=0:=by simp[posK,hv]
   rw[e];simp
def contF:List Int->List Int->Bool
 | _,[]=>true
 | A,n::t=>if n∈A then contF (A.drop (posK A n+1)) t else false
theorem drop_gt(A:List Int)(n:Int)(h:Asc A)(hn:n∈A):∀m,m∈A.drop (posK A n+1)↔m∈A/\n<m:=by
 induction A with
 | nil=>simp at hn
 | cons a t ih =>
  intro m;rw[Asc,List.pairwise_cons]at h;by_cases hx:a<n
  ·have e:posK (a::t) n=posK t n+1:=by simp[posK,hx]
   have hnt:n∈t:=by rcases List.mem_cons.1 hn with rfl|h2;omega;exact h2
   rw[e,List.drop_succ_cons,ih h.2 hnt m,List.mem_cons];constructor
   ·rintro⟨h1,h2⟩;exact⟨.inr h1,h2⟩
   ·rintro⟨rfl|h1,h2⟩
    ·omega
    ·exact⟨h1,h2⟩
  ·have e:posK (a::t) n=0:=by simp[posK,hx]
   have han:a=n:=by rcases List.mem_cons.1 hn with h2|h2;exact h2.symm;have:=h.1 n h2;omega
   rw[e,List.drop_succ_cons,List.drop_zero,List.mem_cons];constructor
   ·intro h1;have:=h.1 m h1;exact⟨.inr h1,by omega⟩
   ·rintro⟨rfl|h1,h2⟩
    ·omega
    ·exact h1
theorem contF_eq(S:List Int):∀A,Asc A->contF A S=(ascI S&&S.all fun n=>decide (n∈A)):=by
 induction S with
 | nil=>intro A _;simp[contF,ascI]
 | cons n t ih =>
  intro A hA;unfold contF;by_cases hn:n∈A
  ·rw[if_pos hn,ih _ (List.Pairwise.sublist (List.drop_sublist _ _) hA),Bool.eq_iff_iff];simp only[ascI,Bool.and_eq_true,decide_eq_true_eq,List.all_eq_true,List.pairwise_cons,List.mem_cons,forall_eq_or_imp,drop_gt A n hA hn,Asc];constructor
   ·rintro⟨h1,h2⟩;exact⟨⟨fun m hm=>(h2 m hm).2,h1⟩,hn,fun m hm=>(h2 m hm).1⟩
   ·rintro⟨⟨h1,h2⟩,_,h3⟩;exact⟨h2,fun m hm=>⟨h3 m hm,h1 m hm⟩⟩
  ·rw[if_neg hn];simp[hn]
theorem DL.cut{W:World}{b o n c:Nat}{A:List Int}(h:DL W (.slice (some ⟨b,o,none⟩) n c) A)(k:Nat)(hk:k<=A.length):
  DL W (.slice (if c=k then some ⟨b,o,none⟩else some ⟨b,o+k,none⟩) (n-k) (c-k)) (A.drop k):=by
 by_cases hA:A.drop k=[]
 ·rw[hA];have hl:A.length<=k:=by simpa using hA
  have hn:n=A.length:=by obtain⟨a',c',e⟩:=h.shape;injection e
  exact .inl ⟨rfl,_,_,by rw[show n-k=0 by omega]⟩
 ·have hl:k<A.length:=by
   rcases Nat.lt_or_ge k A.length with h1|h1
   ·exact h1
   ·exact absurd (List.drop_of_length_le h1) hA
  obtain⟨b',o',c',e,e1,e2,e3⟩:=h.own (fun e=>by rw[e]at hl;simp at hl);injection e with ea en ec
  injection ea with ea
  injection ea with eb eo
  subst eb eo en ec;refine .inr ⟨hA,b,o+k,c-k,?_,by rw[List.length_drop];omega,e2,fun j x hx=>?_⟩
  ·rw[if_neg (by omega),List.length_drop]
  ·rw[Nat.add_assoc];exact e3 (k+j) x (by rw[List.getElem?_drop]at hx;exact hx)
set_option maxHeartbeats 1000000 in
theorem contains_any(va vs:Value)(A S:List Int)(w:World)(ha:DL w va A)(hs:DL w vs S)(hA:Asc A)(hn:A.length<=1000000000000)(hm:S.length<=1000000000000):
  Calls Tryz.prog 133 #[va,vs] w fun e w'=>e= .returned (.bool (contF A S))/\Below w.heap.size w w':=by
 obtain⟨a2,c2,rfl⟩:=hs.shape;have cellS:=Hd (show ∀(k:Nat) (hk:k<S.length),∃b o,a2=some ⟨b,o,none⟩/\ ∀W,Below w.heap.size w W->W.cell? ⟨b,o+k,none⟩=some (.int .i64 S[k])from fun k hk=>by
  obtain⟨b,o,c,he,e1,e2,e3⟩:=hs.own (fun e=>by rw[e]at hk;simp at hk);injection he with he
  exact⟨b,o,he,fun W B=>(e3.below e2 B) k _ (List.getElem?_eq_getElem hk)⟩)
 obtain⟨N,hN⟩:∃N,Hid (N=S.length):=⟨_,rfl⟩;rw[<-hN.out]at hm ⊢;have hah:=Hd ha;obtain⟨a1,c1,hae⟩:=ha.shape;have hAh:=Hd hA;obtain⟨M,hM⟩:∃M,Hid (M=A.length):=⟨_,rfl⟩;rw[<-hM.out]at hae hn;clear hs ha hA;subst hae;go_enter Tryz.func133,Tryz.ntmps133;go_wp2_with fail
 go_loopw [0,11] (fun av i wr=>∃(k:Nat) (A':List Int),k<=N/\i= .int .i64 k/\Hid (contF A S=contF A' (S.drop k))/\Hid (DL wr av A')/\Hid (Asc A')/\A'.length<=1000000000000/\Below w.heap.size w wr) (fun _ i _=>N-(intOf i).toNat)
 case atStart=>exact⟨0,A,by omega,rfl,rfl,hah.out,hAh.out,by rw[<-hM.out];exact hn,Below.refl _ _⟩
 case round =>
  obtain⟨k,A',hk,rfl,hR,hD,hAs,hAn,B⟩:=hrel;have Bs:=B.size;by_cases hlt:k<N
  ·have hkl:k<S.length:=by rw[<-hN.out];exact hlt
   obtain⟨bv,ov,rfl,cv⟩:=cellS.out k hkl;have d0:=cv wr B;have i0:(0:Int)<=(k:Int):=by omega
   have i1:(k:Int)<(N:Int):=by omega
   have hdr:Hid (contF A S=if S[k]∈A' then contF (A'.drop (posK A' S[k]+1)) (S.drop (k+1))else false):=by show _=_;rw[hR.out,dropD S k hkl];rfl
   generalize S[k]=x at *
   have hsr:=Hd (searchI_any _ A' x wr hD.out hAn hAs.out);unfold PlacePost at hsr;clear cv hR;by_cases hx:x∈A'
   ·rw[if_pos hx]at hdr;rw[decide_eq_true hx]at hsr;have hne:A'≠[]:=fun e=>by rw[e]at hx;simp at hx
    obtain⟨b,o,c,hav,hlc,hbl,hL⟩:=hD.out.own hne;have hple:posK A' x+1<=A'.length:=posI_lt A' x hAs.out hx;have hDs:=hD.out;rw[hav]at hDs;have hcut:=Hd (DL.cut hDs (posK A' x+1) hple);have hasc:=Hd (show Asc (A'.drop (posK A' x+1))from List.Pairwise.sublist (List.drop_sublist _ _) hAs.out);have hln:(A'.drop (posK A' x+1)).length<=1000000000000:=by rw[List.length_drop];omega
    generalize posK A' x=p at *
    obtain⟨n,hn'⟩:∃n,n=A'.length:=⟨_,rfl⟩;rw[<-hn']at hlc hAn hple hav hcut;subst hav;have e0:IntKind.i64.wrap ((p:Int)+1)=(p:Int)+1:=IntWalk.i64_in _ (by omega);have e1:(0:Int)<=(p:Int)+1:=by omega
    have e2:(p:Int)+1<=(n:Int):=by omega
    have e5:((p:Int)+1).toNat=p+1:=by omega
    clear hn' hL hD hAs hx hne hDs;obtain⟨ad,had⟩:∃ad,(if c=p+1 then some (⟨b,o,none⟩:Addr)else some ⟨b,o+(p+1),none⟩)=some ad:=by
     by_cases hc:c=p+1
     ·exact⟨_,if_pos hc⟩
     ·exact⟨_,if_neg hc⟩
    rw[had]at hcut;go_wp2_with fail;refine hsr.out.mono ?_;rintro e w2 ⟨rfl,b2⟩;have hk2:=Hd (hcut.out.below b2);have hB2:=Hd (B.trans (b2.mono Bs));clear hcut b2;go_wp2_with fail
    go_roundw
    case rel=>exact⟨k+1,A'.drop (p+1),by omega,by go_num,hdr.out,hk2.out,hasc.out,hln,hB2.out⟩
    case measure=>simp[intOf];omega
   ·rw[if_neg hx]at hdr;rw[decide_eq_false hx]at hsr;clear hx hD hAs;go_wp2_with fail;refine hsr.out.mono ?_;rintro e w2 ⟨rfl,b2⟩;go_wp2_with fail;go_ret;exact⟨ret_bool hdr.out.symm,B.trans (b2.mono Bs)⟩
  ·have hk2:k=N:=by omega
   have hf:Hid (contF A S=true):=by show _=_;rw[hR.out,List.drop_of_length_le (by rw[hk2,hN.out];exact Nat.le_refl _)];rfl
   have i1:¬(k:Int)<(N:Int):=by omega
   clear hk2 hR hD hAs;go_wp2_with fail;go_ret;exact⟨ret_bool hf.out.symm,B⟩
set_option maxHeartbeats 1000000 in
theorem Index_any(v:Value)(l:List Int)(x:Int)(w:World)(hv:DL w v l)(hn:l.length<=1000000000000):
  Calls Tryz.prog 140 #[v,.int .i64 x] w fun e w'=>e= .returned (.int .i64 (plI l x))/\w=w':=by
 have cellL:=Hd (show ∀(k:Nat) (hk:k<l.length),∃b o,(∃c,v= .slice (some ⟨b,o,none⟩) l.length c)/\w.cell? ⟨b,o+k,none⟩=some (.int .i64 l[k])from fun k hk=>by
  obtain⟨b,o,c,he,e1,e2,e3⟩:=hv.own (fun e=>by rw[e]at hk;simp at hk);exact⟨b,o,⟨c,he⟩,e3 k _ (List.getElem?_eq_getElem hk)⟩)
 obtain⟨a,c,rfl⟩:=hv.shape;obtain⟨N,hN⟩:∃N,Hid (N=l.length):=⟨_,rfl⟩;rw[<-hN.out]at hn ⊢;clear hv;go_enter Tryz.func140,Tryz.ntmps140;go_wp2_with fail
 go_loop [8] (fun i=>∃k:Nat,k<=N/\i= .int .i64 k/\Hid (∀j (h:j<l.length),j<k->l[j]≠x)) (fun i=>N-(intOf i).toNat)
 case atStart=>exact⟨0,by omega,rfl,fun j h hj=>by omega⟩
 case round =>
  obtain⟨k,hk,rfl,hno⟩:=hrel;by_cases hlt:k<N
  ·have hkl:k<l.length:=by rw[<-hN.out];exact hlt
   obtain⟨b,o,⟨c',he⟩,c0⟩:=cellL.out k hkl;injection he with he
   subst he;have i0:(0:Int)<=(k:Int):=by omega
   have i1:(k:Int)<(N:Int):=by omega
   have hat:=Hd (plI_at l x k hkl hno.out);have hup:=Hd (fun(hne:l[k]≠x) j (h:j<l.length) (hj:j<k+1)=>show l[j]≠x from by
    rcases Nat.lt_or_ge j k with h1|h1
    ·exact hno.out j h h1
    ·have:j=k:=by omega
     subst this;exact hne)
   generalize l[k]=u at *
   by_cases hx:u=x
   ·have t1:(x==u)=true:=by simpa using hx.symm
    have hr:=Hd (hat.out hx);clear hat hup hx;go_wp2_with fail;go_ret;exact⟨ret_int hr.out.symm,rfl⟩
   ·have t1:(x==u)=false:=by simpa using fun e=>hx e.symm
    have hr:=Hd (hup.out hx);clear hat hup hx;go_wp2_with fail
    go_round
    case rel=>exact⟨k+1,by omega,by go_num,hr.out⟩
    case measure=>simp[intOf];omega
  ·have hk2:k=N:=by omega
   have hf:Hid (plI l x= -1):=plI_none l x (fun j h=>hno.out j h (by rw[hk2,hN.out];exact h));have i1:¬(k:Int)<(N:Int):=by omega
   clear hk2;go_wp2_with fail;go_ret;exact⟨ret_int hf.out.symm,rfl⟩
theorem Contains_any(v:Value)(l:List Int)(x:Int)(w:World)(hv:DL w v l)(hn:l.length<=1000000000000):
  Calls Tryz.prog 125 #[v,.int .i64 x] w fun e w'=>e= .returned (.bool (decide (x∈l)))/\w=w':=by
 have h:=Hd (Index_any v l x w hv hn);have hneg:=plI_neg l x;obtain⟨a,c,rfl⟩:=hv.shape;have hr:Hid (decide (x∈l)=decide (0<=plI l x)):=by
  show _=_;rw[Bool.eq_iff_iff];simp only[decide_eq_true_eq];constructor
  ·intro h1;exact Int.not_lt.1 (fun h2=>hneg.1 h2 h1)
  ·intro h1;exact Decidable.by_contra (fun h2=>by have:=hneg.2 h2;omega)
 generalize plI l x=i at *
 generalize l.length=n at *
 clear hneg hv;go_enter Tryz.func125,Tryz.ntmps125;go_wp2_with fail;refine h.out.mono ?_;rintro e w2 ⟨rfl,rfl⟩;go_wp2_with fail;go_ret;exact⟨ret_bool hr.out.symm,rfl⟩
end Go.Proofs.YtlaldnlgapeckaaGreat
