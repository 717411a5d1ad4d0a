/- Facts. -/
import Derived.Test.YtlaldnlgapeckaaGreatVYMe
set_option linter.unusedSimpArgs false
set_option maxRecDepth 100000
set_option maxHeartbeats 4000000
namespace Go.Proofs.YtlaldnlgapeckaaGreat
open Go.RowKit
def nilS:Value:= .slice none 0 0
def zCells:Array Value:=chCells zC nilS nilS
theorem size33:(Tryz.prog.info? 33).map (·.size)=some 13:=by kernel_rfl
theorem info33(c:Ch)(a b:Value):(Tryz.prog.info? 33).map (·.size)=some (chCells c a b).size:=size33
theorem ch_all(c:Ch)(a1 a2 a3 b1 b2 b3):(chCells c (.slice a1 a2 a3) (.slice b1 b2 b3)).all (·.oneCell')=true:=by simp[chCells,Value.oneCell']
theorem z_all:zCells.all (·.oneCell')=true:=ch_all zC _ _ _ _ _ _
theorem nil_O(W:World):OwnI W 0 nilS []:=World.ownsRow_nil _ _ _ _
theorem OwnI.base0{W:World}{B:Nat}{v:Value}{l:List Int}(h:OwnI W B v l):OwnI W 0 v l:=by
 unfold OwnI at h ⊢;refine⟨h.1,?_⟩;rcases h.2 with q|⟨g,cap,cur,q1,q2,q3⟩
 ·exact .inl q
 ·exact .inr ⟨g,cap,cur,q1,Nat.zero_le _,q3⟩
theorem results_cell_tmp_row{P:Program}{fn:Func}{p q:Tmp}{ty:TypeId}(h:fn.results= #[.cell p ty,.tmp q])(tmps:Array Value)(w:World)(g:Nat)(t:TypeId)(cs:Array Value)(fr:Nat × Nat)(d:TypeDesc)(u:Value)
  (hp:tmps.getD p undef= .pointer (some ⟨g,0,none⟩)) (hq:tmps.getD q undef=u) (hg:w.heap[g]?=some (.cells cs t fr))
  (hu:P.underlying ty=some d) (hd:(match d with| .struct _| .array _ _=>true|_=>false)=true) (hi:(P.info? ty).map (·.size)=some cs.size) :
  (results fn tmps).run P w= .ok (.tuple #[.agg cs,u]) w:=by
 have hp':tmps[p]?.getD undef= .pointer (some ⟨g,0,none⟩):=by simpa using hp
 have hq':tmps[q]?.getD undef=u:=by simpa using hq
 simp[results,h,hp',hq',asAddr,run_loadVar_row w g t ty cs fr d hg hu hd hi]
def ActPost(B db:Nat)(w:World)(r:Option (Gr × Ch))(e:Ending)(w':World):Prop :=
 KD B w w'/\match r with
  | none=>e= .returned (.tuple #[.agg zCells,.bool false])
  | some (g',u)=>∃a b,e= .returned (.tuple #[.agg (chCells u a b),.bool true])/\Draft w' B db g'/\OwnI w' 0 a u.ends/\OwnI w' 0 b u.deps
theorem act_world(B:Nat)(w w1:World)(c:Ch)(a b:Value)(h:w1=(w.alloc (.cells (chCells c a b) 33)).alloc (.cells zCells 33)):
  Below w.heap.size w w1/\w1.heap.size=w.heap.size+2/\ ∀W,KD B w1 W->W.heap[w.heap.size]?=some (.cells (chCells c a b) 33 (0,0))/\W.heap[w.heap.size+1]?=some (.cells zCells 33 (0,0)):=by
 subst h;refine⟨((Below.refl _ w).alloc (Nat.le_refl _) _).alloc (by simp) _,by simp,fun W K=>⟨K.keep _ _ ?_ rfl,K.keep _ _ ?_ rfl⟩⟩
 ·rw[Below.heap_alloc _ _ _ (by simp)];exact heap_alloc_new w _
 ·have:=heap_alloc_new (w.alloc (.cells (chCells c a b) 33)) (.cells zCells 33);simpa using this
theorem ch_cells{W:World}{g:Nat}{c:Ch}{a b:Value}(h:W.heap[g]?=some (.cells (chCells c a b) 33 (0,0))):
  W.cell? ⟨g,0,none⟩=some (.int .i64 c.kind)/\W.cell? ⟨g,1,none⟩=some (.int .i64 c.v.id)/\W.cell? ⟨g,2,none⟩=some (.int .i64 c.v.side)/\W.cell? ⟨g,3,none⟩=some (.int .i64 c.e.id)/\W.cell? ⟨g,4,none⟩=some (.int .i64 c.e.src) /\
  W.cell? ⟨g,5,none⟩=some (.int .i64 c.e.dst)/\W.cell? ⟨g,6,none⟩=some (.bool c.e.dir)/\W.cell? ⟨g,7,none⟩=some (.int .i64 c.e.wt)/\W.cell? ⟨g,8,none⟩=some (.int .i64 c.e.cap)/\W.cell? ⟨g,9,none⟩=some (.int .i64 c.id) /\
  W.cell? ⟨g,10,none⟩=some (.int .i64 c.n)/\W.cell? ⟨g,11,none⟩=some a/\W.cell? ⟨g,12,none⟩=some b:=by
 refine⟨?_,?_,?_,?_,?_,?_,?_,?_,?_,?_,?_,?_,?_⟩<;>(rw[cell_of_row _ _ _ _ _ _ h];rfl)
theorem Ok.ids{g:Gr}(h:Ok g):∀e∈g.es,0<=e.id/\e.id<=1000000:=fun e he=>by have:=((Ed.okIn_iff e _).1 (h.eok e he)).1;omega
theorem fin_none{B db:Nat}{w w1 W:World}{r:Option (Gr × Ch)}(hB:B<=w.heap.size)(h1:KD B w w1)(k:KD B w1 W)(cs:Array Value)(hr:r=none):ActPost B db w r (.returned (.tuple #[.agg zCells,.bool false])) (W.setRow (w.heap.size+1) cs):=by
 subst hr;exact⟨(h1.trans k).setRowNew (by omega) (by omega) cs,rfl⟩
theorem fin_some{B db:Nat}{w w1 W:World}{vv ev dv mv a b:Value}{g':Gr}{u:Ch}{r:Option (Gr × Ch)}{old:Array Value}(hB:B<=w.heap.size)(h1:KD B w w1)(k:KD B w1 W)(hd:DrV W B db vv ev dv mv g')(ho:W.heap[w.heap.size+1]?=some (.cells old 33 (0,0)))
  (hr:r=some (g',u)) (ha:OwnI (W.setRow (w.heap.size+1) (chCells u a b)) 0 a u.ends) (hb:OwnI (W.setRow (w.heap.size+1) (chCells u a b)) 0 b u.deps) :
  ActPost B db w r (.returned (.tuple #[.agg (chCells u a b),.bool true])) (W.setRow (w.heap.size+1) (chCells u a b)):=by
 subst hr;exact⟨(h1.trans k).setRowNew (by omega) (by omega) _,_,_,rfl,⟨_,_,_,_,hd.setRow33 ho⟩,ha,hb⟩
theorem act1_any(B db:Nat)(vv ev dv mv:Value)(g:Gr)(vc:Value)(c:Ch)(w:World)(h:DrV w B db vv ev dv mv g)(hg:Ok g)(hc:∀W,KD B w W->CV W vc c)(_hlen:c.ends.length<=1000000/\c.deps.length<=1000000):
  Calls Tryz.prog 103 #[.pointer (some ⟨db,0,none⟩),vc] w (ActPost B db w (act1 g c)):=by
 obtain⟨a,b,rfl,_,_⟩:=hc w (KD.refl _ _);have hca:Hid (∀W,KD B w W->DL W a c.ends/\DL W b c.deps):=fun W K=>by
  obtain⟨a',b',e,h1,h2⟩:=hc W K;injection e with e
  have e1:a=a':=by injection e with e;simp at e;exact e.1
  have e2:b=b':=by injection e with e;simp at e;exact e.2
  exact⟨e1▸h1,e2▸h2⟩
 obtain⟨w1,hw1⟩:∃w1,w1=(w.alloc (.cells (chCells c a b) 33)).alloc (.cells zCells 33):=⟨_,rfl⟩;obtain⟨B1,z1,hbx⟩:=act_world B w w1 c a b hw1;have hB:=h.base;have hd:=h.below B1;have hK1:KD B w w1:=KD.of B1 hB;have hDr:=Hd (fun(W:World) (b0:Below w1.heap.size w1 W)=>hd.below b0);have hKD:=Hd (fun(W:World) (b0:Below w1.heap.size w1 W)=>KD.of b0 hd.base);have hcell:=Hd (fun(W:World) (K:KD B w1 W)=>ch_cells (hbx W K).1);have hrx:=Hd (fun(W:World) (K:KD B w1 W)=>(hbx W K).2);have hd4:=Hd (fun(W:World) (b0:Below w1.heap.size w1 W)=>(hd.below b0).cells);have hw1h:=Hd hw1;obtain⟨ah,ac,hae⟩:=(hca.out w (KD.refl _ _)).1.shape;obtain⟨bh,bc,hbe⟩:=(hca.out w (KD.refl _ _)).2.shape;have hvl:=hg.vlen;have hel:=hg.elen;have k1:=Hd (fun W (b0:Below w1.heap.size w1 W)=>canAdd_any db vv g.vs c.v W (hDr.out W b0).cells.1 (hDr.out W b0).v.VL (by omega) hg.vasc);have k2:=Hd (fun W (b0:Below w1.heap.size w1 W)=>insert_any B db vv ev dv mv g c.v W (hDr.out W b0) (by omega) hg.vasc);have hact:Hid (act1 g c=if(c.v.ok&&!decide (c.v.id∈keysV g.vs))=true then some ({g with vs:=insV g.vs c.v},{zC with kind:=2,id:=c.v.id})else none):=rfl;generalize act1 g c=R at *
 generalize (c.v.ok&&!decide (c.v.id∈keysV g.vs))=x1 at *
 unfold Vx.val at k1 k2;have hz:Hid (zCells=zCells):=rfl;unfold chCells zCells chCells zC zV zE nilS at hw1h;unfold chCells;have d9:=hcell.out w1 (KD.refl _ _);subst hae hbe;clear hw1 hbx h hd hc hca;cases x1 with
 | false =>
  obtain⟨c0,c1,c2,_⟩:=d9;rw[hw1h.out]at c0 c1 c2;go_enter Tryz.func103,Tryz.ntmps103;go_wp2_with fail;rw[<-hw1h.out];with_reducible refine(k1.out w1 (Below.refl _ _)).mono ?_
  rintro e w2 ⟨rfl,b2⟩;have r2:=hrx.out w2 (hKD.out w2 b2)
  go_wp2_with (refine wpList_store_row rfl 33 (.tmp 4) (.tmp 11) rfl (w.heap.size+1) zCells rfl rfl 33 _ (r2) (info33 _ _ _) rfl z_all ?_)
  refine bodyPost_ret (results_cell_tmp_row (fn:=Tryz.f103) rfl _ _ (w.heap.size+1) 33 zCells (0,0) _ _ rfl rfl (setRow_heap _ _ _ _ _ _ r2) Tryz.underlying33 rfl (info33 _ _ _)) rfl ?_;exact fin_none hB hK1 (hKD.out w2 b2) _ (hact.out.trans (if_neg (by simp)))
 | true =>
  obtain⟨c0,c1,c2,_⟩:=d9;rw[hw1h.out]at c0 c1 c2;go_enter Tryz.func103,Tryz.ntmps103;go_wp2_with fail;rw[<-hw1h.out];with_reducible refine(k1.out w1 (Below.refl _ _)).mono ?_
  rintro e w2 ⟨rfl,b2⟩;obtain⟨c0,c1,c2,_⟩:=hcell.out w2 (hKD.out w2 b2);go_wp2_with fail;with_reducible refine(k2.out w2 b2).mono ?_
  rintro e w3 ⟨rfl,vv',hD,hK⟩;have K3:=(hKD.out w2 b2).trans hK;have r3:=hrx.out w3 K3;obtain⟨c0,c1,c2,_⟩:=hcell.out w3 K3
  go_wp2_with (refine wpList_store_row rfl 33 (.tmp 4) (.tmp 19) rfl (w.heap.size+1) (chCells {zC with kind:=2,id:=c.v.id} (.slice none 0 0) (.slice none 0 0)) rfl rfl 33 _ (r3) (info33 _ _ _) rfl (ch_all _ _ _ _ _ _ _) ?_)
  refine bodyPost_ret (results_cell_tmp_row (fn:=Tryz.f103) rfl _ _ (w.heap.size+1) 33 (chCells {zC with kind:=2,id:=c.v.id} (.slice none 0 0) (.slice none 0 0)) (0,0) _ _ rfl rfl (setRow_heap _ _ _ _ _ _ r3) Tryz.underlying33 rfl (info33 _ _ _)) rfl ?_;exact fin_some hB hK1 K3 hD r3 (hact.out.trans (if_pos (by simp))) (nil_O _) (nil_O _)
theorem act2_any(B db:Nat)(vv ev dv mv:Value)(g:Gr)(vc:Value)(c:Ch)(w:World)(h:DrV w B db vv ev dv mv g)(hg:Ok g)(hc:∀W,KD B w W->CV W vc c)(_hlen:c.ends.length<=1000000/\c.deps.length<=1000000):
  Calls Tryz.prog 104 #[.pointer (some ⟨db,0,none⟩),vc] w (ActPost B db w (act2 g c)):=by
 obtain⟨a,b,rfl,_,_⟩:=hc w (KD.refl _ _);have hca:Hid (∀W,KD B w W->DL W a c.ends/\DL W b c.deps):=fun W K=>by
  obtain⟨a',b',e,h1,h2⟩:=hc W K;injection e with e
  have e1:a=a':=by injection e with e;simp at e;exact e.1
  have e2:b=b':=by injection e with e;simp at e;exact e.2
  exact⟨e1▸h1,e2▸h2⟩
 obtain⟨w1,hw1⟩:∃w1,w1=(w.alloc (.cells (chCells c a b) 33)).alloc (.cells zCells 33):=⟨_,rfl⟩;obtain⟨B1,z1,hbx⟩:=act_world B w w1 c a b hw1;have hB:=h.base;have hd:=h.below B1;have hK1:KD B w w1:=KD.of B1 hB;have hDr:=Hd (fun(W:World) (b0:Below w1.heap.size w1 W)=>hd.below b0);have hKD:=Hd (fun(W:World) (b0:Below w1.heap.size w1 W)=>KD.of b0 hd.base);have hcell:=Hd (fun(W:World) (K:KD B w1 W)=>ch_cells (hbx W K).1);have hrx:=Hd (fun(W:World) (K:KD B w1 W)=>(hbx W K).2);have hd4:=Hd (fun(W:World) (b0:Below w1.heap.size w1 W)=>(hd.below b0).cells);have hw1h:=Hd hw1;obtain⟨ah,ac,hae⟩:=(hca.out w (KD.refl _ _)).1.shape;obtain⟨bh,bc,hbe⟩:=(hca.out w (KD.refl _ _)).2.shape;have hvl:=hg.vlen;have hel:=hg.elen;have k1:=Hd (fun W (b0:Below w1.heap.size w1 W)=>has_any vv g.vs c.id W (hDr.out W b0).v.VL (by omega) hg.vasc);have k2:=Hd (fun W (b0:Below w1.heap.size w1 W)=>Contains_any dv g.ds c.id W (hDr.out W b0).d.DL (by have:=hg.dlen;omega));have hids:=hg.ids;have k3:=Hd (fun W (b0:Below w1.heap.size w1 W)=>endsAt_any db ev g.es c.id W (hDr.out W b0).cells.2.1 (hDr.out W b0).e.EL (by omega) hids);have k4:=Hd (fun W (b0:Below w1.heap.size w1 W) (hx:c.id∈keysV g.vs)=>remove_any B db vv ev dv mv g c.id W (hDr.out W b0) (by omega) hg.vasc hx);have hact:Hid (act2 g c=if(decide (c.id∈keysV g.vs)&&!decide (c.id∈g.ds)&&decide (endsF g.es c.id=[]))=true then some ({g with vs:=delV g.vs c.id},{zC with kind:=1,v:=getV g.vs c.id})else none):=rfl;have hcr:=Hd (fun(W:World) (b0:Below w1.heap.size w1 W)=>show W.cell? ⟨db,0,none⟩=some vv/\W.cell? ⟨db,2,none⟩=some dv/\W.cell? ⟨w.heap.size,9,none⟩=some (.int .i64 c.id)from⟨(hd4.out W b0).1,(hd4.out W b0).2.2.1,(hcell.out W (hKD.out W b0)).2.2.2.2.2.2.2.2.2.1⟩);have hE0:Hid (∀n:Nat,n=(endsF g.es c.id).length->(decide (endsF g.es c.id=[])=decide (n=0))):=fun n e=>by rw[e,Bool.eq_iff_iff];simp
 generalize act2 g c=R at *
 generalize endsF g.es c.id=E at *
 obtain⟨vh,vc,hve⟩:=hd.v.VL.shape;obtain⟨dh,dc,hde⟩:=hd.d.DL.shape;generalize hx1:decide (c.id∈keysV g.vs)=x1 at *
 generalize decide (c.id∈g.ds)=x2 at *
 generalize getV g.vs c.id=gu at *
 unfold Vx.val at k4;unfold chCells zCells chCells zC zV zE nilS at hw1h;unfold chCells;have d9:=hcell.out w1 (KD.refl _ _);subst hae hbe;clear hw1 hbx h hd hc hca;subst hve hde;generalize g.vs.length=nv at *
 generalize g.ds.length=nd at *
 cases x1 with
 | false =>
  clear d9 k2 k3 k4;go_enter Tryz.func104,Tryz.ntmps104;go_wp2_with fail;rw[<-hw1h.out];refine wp_region_F (fun w':World=>Below w1.heap.size w1 w') 999 (by kernel_rfl) (Below.refl _ _).drew (fun hHeld=>?_);refine tkP 0 rfl ?_;refine tkP 1 rfl ?_;refine tkP 2 rfl ?_;refine tkP 3 rfl ?_;refine tkP 4 rfl ?_ (by(intro w hSw;obtain⟨d0,d2,d9⟩:=hcr.out w hSw;go_simp)<;>with_reducible rfl);refine tkP 5 rfl ?_;refine tkP 6 rfl ?_ (by(intro w hSw;obtain⟨d0,d2,d9⟩:=hcr.out w hSw;go_simp)<;>with_reducible rfl);refine rdy [7] ?_;refine arC rfl (fun K hK=>?_) ?_
  ·skip
   go_simp;with_reducible refine(k1.out _ hHeld).mono ?_
   rintro e w2 ⟨rfl,b⟩;have h2:Below w1.heap.size w1 w2:=hHeld.trans (b.mono hHeld.size);clear b;go_wp2_with fail;refine hK.out _ _ ?_ (fun hHeld=>?_)
   ·exact h2
   clear hK K;try simp only[Act.put,zT,z0,zS]
   refine tkP 8 rfl ?_;refine tkP 9 rfl ?_;refine tkU 10 rfl ?_;refine tkU 11 rfl ?_;refine tkU 12 rfl ?_;refine tkU 13 rfl ?_;refine tkU 14 rfl ?_;refine tkU 15 rfl ?_;refine tkU 16 rfl ?_;refine tkU 17 rfl ?_;refine tkP 18 rfl ?_;refine tkP 19 rfl ?_;refine tkU 20 rfl ?_;refine tkU 21 rfl ?_;refine tkU 22 rfl ?_;refine tkU 23 rfl ?_;refine tkU 24 rfl ?_;refine tkU 25 rfl ?_;refine tkP 26 rfl ?_;refine wpAnyF_done (by kernel_rfl) ?_ _;have r2:=hrx.out _ (hKD.out _ hHeld)
   go_wp2_with (refine wpList_store_row rfl 33 (.tmp 4) (.tmp 33) rfl (w.heap.size+1) zCells rfl rfl 33 _ (r2) (info33 _ _ _) rfl z_all ?_)
   refine bodyPost_ret (results_cell_tmp_row (fn:=Tryz.f104) rfl _ _ (w.heap.size+1) 33 zCells (0,0) _ _ rfl rfl (setRow_heap _ _ _ _ _ _ r2) Tryz.underlying33 rfl (info33 _ _ _)) rfl ?_;exact fin_none hB hK1 (hKD.out _ hHeld) _ (hact.out.trans (if_neg (by simp)))
  exact AllReadyF.nil
 | true =>
  cases x2 with
  | true =>
   clear d9 k3 k4;go_enter Tryz.func104,Tryz.ntmps104;go_wp2_with fail;rw[<-hw1h.out];refine wp_region_F (fun w':World=>Below w1.heap.size w1 w') 999 (by kernel_rfl) (Below.refl _ _).drew (fun hHeld=>?_);refine tkP 0 rfl ?_;refine tkP 1 rfl ?_;refine tkP 2 rfl ?_;refine tkP 3 rfl ?_;refine tkP 4 rfl ?_ (by(intro w hSw;obtain⟨d0,d2,d9⟩:=hcr.out w hSw;go_simp)<;>with_reducible rfl);refine tkP 5 rfl ?_;refine tkP 6 rfl ?_ (by(intro w hSw;obtain⟨d0,d2,d9⟩:=hcr.out w hSw;go_simp)<;>with_reducible rfl);refine rdy [7] ?_;refine arC rfl (fun K hK=>?_) ?_
   ·skip
    go_simp;with_reducible refine(k1.out _ hHeld).mono ?_
    rintro e w2 ⟨rfl,b⟩;have h2:Below w1.heap.size w1 w2:=hHeld.trans (b.mono hHeld.size);clear b;go_wp2_with fail;refine hK.out _ _ ?_ (fun hHeld=>?_)
    ·exact h2
    clear hK K;try simp only[Act.put,zT,z0,zS]
    refine tkP 8 rfl ?_;refine tkP 9 rfl ?_;refine tkP 10 rfl ?_;refine tkP 11 rfl ?_;refine tkP 12 rfl ?_;refine tkP 13 rfl ?_;refine tkP 14 rfl ?_ (by(intro w hSw;obtain⟨d0,d2,d9⟩:=hcr.out w hSw;go_simp)<;>with_reducible rfl);refine tkP 15 rfl ?_;refine tkP 16 rfl ?_ (by(intro w hSw;obtain⟨d0,d2,d9⟩:=hcr.out w hSw;go_simp)<;>with_reducible rfl);refine rdy [17] ?_;refine arC rfl (fun K hK=>?_) ?_
    ·skip
     go_simp;with_reducible refine(k2.out _ hHeld).mono ?_
     rintro e w3 ⟨rfl,rfl⟩;go_wp2_with fail;refine hK.out _ _ ?_ (fun hHeld=>?_)
     ·exact hHeld
     clear hK K;try simp only[Act.put,zT,z0,zS]
     refine tkP 18 rfl ?_;refine tkP 19 rfl ?_;refine tkU 20 rfl ?_;refine tkU 21 rfl ?_;refine tkU 22 rfl ?_;refine tkU 23 rfl ?_;refine tkU 24 rfl ?_;refine tkU 25 rfl ?_;refine tkP 26 rfl ?_;refine wpAnyF_done (by kernel_rfl) ?_ _;have r2:=hrx.out _ (hKD.out _ hHeld)
     go_wp2_with (refine wpList_store_row rfl 33 (.tmp 4) (.tmp 33) rfl (w.heap.size+1) zCells rfl rfl 33 _ (r2) (info33 _ _ _) rfl z_all ?_)
     refine bodyPost_ret (results_cell_tmp_row (fn:=Tryz.f104) rfl _ _ (w.heap.size+1) 33 zCells (0,0) _ _ rfl rfl (setRow_heap _ _ _ _ _ _ r2) Tryz.underlying33 rfl (info33 _ _ _)) rfl ?_;exact fin_none hB hK1 (hKD.out _ hHeld) _ (hact.out.trans (if_neg (by simp)))
    exact AllReadyF.nil
   exact AllReadyF.nil
  | false =>
   obtain⟨nE,hnE⟩:∃nE,Hid (nE=E.length):=⟨_,rfl⟩;have hE1:=hE0.out nE hnE.out;have kin:c.id∈keysV g.vs:=of_decide_eq_true hx1;by_cases hz:nE=0
   ·have t0:decide ((0:Int)<(nE:Int))=false:=by simp;omega
    have t00:decide (0<nE)=false:=by simp;omega
    rw[hE1,hz]at hact;clear d9 hE0 hE1;go_enter Tryz.func104,Tryz.ntmps104;go_wp2_with fail;rw[<-hw1h.out];refine wp_region_F (fun w':World=>Below w1.heap.size w1 w') 999 (by kernel_rfl) (Below.refl _ _).drew (fun hHeld=>?_);refine tkP 0 rfl ?_;refine tkP 1 rfl ?_;refine tkP 2 rfl ?_;refine tkP 3 rfl ?_;refine tkP 4 rfl ?_ (by(intro w hSw;obtain⟨d0,d2,d9⟩:=hcr.out w hSw;go_simp)<;>with_reducible rfl);refine tkP 5 rfl ?_;refine tkP 6 rfl ?_ (by(intro w hSw;obtain⟨d0,d2,d9⟩:=hcr.out w hSw;go_simp)<;>with_reducible rfl);refine rdy [7] ?_;refine arC rfl (fun K hK=>?_) ?_
    ·skip
     go_simp;with_reducible refine(k1.out _ hHeld).mono ?_
     rintro e w2 ⟨rfl,b⟩;have h2:Below w1.heap.size w1 w2:=hHeld.trans (b.mono hHeld.size);clear b;go_wp2_with fail;refine hK.out _ _ ?_ (fun hHeld=>?_)
     ·exact h2
     clear hK K;try simp only[Act.put,zT,z0,zS]
     refine tkP 8 rfl ?_;refine tkP 9 rfl ?_;refine tkP 10 rfl ?_;refine tkP 11 rfl ?_;refine tkP 12 rfl ?_;refine tkP 13 rfl ?_;refine tkP 14 rfl ?_ (by(intro w hSw;obtain⟨d0,d2,d9⟩:=hcr.out w hSw;go_simp)<;>with_reducible rfl);refine tkP 15 rfl ?_;refine tkP 16 rfl ?_ (by(intro w hSw;obtain⟨d0,d2,d9⟩:=hcr.out w hSw;go_simp)<;>with_reducible rfl);refine rdy [17] ?_;refine arC rfl (fun K hK=>?_) ?_
     ·skip
      go_simp;with_reducible refine(k2.out _ hHeld).mono ?_
      rintro e w3 ⟨rfl,rfl⟩;go_wp2_with fail;refine hK.out _ _ ?_ (fun hHeld=>?_)
      ·exact hHeld
      clear hK K;try simp only[Act.put,zT,z0,zS]
      refine tkP 18 rfl ?_;refine tkP 19 rfl ?_;refine tkP 20 rfl ?_;refine tkP 21 rfl ?_;refine tkP 22 rfl ?_ (by(intro w hSw;obtain⟨d0,d2,d9⟩:=hcr.out w hSw;go_simp)<;>with_reducible rfl);refine rdy [23] ?_;refine arC rfl (fun K hK=>?_) ?_
      ·skip
       go_simp;with_reducible refine(k3.out _ hHeld).mono ?_
       rintro e w4 ⟨r,rfl,hO,b⟩;have h4:Below w1.heap.size w1 w4:=hHeld.trans (b.mono hHeld.size);obtain⟨ra,rc,hre⟩:=hO.DL.shape;rw[<-hnE.out]at hre;subst hre;clear b hO;go_wp2_with fail;refine hK.out _ _ ?_ (fun hHeld=>?_)
       ·exact h4
       clear hK K;try simp only[Act.put,zT,z0,zS]
       refine tkP 24 rfl ?_;refine tkP 25 rfl ?_;refine tkP 26 rfl ?_;refine wpAnyF_done (by kernel_rfl) ?_ _;obtain⟨e0,e2,e9⟩:=hcr.out _ hHeld;go_wp2_with fail;with_reducible refine(k4.out _ hHeld kin).mono ?_
       rintro e w5 ⟨rfl,vv',hD,hK⟩;have K5:=(hKD.out _ hHeld).trans hK;have r5:=hrx.out w5 K5
       go_wp2_with (refine wpList_store_row rfl 33 (.tmp 4) (.tmp 38) rfl (w.heap.size+1) (chCells {zC with kind:=1,v:=gu} (.slice none 0 0) (.slice none 0 0)) rfl rfl 33 _ (r5) (info33 _ _ _) rfl (ch_all _ _ _ _ _ _ _) ?_)
       refine bodyPost_ret (results_cell_tmp_row (fn:=Tryz.f104) rfl _ _ (w.heap.size+1) 33 (chCells {zC with kind:=1,v:=gu} (.slice none 0 0) (.slice none 0 0)) (0,0) _ _ rfl rfl (setRow_heap _ _ _ _ _ _ r5) Tryz.underlying33 rfl (info33 _ _ _)) rfl ?_;exact fin_some hB hK1 K5 hD r5 (hact.out.trans (if_pos (by simp))) (nil_O _) (nil_O _)
      exact AllReadyF.nil
     exact AllReadyF.nil
    exact AllReadyF.nil
   ·have t0:decide ((0:Int)<(nE:Int))=true:=by simp;omega
    have t00:decide (0<nE)=true:=by simp;omega
    rw[hE1,decide_eq_false hz]at hact;clear d9 hE0 hE1 k4;go_enter Tryz.func104,Tryz.ntmps104;go_wp2_with fail;rw[<-hw1h.out];refine wp_region_F (fun w':World=>Below w1.heap.size w1 w') 999 (by kernel_rfl) (Below.refl _ _).drew (fun hHeld=>?_);refine tkP 0 rfl ?_;refine tkP 1 rfl ?_;refine tkP 2 rfl ?_;refine tkP 3 rfl ?_;refine tkP 4 rfl ?_ (by(intro w hSw;obtain⟨d0,d2,d9⟩:=hcr.out w hSw;go_simp)<;>with_reducible rfl);refine tkP 5 rfl ?_;refine tkP 6 rfl ?_ (by(intro w hSw;obtain⟨d0,d2,d9⟩:=hcr.out w hSw;go_simp)<;>with_reducible rfl);refine rdy [7] ?_;refine arC rfl (fun K hK=>?_) ?_
    ·skip
     go_simp;with_reducible refine(k1.out _ hHeld).mono ?_
     rintro e w2 ⟨rfl,b⟩;have h2:Below w1.heap.size w1 w2:=hHeld.trans (b.mono hHeld.size);clear b;go_wp2_with fail;refine hK.out _ _ ?_ (fun hHeld=>?_)
     ·exact h2
     clear hK K;try simp only[Act.put,zT,z0,zS]
     refine tkP 8 rfl ?_;refine tkP 9 rfl ?_;refine tkP 10 rfl ?_;refine tkP 11 rfl ?_;refine tkP 12 rfl ?_;refine tkP 13 rfl ?_;refine tkP 14 rfl ?_ (by(intro w hSw;obtain⟨d0,d2,d9⟩:=hcr.out w hSw;go_simp)<;>with_reducible rfl);refine tkP 15 rfl ?_;refine tkP 16 rfl ?_ (by(intro w hSw;obtain⟨d0,d2,d9⟩:=hcr.out w hSw;go_simp)<;>with_reducible rfl);refine rdy [17] ?_;refine arC rfl (fun K hK=>?_) ?_
     ·skip
      go_simp;with_reducible refine(k2.out _ hHeld).mono ?_
      rintro e w3 ⟨rfl,rfl⟩;go_wp2_with fail;refine hK.out _ _ ?_ (fun hHeld=>?_)
      ·exact hHeld
      clear hK K;try simp only[Act.put,zT,z0,zS]
      refine tkP 18 rfl ?_;refine tkP 19 rfl ?_;refine tkP 20 rfl ?_;refine tkP 21 rfl ?_;refine tkP 22 rfl ?_ (by(intro w hSw;obtain⟨d0,d2,d9⟩:=hcr.out w hSw;go_simp)<;>with_reducible rfl);refine rdy [23] ?_;refine arC rfl (fun K hK=>?_) ?_
      ·skip
       go_simp;with_reducible refine(k3.out _ hHeld).mono ?_
       rintro e w4 ⟨r,rfl,hO,b⟩;have h4:Below w1.heap.size w1 w4:=hHeld.trans (b.mono hHeld.size);obtain⟨ra,rc,hre⟩:=hO.DL.shape;rw[<-hnE.out]at hre;subst hre;clear b hO;go_wp2_with fail;refine hK.out _ _ ?_ (fun hHeld=>?_)
       ·exact h4
       clear hK K;try simp only[Act.put,zT,z0,zS]
       refine tkP 24 rfl ?_;refine tkP 25 rfl ?_;refine tkP 26 rfl ?_;refine wpAnyF_done (by kernel_rfl) ?_ _;have r2:=hrx.out _ (hKD.out _ hHeld)
       go_wp2_with (refine wpList_store_row rfl 33 (.tmp 4) (.tmp 33) rfl (w.heap.size+1) zCells rfl rfl 33 _ (r2) (info33 _ _ _) rfl z_all ?_)
       refine bodyPost_ret (results_cell_tmp_row (fn:=Tryz.f104) rfl _ _ (w.heap.size+1) 33 zCells (0,0) _ _ rfl rfl (setRow_heap _ _ _ _ _ _ r2) Tryz.underlying33 rfl (info33 _ _ _)) rfl ?_;exact fin_none hB hK1 (hKD.out _ hHeld) _ (hact.out.trans (if_neg (by simp)))
      exact AllReadyF.nil
     exact AllReadyF.nil
    exact AllReadyF.nil
end Go.Proofs.YtlaldnlgapeckaaGreat
