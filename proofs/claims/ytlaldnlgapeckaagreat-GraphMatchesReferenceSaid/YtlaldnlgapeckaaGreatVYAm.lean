/- Facts. -/
import Derived.Test.YtlaldnlgapeckaaGreatVYAk
set_option linter.unusedSimpArgs false
set_option maxRecDepth 100000
set_option maxHeartbeats 4000000
namespace Go.Proofs.YtlaldnlgapeckaaGreat
open Go.RowKit
theorem OwnI.row33{W:World}{B b:Nat}{v:Value}{l:List Int}{cs:Array Value}{fr:Nat × Nat}(h:OwnI W B v l)(hb:W.heap[b]?=some (.cells cs 33 fr))(cs':Array Value):OwnI (W.setRow b cs') B v l:=by
 unfold OwnI at h ⊢;refine⟨h.1,?_⟩;rcases h.2 with q|⟨g,cap,cur,q1,q2,q3,q4⟩
 ·exact .inl q
 ·refine .inr ⟨g,cap,cur,q1,q2,?_,q4⟩;rw[setRow_other _ _ _ _ (fun e=>by rw[e,hb]at q3;simp at q3)];exact q3
theorem old_cell_alloc(w:World)(o:Obj){b i:Nat}{v:Value}(hc:w.cell? ⟨b,i,none⟩=some v):(w.alloc o).cell? ⟨b,i,none⟩=w.cell? ⟨b,i,none⟩ :=
 World.cell?_alloc_past _ b i (block_lt_of_cell hc)
theorem act4_any(B db:Nat)(vv ev dv mv:Value)(g:Gr)(vc:Value)(c:Ch)(w:World)(h:DrV w B db vv ev dv mv g)(hg:Ok g)(hc:∀W,KD B w W->CV W vc c)(_hlen:c.ends.length<=1000000/\c.deps.length<=1000000):
  Calls Tryz.prog 106 #[.pointer (some ⟨db,0,none⟩),vc] w (ActPost B db w (act4 g c)):=by
 obtain⟨a,b,rfl,_,_⟩:=hc w (KD.refl _ _);have hca:Hid (∀W,KD B w W->DL W a c.ends/\DL W b c.deps):=fun W K=>by
  obtain⟨a',b',e,h1,h2⟩:=hc W K;injection e with e
  have e1:a=a':=by injection e with e;simp at e;exact e.1
  have e2:b=b':=by injection e with e;simp at e;exact e.2
  exact⟨e1▸h1,e2▸h2⟩
 obtain⟨w1,hw1⟩:∃w1,w1=(w.alloc (.cells (chCells c a b) 33)).alloc (.cells zCells 33):=⟨_,rfl⟩;obtain⟨B1,z1,hbx⟩:=act_world B w w1 c a b hw1;have hB:=h.base;have hd:=h.below B1;have hK1:KD B w w1:=KD.of B1 hB;have hDr:=Hd (fun(W:World) (b0:Below w1.heap.size w1 W)=>hd.below b0);have hKD:=Hd (fun(W:World) (b0:Below w1.heap.size w1 W)=>KD.of b0 hd.base);have hcell:=Hd (fun(W:World) (K:KD B w1 W)=>ch_cells (hbx W K).1);have hrx:=Hd (fun(W:World) (K:KD B w1 W)=>(hbx W K).2);have hd4:=Hd (fun(W:World) (b0:Below w1.heap.size w1 W)=>(hd.below b0).cells);have hw1h:=Hd hw1;obtain⟨ah,ac,hae⟩:=(hca.out w (KD.refl _ _)).1.shape;obtain⟨bh,bc,hbe⟩:=(hca.out w (KD.refl _ _)).2.shape;have hvl:=hg.vlen;have hel:=hg.elen;have k1:=Hd (fun W (b0:Below w1.heap.size w1 W)=>edge_any db ev g.es c.id W (hDr.out W b0).cells.2.1 (hDr.out W b0).e.EL (by omega) hg.easc);have hact:Hid (act4 g c=if decide (c.id∈keysE g.es)=true then some ({g with es:=delE g.es c.id},{zC with kind:=3,e:=getE g.es c.id})else none):=rfl;unfold PlacePost at k1;have hde:=h.e;by_cases hx:c.id∈keysE g.es;rotate_left
 ·rw[decide_eq_false hx]at k1 hact;generalize act4 g c=R at *
  generalize posK (keysE g.es) c.id=p at *
  unfold chCells zCells chCells zC zV zE nilS at hw1h;unfold chCells;have d9:=hcell.out w1 (KD.refl _ _);subst hae hbe;clear hw1 hbx h hd hc hca hde;obtain⟨_,_,_,_,_,_,_,_,_,c9,_⟩:=d9;rw[hw1h.out]at c9;go_enter Tryz.func106,Tryz.ntmps106;go_wp2_with fail;rw[<-hw1h.out];with_reducible refine(k1.out w1 (Below.refl _ _)).mono ?_
  rintro e w2 ⟨rfl,hq⟩;have r2:=hrx.out w2 (hKD.out w2 hq)
  go_wp2_with (refine wpList_store_row rfl 33 (.tmp 4) (.tmp 18) rfl (w.heap.size+1) zCells rfl rfl 33 _ (r2) (info33 _ _ _) rfl z_all ?_)
  refine bodyPost_ret (results_cell_tmp_row (fn:=Tryz.f106) rfl _ _ (w.heap.size+1) 33 zCells (0,0) _ _ rfl rfl (setRow_heap _ _ _ _ _ _ r2) Tryz.underlying33 rfl (info33 _ _ _)) rfl ?_;exact fin_none hB hK1 (hKD.out w2 hq) _ (hact.out.trans (if_neg (by simp)))
 ·obtain⟨hp1,hp2⟩:=posE_lt g.es c.id hg.easc hx;have hget:=getE_eq g.es c.id hg.easc hp1 hp2;have hdel:=Hd (delE_eq g.es c.id hg.easc hx);rw[decide_eq_true hx]at k1 hact;obtain⟨p,hp⟩:∃p,p=posK (keysE g.es) c.id:=⟨_,rfl⟩;simp only[<-hp]at k1 hp1 hp2 hget hdel;obtain⟨gb,cap,cur,hve,hgB,hcur,hcap⟩:=own_slice hde (by omega);have hne0:g.es≠[]:=fun e=>by rw[e]at hp1;simp at hp1
  have hrow:=Hd (fun(W:World) (b0:Below w1.heap.size w1 W)=>show EdAt W gb (p*6) (getE g.es c.id)from by
   obtain⟨gb',o,c',hve',hlc,hgb,hL⟩:=(hDr.out W b0).e.EL.own hne0;rw[hve]at hve';injection hve' with e1;injection e1 with e1;injection e1 with e1 e2;subst e1 e2
   have:=hL p _ (List.getElem?_eq_getElem hp1);rw[hget];simpa using this)
  generalize getE g.es c.id=u at *
  have hrowlt:gb<w.heap.size:=(Array.getElem?_eq_some_iff.1 hcur).1;have hne:Hid (gb≠db):=fun e=>by have hb:=h.box;rw[<-e,hcur]at hb;simp at hb
  have k3:=Hd (fun(w2:World) (b0:Below w1.heap.size w1 w2)=>show Calls Tryz.prog 130 #[ev,.int .i64 p,.int .i64 ((p:Int)+1)] (w2.alloc (.cells (edCells u) 31)) fun e w'=>∃a' n' c',e= .returned (.slice a' n' c')/\Hid (w'.cell? ⟨db,1,none⟩=some ev)/\Hid (w'.frozen? ⟨db,1,none⟩=false) /\
   Hid (DrV (w'.setCell ⟨db,1,none⟩ (.slice a' n' c')) B db vv (.slice a' n' c') dv mv {g with es:=delE g.es c.id}/\KD B w1 (w'.setCell ⟨db,1,none⟩ (.slice a' n' c'))/\EdAt (w'.setCell ⟨db,1,none⟩ (.slice a' n' c')) w2.heap.size 0 u)from by
   obtain⟨w3,hw3⟩:∃w3,w3=w2.alloc (.cells (edCells u) 31):=⟨_,rfl⟩;obtain⟨m1,m2,m3⟩:=lit_world w2 w3 _ _ hw3;have hEd:EdAt w3 w2.heap.size 0 u:=by rw[hw3];exact EdAt.box w2 u 31
   have b3:=b0.trans (m2.mono b0.size);have h2:=hDr.out w3 b3;have sz1:=b0.size;have hltd:=h.lt;rw[<-hw3];refine(DeleteE_own B ev g.es p w3 h2.e hp1 (by omega)).mono ?_;rintro e w' ⟨v',rfl,ho,hg',hob⟩;obtain⟨a',c',rfl⟩:=ho.EL.shape;have hvo:ev.ownBlock=some gb:=by rw[hve];rfl
   have far:∀k,k<w3.heap.size->k≠gb->w'.heap[k]?=w3.heap[k]?:=fun k hk hkn=>hg'.block k hk (by rw[hvo];intro e;injection e with e;exact hkn e);refine⟨_,_,_,rfl,?_,?_,?_⟩
   ·show _=_;rw[World.cell?_of_block (far db h2.lt (Ne.symm hne.out))];exact h2.cells.2.1
   ·show _=_;rw[World.frozen?_of_block (far db h2.lt (Ne.symm hne.out))];exact h2.free 1
   ·rw[hdel.out];obtain⟨y1,y2⟩:=h2.setE hg' ho;refine⟨y1,(hKD.out w3 b3).trans y2,?_⟩;have hb2:∀v,(w'.setCell ⟨db,1,none⟩ v).heap[w2.heap.size]?=w3.heap[w2.heap.size]?:=fun v=>by rw[heap_setCell_other _ _ _ _ (by show _≠db;omega),far _ (by omega) (by omega)]
    obtain⟨f0,f1,f2,f3,f4,f5⟩:=hEd;refine⟨?_,?_,?_,?_,?_,?_⟩
    ·rw[World.cell?_of_block (hb2 _)];exact f0
    ·rw[World.cell?_of_block (hb2 _)];exact f1
    ·rw[World.cell?_of_block (hb2 _)];exact f2
    ·rw[World.cell?_of_block (hb2 _)];exact f3
    ·rw[World.cell?_of_block (hb2 _)];exact f4
    ·rw[World.cell?_of_block (hb2 _)];exact f5)
  have i0:(0:Int)<=(p:Int):=by omega
  have i1:(p:Int)<(g.es.length:Int):=by omega
  have hp63:p<=1000:=by omega
  have e9:IntKind.i64.wrap ((p:Int)+1)=(p:Int)+1:=IntWalk.i64_in _ (by omega);generalize act4 g c=R at *
  unfold chCells zCells chCells zC zV zE nilS at hw1h;unfold chCells;have d9:=hcell.out w1 (KD.refl _ _);subst hae hbe;clear hw1 hbx h hd hc hca hp hp1 hp2 hget hdel hne hx hne0 hcur hcap hde;subst hve;unfold edCells at k3;obtain⟨n,hn⟩:∃n,Hid (n=g.es.length):=⟨_,rfl⟩;rw[<-hn.out]at i1 hd4 k3;obtain⟨_,_,_,_,_,_,_,_,_,c9,_⟩:=d9;rw[hw1h.out]at c9;go_enter Tryz.func106,Tryz.ntmps106;go_wp2_with fail;rw[<-hw1h.out];with_reducible refine(k1.out w1 (Below.refl _ _)).mono ?_
  rintro e w2 ⟨rfl,hq⟩;obtain⟨q0,q1,q2,q3,q4,q5⟩:=hrow.out w2 hq;have y1:=(hd4.out w2 hq).2.1;have y2:=y1;rw[<-old_cell_alloc w2 (.cells #[.int .i64 u.id,.int .i64 u.src,.int .i64 u.dst,.bool u.dir,.int .i64 u.wt,.int .i64 u.cap] 31) y1]at y2;go_wp2_with fail;refine(k3.out w2 hq).mono ?_;rintro e w5 ⟨a',n',c',rfl,s1,s2,s3⟩;have c4:=s1.out;have c5:=s2.out;obtain⟨t1,t2,t3⟩:=s3.out;have r5:=hrx.out _ t2;obtain⟨f0,f1,f2,f3,f4,f5⟩:=t3;simp only[Nat.zero_add]at f0 f1 f2 f3 f4 f5;have hD:=Hd t1;have hK:=Hd t2;clear t1 t2 s3
  go_wp2_with (refine wpList_store_row rfl 33 (.tmp 4) (.tmp 41) rfl (w.heap.size+1) (chCells {zC with kind:=3,e:=u} (.slice none 0 0) (.slice none 0 0)) rfl rfl 33 _ (r5) (info33 _ _ _) rfl (ch_all _ _ _ _ _ _ _) ?_)
  refine bodyPost_ret (results_cell_tmp_row (fn:=Tryz.f106) rfl _ _ (w.heap.size+1) 33 (chCells {zC with kind:=3,e:=u} (.slice none 0 0) (.slice none 0 0)) (0,0) _ _ rfl rfl (setRow_heap _ _ _ _ _ _ r5) Tryz.underlying33 rfl (info33 _ _ _)) rfl ?_;exact fin_some hB hK1 hK.out hD.out r5 (hact.out.trans (if_pos (by simp))) (nil_O _) (nil_O _)
theorem act10_any(B db:Nat)(vv ev dv mv:Value)(g:Gr)(vc:Value)(c:Ch)(w:World)(h:DrV w B db vv ev dv mv g)(hg:Ok g)(hc:∀W,KD B w W->CV W vc c)(_hlen:c.ends.length<=1000000/\c.deps.length<=1000000):
  Calls Tryz.prog 113 #[.pointer (some ⟨db,0,none⟩),vc] w (ActPost B db w (act10 g c)):=by
 obtain⟨a,b,rfl,_,_⟩:=hc w (KD.refl _ _);have hca:Hid (∀W,KD B w W->DL W a c.ends/\DL W b c.deps):=fun W K=>by
  obtain⟨a',b',e,h1,h2⟩:=hc W K;injection e with e
  have e1:a=a':=by injection e with e;simp at e;exact e.1
  have e2:b=b':=by injection e with e;simp at e;exact e.2
  exact⟨e1▸h1,e2▸h2⟩
 obtain⟨w1,hw1⟩:∃w1,w1=(w.alloc (.cells (chCells c a b) 33)).alloc (.cells zCells 33):=⟨_,rfl⟩;obtain⟨B1,z1,hbx⟩:=act_world B w w1 c a b hw1;have hB:=h.base;have hd:=h.below B1;have hK1:KD B w w1:=KD.of B1 hB;have hDr:=Hd (fun(W:World) (b0:Below w1.heap.size w1 W)=>hd.below b0);have hKD:=Hd (fun(W:World) (b0:Below w1.heap.size w1 W)=>KD.of b0 hd.base);have hcell:=Hd (fun(W:World) (K:KD B w1 W)=>ch_cells (hbx W K).1);have hrx:=Hd (fun(W:World) (K:KD B w1 W)=>(hbx W K).2);have hd4:=Hd (fun(W:World) (b0:Below w1.heap.size w1 W)=>(hd.below b0).cells);have hw1h:=Hd hw1;obtain⟨ah,ac,hae⟩:=(hca.out w (KD.refl _ _)).1.shape;obtain⟨bh,bc,hbe⟩:=(hca.out w (KD.refl _ _)).2.shape;have hvl:=hg.vlen;have hel:=hg.elen;have k1:=Hd (fun W (b0:Below w1.heap.size w1 W)=>validDepots_any b vv c.deps g.vs W ((hca.out W (hK1.trans (hKD.out W b0))).2) (hDr.out W b0).v.VL (by omega) (by omega) hg.vasc);have k2:=Hd (fun W (b0:Below w1.heap.size w1 W)=>CloneI_any b c.deps W ((hca.out W (hK1.trans (hKD.out W b0))).2) (by omega));have hact:Hid (act10 g c=if dOk (keysV g.vs) c.deps=true then some ({g with ds:=c.deps},{zC with kind:=10,deps:=g.ds})else none):=rfl;have hset:=Hd (fun(W:World) (b0:Below w1.heap.size w1 W) (W':World) (b1:Below W.heap.size W W') (v':Value) (ho:OwnI W' W.heap.size v' c.deps)=>show DrV (W'.setCell ⟨db,2,none⟩ v') B db vv ev v' mv {g with ds:=c.deps}/\KD B w1 (W'.setCell ⟨db,2,none⟩ v')/\(DL (W'.setCell ⟨db,2,none⟩ v') dv g.ds)/\OwnI (W'.setCell ⟨db,2,none⟩ v') B dv g.ds from by
  have b2:=b0.trans (b1.mono b0.size);have h2:=hDr.out W' b2;have hoB:OwnI W' B v' c.deps:=by
   unfold OwnI at ho ⊢;refine⟨ho.1,?_⟩;rcases ho.2 with q|⟨g1,cap,cur,q1,q2,q3⟩
   ·exact .inl q
   ·exact .inr ⟨g1,cap,cur,q1,by have:=(hDr.out W b0).base;omega,q3⟩
  obtain⟨y1,y2⟩:=h2.setD hoB;have y3:=h2.d.kd y2;exact⟨y1,(hKD.out W' b2).trans y2,y3.DL,y3⟩)
 generalize act10 g c=R at *
 obtain⟨vh,vc,hve⟩:=hd.v.VL.shape;obtain⟨dh,dc,hde⟩:=hd.d.DL.shape;generalize dOk (keysV g.vs) c.deps=x1 at *
 have hcr:=Hd (fun(W:World) (b0:Below w1.heap.size w1 W)=>show W.cell? ⟨db,0,none⟩=some vv/\W.cell? ⟨w.heap.size,12,none⟩=some b from⟨(hd4.out W b0).1,(hcell.out W (hKD.out W b0)).2.2.2.2.2.2.2.2.2.2.2.2⟩);unfold chCells zCells chCells zC zV zE nilS at hw1h;unfold chCells;have d9:=hcell.out w1 (KD.refl _ _);subst hae hbe;clear hw1 hbx h hd hc hca;subst hve hde;generalize g.vs.length=nv at *
 generalize hnd:g.ds.length=nd at *
 generalize hnc:c.deps.length=nc at *
 have hnch:=Hd hnc;clear hnd hnc;cases x1 with
 | false =>
  clear d9;go_enter Tryz.func113,Tryz.ntmps113;go_wp2_with fail;rw[<-hw1h.out];refine wp_region_F (fun w':World=>Below w1.heap.size w1 w') 999 (by kernel_rfl) (Below.refl _ _).drew (fun hHeld=>?_);refine tkP 0 rfl ?_;refine tkP 1 rfl ?_ (by(intro w hSw;obtain⟨d0,d12⟩:=hcr.out w hSw;go_simp)<;>with_reducible rfl);refine tkP 2 rfl ?_;refine tkP 3 rfl ?_;refine tkP 4 rfl ?_;refine tkP 5 rfl ?_;refine tkP 6 rfl ?_ (by(intro w hSw;obtain⟨d0,d12⟩:=hcr.out w hSw;go_simp)<;>with_reducible rfl);refine rdy [7] ?_;refine arC rfl (fun K hK=>?_) ?_
  ·skip
   go_simp;with_reducible refine(k1.out _ hHeld).mono ?_
   rintro e w2 ⟨rfl,b⟩;have h2:Below w1.heap.size w1 w2:=hHeld.trans (b.mono hHeld.size);clear b;go_wp2_with fail;refine hK.out _ _ ?_ (fun hHeld=>?_)
   ·exact h2
   clear hK K;try simp only[Act.put,zT,z0,zS]
   refine tkP 8 rfl ?_;refine wpAnyF_done (by kernel_rfl) ?_ _;have r2:=hrx.out _ (hKD.out _ hHeld)
   go_wp2_with (refine wpList_store_row rfl 33 (.tmp 4) (.tmp 16) rfl (w.heap.size+1) zCells rfl rfl 33 _ (r2) (info33 _ _ _) rfl z_all ?_)
   refine bodyPost_ret (results_cell_tmp_row (fn:=Tryz.f113) rfl _ _ (w.heap.size+1) 33 zCells (0,0) _ _ rfl rfl (setRow_heap _ _ _ _ _ _ r2) Tryz.underlying33 rfl (info33 _ _ _)) rfl ?_;exact fin_none hB hK1 (hKD.out _ hHeld) _ (hact.out.trans (if_neg (by simp)))
  exact AllReadyF.nil
 | true =>
  clear d9;go_enter Tryz.func113,Tryz.ntmps113;go_wp2_with fail;rw[<-hw1h.out];refine wp_region_F (fun w':World=>Below w1.heap.size w1 w') 999 (by kernel_rfl) (Below.refl _ _).drew (fun hHeld=>?_);refine tkP 0 rfl ?_;refine tkP 1 rfl ?_ (by(intro w hSw;obtain⟨d0,d12⟩:=hcr.out w hSw;go_simp)<;>with_reducible rfl);refine tkP 2 rfl ?_;refine tkP 3 rfl ?_;refine tkP 4 rfl ?_;refine tkP 5 rfl ?_;refine tkP 6 rfl ?_ (by(intro w hSw;obtain⟨d0,d12⟩:=hcr.out w hSw;go_simp)<;>with_reducible rfl);refine rdy [7] ?_;refine arC rfl (fun K hK=>?_) ?_
  ·skip
   go_simp;with_reducible refine(k1.out _ hHeld).mono ?_
   rintro e w2 ⟨rfl,b⟩;have h2:Below w1.heap.size w1 w2:=hHeld.trans (b.mono hHeld.size);clear b;go_wp2_with fail;refine hK.out _ _ ?_ (fun hHeld=>?_)
   ·exact h2
   clear hK K;try simp only[Act.put,zT,z0,zS]
   refine tkP 8 rfl ?_;refine wpAnyF_done (by kernel_rfl) ?_ _;obtain⟨d0,d12⟩:=hcr.out _ hHeld;have d2:=(hd4.out _ hHeld).2.2.1;go_wp2_with fail;with_reducible refine(k2.out _ hHeld).mono ?_
   rintro e w3 ⟨v',rfl,ho,b3⟩;have h3:Below w1.heap.size w1 w3:=hHeld.trans (b3.mono hHeld.size);have hs:=Hd (hset.out _ hHeld w3 b3 v' ho);have d3:=(hDr.out w3 h3).cells.2.2.1;have d4:=(hDr.out w3 h3).free 2;obtain⟨a',c',hve'⟩:=ho.DL.shape;rw[hnch.out]at hve';subst hve';clear ho b3;obtain⟨W5,hW5⟩:∃W5,W5=w3.setCell ⟨db,2,none⟩ (.slice a' nc c'):=⟨_,rfl⟩;rw[<-hW5]at hs;have r5:=hrx.out W5 hs.out.2.1;have hW5h:=Hd hW5;rw[hW5]at r5;clear hW5
   go_wp2_with (refine wpList_store_row rfl 33 (.tmp 4) (.tmp 30) rfl (w.heap.size+1) (chCells {zC with kind:=10,deps:=g.ds} (.slice none 0 0) (.slice dh nd dc)) rfl rfl 33 _ (r5) (info33 _ _ _) rfl (ch_all _ _ _ _ _ _ _) ?_)
   refine bodyPost_ret (results_cell_tmp_row (fn:=Tryz.f113) rfl _ _ (w.heap.size+1) 33 (chCells {zC with kind:=10,deps:=g.ds} (.slice none 0 0) (.slice dh nd dc)) (0,0) _ _ rfl rfl (setRow_heap _ _ _ _ _ _ r5) Tryz.underlying33 rfl (info33 _ _ _)) rfl ?_;exact fin_some hB hK1 (hW5h.out▸hs.out.2.1) (hW5h.out▸hs.out.1) r5 (hact.out.trans (if_pos (by simp))) (nil_O _) ((hW5h.out▸hs.out.2.2.2).row33 r5 _).base0
  exact AllReadyF.nil
end Go.Proofs.YtlaldnlgapeckaaGreat
