/- Facts. -/
import Derived.Test.YtlaldnlgapeckaaGreatVYAk
import Derived.Test.YtlaldnlgapeckaaGreatVYQt
set_option linter.unusedSimpArgs false
set_option maxRecDepth 100000
set_option maxHeartbeats 4000000
namespace Go.Proofs.YtlaldnlgapeckaaGreat
open Go.RowKit
theorem act3_any(B db:Nat)(vv ev dv mv:Value)(g:Gr)(vc:Value)(c:Ch)(w:World)(h:DrV w B db vv ev dv mv g)(hg:Ok g)(hc:∀W,KD B w W->CV W vc c)(_hlen:c.ends.length<=1000000/\c.deps.length<=1000000):
  Calls Tryz.prog 105 #[.pointer (some ⟨db,0,none⟩),vc] w (ActPost B db w (act3 g c)):=by
 obtain⟨a,b,rfl,_,_⟩:=hc w (KD.refl _ _);have hca:Hid (∀W,KD B w W->DL W a c.ends/\DL W b c.deps):=fun W K=>by
  obtain⟨a',b',e,h1,h2⟩:=hc W K;injection e with e
  have e1:a=a':=by injection e with e;simp at e;exact e.1
  have e2:b=b':=by injection e with e;simp at e;exact e.2
  exact⟨e1▸h1,e2▸h2⟩
 obtain⟨w1,hw1⟩:∃w1,w1=(w.alloc (.cells (chCells c a b) 33)).alloc (.cells zCells 33):=⟨_,rfl⟩;obtain⟨B1,z1,hbx⟩:=act_world B w w1 c a b hw1;have hB:=h.base;have hd:=h.below B1;have hK1:KD B w w1:=KD.of B1 hB;have hDr:=Hd (fun(W:World) (b0:Below w1.heap.size w1 W)=>hd.below b0);have hKD:=Hd (fun(W:World) (b0:Below w1.heap.size w1 W)=>KD.of b0 hd.base);have hcell:=Hd (fun(W:World) (K:KD B w1 W)=>ch_cells (hbx W K).1);have hrx:=Hd (fun(W:World) (K:KD B w1 W)=>(hbx W K).2);have hd4:=Hd (fun(W:World) (b0:Below w1.heap.size w1 W)=>(hd.below b0).cells);have hw1h:=Hd hw1;obtain⟨ah,ac,hae⟩:=(hca.out w (KD.refl _ _)).1.shape;obtain⟨bh,bc,hbe⟩:=(hca.out w (KD.refl _ _)).2.shape;have hvl:=hg.vlen;have hel:=hg.elen;have k1:=Hd (fun W (b0:Below w1.heap.size w1 W)=>edge_any db ev g.es c.e.id W (hDr.out W b0).cells.2.1 (hDr.out W b0).e.EL (by omega) hg.easc);have k2:=Hd (fun W (b0:Below w1.heap.size w1 W)=>validEdge_any c.e vv g.vs W (hDr.out W b0).v.VL (by omega) hg.vasc);have hact:Hid (act3 g c=if(!decide (c.e.id∈keysE g.es)&&c.e.okIn (keysV g.vs))=true then some ({g with es:=insE g.es c.e},{zC with kind:=4,id:=c.e.id})else none):=rfl;have hle:posK (keysE g.es) c.e.id<=g.es.length:=by unfold posK;have:=List.takeWhile_sublist (fun k=>decide (k<c.e.id)) (l:=keysE g.es);have:=this.length_le;simpa[keysE]using this
 have hins:=Hd (insE_eq g.es c.e hg.easc);obtain⟨p,hp⟩:∃p,p=posK (keysE g.es) c.e.id:=⟨_,rfl⟩;unfold PlacePost at k1;rw[<-hp]at k1 hle hins;have hrow:Hid (∀gb,ev.ownBlock=some gb->gb<w.heap.size):=fun gb e=>by obtain⟨_,cur,hc⟩:=own_row h.e gb e;exact(Array.getElem?_eq_some_iff.1 hc).1
 have hne:Hid (ev.ownBlock≠some db):=fun e=>by obtain⟨_,cur,hc⟩:=own_row h.e db e;rw[h.box]at hc;simp at hc
 have hcr:=Hd (fun(W:World) (b0:Below w1.heap.size w1 W)=>show W.cell? ⟨db,0,none⟩=some vv/\W.cell? ⟨db,1,none⟩=some ev/\W.cell? ⟨w.heap.size,3,none⟩=some (.int .i64 c.e.id)/\W.cell? ⟨w.heap.size,4,none⟩=some (.int .i64 c.e.src)/\W.cell? ⟨w.heap.size,5,none⟩=some (.int .i64 c.e.dst) /\
  W.cell? ⟨w.heap.size,6,none⟩=some (.bool c.e.dir)/\W.cell? ⟨w.heap.size,7,none⟩=some (.int .i64 c.e.wt)/\W.cell? ⟨w.heap.size,8,none⟩=some (.int .i64 c.e.cap)from by
  obtain⟨y0,y1,_⟩:=hd4.out W b0;obtain⟨_,_,_,x3,x4,x5,x6,x7,x8,_⟩:=hcell.out W (hKD.out W b0);exact⟨y0,y1,x3,x4,x5,x6,x7,x8⟩)
 have k3:=Hd (fun(W:World) (b0:Below w1.heap.size w1 W)=>show Calls Tryz.prog 129 #[ev,.int .i64 p,.slice (some ⟨W.heap.size,0,none⟩) 1 1] (W.alloc (.cells (edCells c.e) 31)) fun e w'=>∃a' n' c',e= .returned (.slice a' n' c') /\
   Hid (w'.cell? ⟨db,1,none⟩=some ev/\w'.cell? ⟨w.heap.size,3,none⟩=some (.int .i64 c.e.id)/\w'.cell? ⟨w.heap.size,4,none⟩=some (.int .i64 c.e.src)/\w'.cell? ⟨w.heap.size,5,none⟩=some (.int .i64 c.e.dst) /\
    w'.cell? ⟨w.heap.size,6,none⟩=some (.bool c.e.dir)/\w'.cell? ⟨w.heap.size,7,none⟩=some (.int .i64 c.e.wt)/\w'.cell? ⟨w.heap.size,8,none⟩=some (.int .i64 c.e.cap))/\Hid (w'.frozen? ⟨db,1,none⟩=false) /\
   Hid (DrV (w'.setCell ⟨db,1,none⟩ (.slice a' n' c')) B db vv (.slice a' n' c') dv mv {g with es:=insE g.es c.e}/\KD B w1 (w'.setCell ⟨db,1,none⟩ (.slice a' n' c')))from by
  obtain⟨w2,hw2⟩:∃w2,w2=W.alloc (.cells (edCells c.e) 31):=⟨_,rfl⟩;obtain⟨l1,l2,l3⟩:=lit_world W w2 _ _ hw2;have b2:Below w1.heap.size w1 w2:=b0.trans (l2.mono b0.size);have h2:=hDr.out w2 b2;have hsz:=b0.size;have hdl:=h.lt;rw[<-hw2];refine(InsertE_any B ev g.es p c.e W.heap.size w2 h2.e hle (by omega) h2.base l1 (fun e=>by have:=hrow.out _ e;omega)).mono ?_;rintro e w' ⟨v',rfl,ho,hg'⟩;obtain⟨a',c',rfl⟩:=ho.EL.shape;obtain⟨_,y1,x3,x4,x5,x6,x7,x8⟩:=hcr.out w2 b2;have far:∀(q:Addr) (u:Value),w2.cell? q=some u->ev.ownBlock≠some q.block->w'.cell? q=some u:=fun q u e hne'=>hg'.cell e (fun e2=>hne' e2.symm);have hw0:∀i,ev.ownBlock≠some (⟨w.heap.size,i,none⟩:Addr).block:=fun i e=>by have:=hrow.out _ e;simp at this
  refine⟨_,_,_,rfl,⟨far _ _ y1 hne.out,far _ _ x3 (hw0 _),far _ _ x4 (hw0 _),far _ _ x5 (hw0 _),far _ _ x6 (hw0 _),far _ _ x7 (hw0 _),far _ _ x8 (hw0 _)⟩,?_,?_⟩
  ·show _=_;rw[World.frozen?_of_block (hg'.block db h2.lt (fun e=>hne.out e.symm))];exact h2.free 1
  ·rw[hins.out];obtain⟨q1,q2⟩:=h2.setE hg' ho;exact⟨q1,(hKD.out w2 b2).trans q2⟩)
 generalize act3 g c=R at *
 obtain⟨vh,vc,hve⟩:=hd.v.VL.shape;obtain⟨eh,ec,hee⟩:=hd.e.EL.shape;generalize decide (c.e.id∈keysE g.es)=x1 at *
 generalize c.e.okIn (keysV g.vs)=x2 at *
 unfold Ed.val at k2;unfold edCells at k3;clear hp hins hrow hne;unfold chCells zCells chCells zC zV zE nilS at hw1h;unfold chCells;have d9:=hcell.out w1 (KD.refl _ _);subst hae hbe;clear hw1 hbx h hd hc hca;subst hve hee;generalize g.vs.length=nv at *
 generalize g.es.length=ne at *
 obtain⟨_,_,_,c3,_⟩:=d9;rw[hw1h.out]at c3;cases x1 with
 | true =>
  clear k2 k3;go_enter Tryz.func105,Tryz.ntmps105;go_wp2_with fail;rw[<-hw1h.out];with_reducible refine(k1.out w1 (Below.refl _ _)).mono ?_
  rintro e w2 ⟨rfl,hq⟩;go_wp2_with fail;have hcr2:=Hd (fun(W:World) (b0:Below w2.heap.size w2 W)=>hcr.out W (hq.trans (b0.mono hq.size)));refine q_region (fun w':World=>Below w2.heap.size w2 w') (by kernel_rfl) (by kernel_rfl) ((Below.refl _ _).drew) ?_;repeat (first|(refine q_skip (by rfl) ?_;try simp only[Act.put,zT,z0,zS])|(refine q_take (v:=?_) (by rfl) ?_ ?_;rotate_left;(first|((intro w h;clear h;go_simp)<;>with_reducible rfl));try simp only[Act.put,zT,z0,zS]))
  refine q_nil ?_;intro wq hHeld;have h9:=hq.trans (hHeld.mono hq.size);have r2:=hrx.out _ (hKD.out _ h9)
  go_wp2_with (refine wpList_store_row rfl 33 (.tmp 4) (.tmp 28) rfl (w.heap.size+1) zCells rfl rfl 33 _ (r2) (info33 _ _ _) rfl z_all ?_)
  refine bodyPost_ret (results_cell_tmp_row (fn:=Tryz.f105) rfl _ _ (w.heap.size+1) 33 zCells (0,0) _ _ rfl rfl (setRow_heap _ _ _ _ _ _ r2) Tryz.underlying33 rfl (info33 _ _ _)) rfl ?_;exact fin_none hB hK1 (hKD.out _ h9) _ (hact.out.trans (if_neg (by simp)))
 | false =>
  cases x2 with
  | false =>
   clear k3;go_enter Tryz.func105,Tryz.ntmps105;go_wp2_with fail;rw[<-hw1h.out];with_reducible refine(k1.out w1 (Below.refl _ _)).mono ?_
   rintro e w2 ⟨rfl,hq⟩;go_wp2_with fail;have hcr2:=Hd (fun(W:World) (b0:Below w2.heap.size w2 W)=>hcr.out W (hq.trans (b0.mono hq.size)));refine wp_region_F (fun w':World=>Below w2.heap.size w2 w') 999 (by kernel_rfl) (Below.refl _ _).drew (fun hHeld=>?_);refine tkP 0 rfl ?_;refine tkP 1 rfl ?_;refine tkP 2 rfl ?_;refine tkP 3 rfl ?_ (by(intro w hSw;obtain⟨y0,y1,x3,x4,x5,x6,x7,x8⟩:=hcr2.out w hSw;go_simp)<;>with_reducible rfl);refine tkP 4 rfl ?_;refine tkP 5 rfl ?_;refine tkP 6 rfl ?_;refine tkP 7 rfl ?_;refine tkP 8 rfl ?_ (by(intro w hSw;obtain⟨y0,y1,x3,x4,x5,x6,x7,x8⟩:=hcr2.out w hSw;go_simp)<;>with_reducible rfl);refine rdy [9] ?_;refine arC rfl (fun K hK=>?_) ?_
   ·skip
    go_simp;with_reducible refine(k2.out _ (hq.trans (hHeld.mono hq.size))).mono ?_
    rintro e w3 ⟨rfl,b⟩;have h3:Below w2.heap.size w2 w3:=hHeld.trans (b.mono hHeld.size);clear b;go_wp2_with fail;refine hK.out _ _ ?_ (fun hHeld=>?_)
    ·exact h3
    clear hK K;try simp only[Act.put,zT,z0,zS]
    refine tkP 10 rfl ?_;refine tkP 11 rfl ?_;refine wpAnyF_done (by kernel_rfl) ?_ _;have h9:=hq.trans (hHeld.mono hq.size);have r2:=hrx.out _ (hKD.out _ h9)
    go_wp2_with (refine wpList_store_row rfl 33 (.tmp 4) (.tmp 28) rfl (w.heap.size+1) zCells rfl rfl 33 _ (r2) (info33 _ _ _) rfl z_all ?_)
    refine bodyPost_ret (results_cell_tmp_row (fn:=Tryz.f105) rfl _ _ (w.heap.size+1) 33 zCells (0,0) _ _ rfl rfl (setRow_heap _ _ _ _ _ _ r2) Tryz.underlying33 rfl (info33 _ _ _)) rfl ?_;exact fin_none hB hK1 (hKD.out _ h9) _ (hact.out.trans (if_neg (by simp)))
   exact AllReadyF.nil
  | true =>
   go_enter Tryz.func105,Tryz.ntmps105;go_wp2_with fail;rw[<-hw1h.out];with_reducible refine(k1.out w1 (Below.refl _ _)).mono ?_
   rintro e w2 ⟨rfl,hq⟩;go_wp2_with fail;have hcr2:=Hd (fun(W:World) (b0:Below w2.heap.size w2 W)=>hcr.out W (hq.trans (b0.mono hq.size)));refine wp_region_F (fun w':World=>Below w2.heap.size w2 w') 999 (by kernel_rfl) (Below.refl _ _).drew (fun hHeld=>?_);refine tkP 0 rfl ?_;refine tkP 1 rfl ?_;refine tkP 2 rfl ?_;refine tkP 3 rfl ?_ (by(intro w hSw;obtain⟨y0,y1,x3,x4,x5,x6,x7,x8⟩:=hcr2.out w hSw;go_simp)<;>with_reducible rfl);refine tkP 4 rfl ?_;refine tkP 5 rfl ?_;refine tkP 6 rfl ?_;refine tkP 7 rfl ?_;refine tkP 8 rfl ?_ (by(intro w hSw;obtain⟨y0,y1,x3,x4,x5,x6,x7,x8⟩:=hcr2.out w hSw;go_simp)<;>with_reducible rfl);refine rdy [9] ?_;refine arC rfl (fun K hK=>?_) ?_
   ·skip
    go_simp;with_reducible refine(k2.out _ (hq.trans (hHeld.mono hq.size))).mono ?_
    rintro e w3 ⟨rfl,b⟩;have h3:Below w2.heap.size w2 w3:=hHeld.trans (b.mono hHeld.size);clear b;go_wp2_with fail;refine hK.out _ _ ?_ (fun hHeld=>?_)
    ·exact h3
    clear hK K;try simp only[Act.put,zT,z0,zS]
    refine tkP 10 rfl ?_;refine tkP 11 rfl ?_;refine wpAnyF_done (by kernel_rfl) ?_ _;have h9:=hq.trans (hHeld.mono hq.size);go_wp2_with fail;refine wp_region_F (fun w':World=>w'.cell? ⟨db,1,none⟩=some (.slice eh ne ec)/\w'.cell? ⟨w.heap.size,3,none⟩=some (.int .i64 c.e.id)/\w'.cell? ⟨w.heap.size,4,none⟩=some (.int .i64 c.e.src)/\w'.cell? ⟨w.heap.size,5,none⟩=some (.int .i64 c.e.dst)/\w'.cell? ⟨w.heap.size,6,none⟩=some (.bool c.e.dir)/\w'.cell? ⟨w.heap.size,7,none⟩=some (.int .i64 c.e.wt)/\w'.cell? ⟨w.heap.size,8,none⟩=some (.int .i64 c.e.cap)) 14 (by kernel_rfl) (hcr.out _ h9.drew).2 (fun hHeld=>?_);refine tkP 0 rfl ?_;refine tkP 1 rfl ?_;refine tkP 2 rfl ?_;refine tkP 3 rfl ?_;refine tkP 4 rfl ?_;refine tkP 5 rfl ?_ (by(intro w hSw;obtain⟨y1,x3,x4,x5,x6,x7,x8⟩:=hSw;go_simp)<;>with_reducible rfl);refine tkP 6 rfl ?_;refine tkP 7 rfl ?_;refine tkP 8 rfl ?_ (by(intro w hSw;obtain⟨y1,x3,x4,x5,x6,x7,x8⟩:=hSw;go_simp)<;>with_reducible rfl);refine rdy [9] ?_;refine arC rfl (fun K hK=>?_) ?_
    ·skip
     go_simp;obtain⟨y1,x3,x4,x5,x6,x7,x8⟩:=hHeld;refine hK.out _ _ ?_ (fun hHeld=>?_)
     ·exact(hcr.out _ (h9.drew.alloc h9.size _)).2
     clear hK K;try simp only[Act.put,zT,z0,zS]
     refine rdy [10] ?_;refine arC rfl (fun K hK=>?_) ?_
     ·skip
      go_simp;refine(k3.out _ h9.drew).mono ?_;rintro e w4 ⟨a',n',c',rfl,s1,s2,s3⟩;go_wp2_with fail;refine hK.out _ _ ?_ (fun hHeld=>?_)
      ·exact s1.out
      clear hK K;try simp only[Act.put,zT,z0,zS]
      refine rdy [11] ?_;refine arC rfl (fun K hK=>?_) ?_
      ·skip
       go_simp;refine hK.out _ _ ?_ (fun hHeld=>?_)
       ·exact hHeld
       clear hK K;try simp only[Act.put,zT,z0,zS]
       refine rdy [12] ?_;refine arC rfl (fun K hK=>?_) ?_
       ·skip
        go_simp;refine hK.out _ _ ?_ (fun hHeld=>?_)
        ·exact hHeld
        clear hK K;try simp only[Act.put,zT,z0,zS]
        refine rdy [13] ?_;refine arC rfl (fun K hK=>?_) ?_
        ·skip
         go_simp;refine hK.out _ _ ?_ (fun hHeld=>?_)
         ·exact hHeld
         clear hK K;try simp only[Act.put,zT,z0,zS]
         refine rdy [14] ?_;refine AllReadyF.last (o:=⟨none,.store 23 (.tmp 42) (.tmp 39),_,_,_,none⟩) rfl (fun K hK=>?_) ?_
         ·skip
          go_simp;obtain⟨y1,x3,x4,x5,x6,x7,x8⟩:=hHeld;have c3:=s2.out;go_simp;refine hK.out _ _ ?_;clear hK K;try simp only[Act.put,zT,z0,zS]
          refine wpAnyF_done (by kernel_rfl) ?_ _;obtain⟨W5,hW5⟩:∃W5,W5=w4.setCell ⟨db,1,none⟩ (.slice a' n' c'):=⟨_,rfl⟩;rw[<-hW5]at s3 ⊢;have r5:=hrx.out W5 s3.out.2;obtain⟨_,_,_,x3,_⟩:=hcell.out W5 s3.out.2;clear hW5
          go_wp2_with (refine wpList_store_row rfl 33 (.tmp 4) (.tmp 46) rfl (w.heap.size+1) (chCells {zC with kind:=4,id:=c.e.id} (.slice none 0 0) (.slice none 0 0)) rfl rfl 33 _ (r5) (info33 _ _ _) rfl (ch_all _ _ _ _ _ _ _) ?_)
          refine bodyPost_ret (results_cell_tmp_row (fn:=Tryz.f105) rfl _ _ (w.heap.size+1) 33 (chCells {zC with kind:=4,id:=c.e.id} (.slice none 0 0) (.slice none 0 0)) (0,0) _ _ rfl rfl (setRow_heap _ _ _ _ _ _ r5) Tryz.underlying33 rfl (info33 _ _ _)) rfl ?_;exact fin_some hB hK1 s3.out.2 s3.out.1 r5 (hact.out.trans (if_pos (by simp))) (nil_O _) (nil_O _)
         exact AllReadyF.nil
        exact AllReadyF.nil
       exact AllReadyF.nil
      exact AllReadyF.nil
     exact AllReadyF.nil
    exact AllReadyF.nil
   exact AllReadyF.nil
set_option maxHeartbeats 1000000 in
theorem weightOf_any(B db:Nat)(vv ev dv mv:Value)(g:Gr)(x:Int)(w:World)(h:DrV w B db vv ev dv mv g)(hn:g.es.length<=1000)(hs:Asc (keysE g.es)):
  Calls Tryz.prog 108 #[.pointer (some ⟨db,0,none⟩),.int .i64 x] w fun e w'=>Below w.heap.size w w' /\
   ((x∉keysE g.es/\e= .returned (.pointer none))\/(∃eb n cap p,∃hp:p<g.es.length,x∈keysE g.es/\ev= .slice (some ⟨eb,0,none⟩) n cap/\p=posK (keysE g.es) x/\g.es[p].id=x/\e= .returned (.pointer (some ⟨eb,p*6+4,none⟩)))):=by
 have k1:=Hd (edge_any db ev g.es x w h.cells.2.1 h.e.EL (by omega) hs);unfold PlacePost at k1;have d1:=h.cells.2.1;have hd1:=Hd (fun(W:World) (b0:Below w.heap.size w W)=>(h.below b0).cells.2.1);by_cases hx:x∈keysE g.es
 ·obtain⟨hp1,hp2⟩:=posE_lt g.es x hs hx;obtain⟨gb,cap,cur,hve,hgB,hcur,hcap⟩:=own_slice h.e (by omega);rw[decide_eq_true hx]at k1;have hfin:=Hd (show ∀(e:Ending),e= .returned (.pointer (some ⟨gb,posK (keysE g.es) x*6+4,none⟩))->(∃eb n cap p,∃hp:p<g.es.length,x∈keysE g.es/\ev= .slice (some ⟨eb,0,none⟩) n cap/\p=posK (keysE g.es) x/\g.es[p].id=x/\e= .returned (.pointer (some ⟨eb,p*6+4,none⟩)))from fun e he=>⟨gb,_,cap,_,hp1,hx,hve,rfl,hp2,he⟩);generalize posK (keysE g.es) x=p at *
  have i0:(0:Int)<=(p:Int):=by omega
  have i1:(p:Int)<(g.es.length:Int):=by omega
  have hxh:=Hd hx;have hveh:=Hd hve;obtain⟨n,hnn⟩:∃n,Hid (n=g.es.length):=⟨_,rfl⟩;rw[<-hnn.out]at hve i1 hn hcap;clear hs h hp1 hp2 hx hcur;rw[hve]at d1 hd1;go_enter Tryz.func108,Tryz.ntmps108;go_wp2_with fail;with_reducible refine k1.out.mono ?_
  rintro e w2 ⟨rfl,hq⟩;have d2:=hd1.out w2 hq;go_wp2_with fail;go_ret;exact⟨hq,.inr (hfin.out _ rfl)⟩
 ·rw[decide_eq_false hx]at k1;have hxh:=Hd hx;generalize posK (keysE g.es) x=p at *
  obtain⟨a,c,hve⟩:=h.e.EL.shape;clear hs hx h;rw[hve]at d1;go_enter Tryz.func108,Tryz.ntmps108;go_wp2_with fail;with_reducible refine k1.out.mono ?_
  rintro e w2 ⟨rfl,hq⟩;go_wp2_with fail;go_ret;exact⟨hq,.inl ⟨hxh.out,rfl⟩⟩
set_option maxHeartbeats 1000000 in
theorem capOf_any(B db:Nat)(vv ev dv mv:Value)(g:Gr)(x:Int)(w:World)(h:DrV w B db vv ev dv mv g)(hn:g.es.length<=1000)(hs:Asc (keysE g.es)):
  Calls Tryz.prog 109 #[.pointer (some ⟨db,0,none⟩),.int .i64 x] w fun e w'=>Below w.heap.size w w' /\
   ((x∉keysE g.es/\e= .returned (.pointer none))\/(∃eb n cap p,∃hp:p<g.es.length,x∈keysE g.es/\ev= .slice (some ⟨eb,0,none⟩) n cap/\p=posK (keysE g.es) x/\g.es[p].id=x/\e= .returned (.pointer (some ⟨eb,p*6+5,none⟩)))):=by
 have k1:=Hd (edge_any db ev g.es x w h.cells.2.1 h.e.EL (by omega) hs);unfold PlacePost at k1;have d1:=h.cells.2.1;have hd1:=Hd (fun(W:World) (b0:Below w.heap.size w W)=>(h.below b0).cells.2.1);by_cases hx:x∈keysE g.es
 ·obtain⟨hp1,hp2⟩:=posE_lt g.es x hs hx;obtain⟨gb,cap,cur,hve,hgB,hcur,hcap⟩:=own_slice h.e (by omega);rw[decide_eq_true hx]at k1;have hfin:=Hd (show ∀(e:Ending),e= .returned (.pointer (some ⟨gb,posK (keysE g.es) x*6+5,none⟩))->(∃eb n cap p,∃hp:p<g.es.length,x∈keysE g.es/\ev= .slice (some ⟨eb,0,none⟩) n cap/\p=posK (keysE g.es) x/\g.es[p].id=x/\e= .returned (.pointer (some ⟨eb,p*6+5,none⟩)))from fun e he=>⟨gb,_,cap,_,hp1,hx,hve,rfl,hp2,he⟩);generalize posK (keysE g.es) x=p at *
  have i0:(0:Int)<=(p:Int):=by omega
  have i1:(p:Int)<(g.es.length:Int):=by omega
  have hxh:=Hd hx;have hveh:=Hd hve;obtain⟨n,hnn⟩:∃n,Hid (n=g.es.length):=⟨_,rfl⟩;rw[<-hnn.out]at hve i1 hn hcap;clear hs h hp1 hp2 hx hcur;rw[hve]at d1 hd1;go_enter Tryz.func109,Tryz.ntmps109;go_wp2_with fail;with_reducible refine k1.out.mono ?_
  rintro e w2 ⟨rfl,hq⟩;have d2:=hd1.out w2 hq;go_wp2_with fail;go_ret;exact⟨hq,.inr (hfin.out _ rfl)⟩
 ·rw[decide_eq_false hx]at k1;have hxh:=Hd hx;generalize posK (keysE g.es) x=p at *
  obtain⟨a,c,hve⟩:=h.e.EL.shape;clear hs hx h;rw[hve]at d1;go_enter Tryz.func109,Tryz.ntmps109;go_wp2_with fail;with_reducible refine k1.out.mono ?_
  rintro e w2 ⟨rfl,hq⟩;go_wp2_with fail;go_ret;exact⟨hq,.inl ⟨hxh.out,rfl⟩⟩
set_option maxHeartbeats 1000000 in
theorem sideOf_any(B db:Nat)(vv ev dv mv:Value)(g:Gr)(x:Int)(w:World)(h:DrV w B db vv ev dv mv g)(hn:g.vs.length<=1000)(hs:Asc (keysV g.vs)):
  Calls Tryz.prog 112 #[.pointer (some ⟨db,0,none⟩),.int .i64 x] w fun e w'=>Below w.heap.size w w' /\
   ((x∉keysV g.vs/\e= .returned (.pointer none))\/(∃eb n cap p,∃hp:p<g.vs.length,x∈keysV g.vs/\vv= .slice (some ⟨eb,0,none⟩) n cap/\p=posK (keysV g.vs) x/\g.vs[p].id=x/\e= .returned (.pointer (some ⟨eb,p*2+1,none⟩)))):=by
 have k1:=Hd (place_any vv g.vs x w h.v.VL (by omega) hs);unfold PlacePost at k1;have d1:=h.cells.1;have hd1:=Hd (fun(W:World) (b0:Below w.heap.size w W)=>(h.below b0).cells.1);by_cases hx:x∈keysV g.vs
 ·obtain⟨hp1,hp2⟩:=posV_lt g.vs x hs hx;obtain⟨gb,cap,cur,hve,hgB,hcur,hcap⟩:=own_slice h.v (by omega);rw[decide_eq_true hx]at k1;have hfin:=Hd (show ∀(e:Ending),e= .returned (.pointer (some ⟨gb,posK (keysV g.vs) x*2+1,none⟩))->(∃eb n cap p,∃hp:p<g.vs.length,x∈keysV g.vs/\vv= .slice (some ⟨eb,0,none⟩) n cap/\p=posK (keysV g.vs) x/\g.vs[p].id=x/\e= .returned (.pointer (some ⟨eb,p*2+1,none⟩)))from fun e he=>⟨gb,_,cap,_,hp1,hx,hve,rfl,hp2,he⟩);generalize posK (keysV g.vs) x=p at *
  have i0:(0:Int)<=(p:Int):=by omega
  have i1:(p:Int)<(g.vs.length:Int):=by omega
  have hxh:=Hd hx;have hveh:=Hd hve;obtain⟨n,hnn⟩:∃n,Hid (n=g.vs.length):=⟨_,rfl⟩;rw[<-hnn.out]at hve i1 hn hcap;clear hs h hp1 hp2 hx hcur;rw[hve]at d1 hd1 k1;go_enter Tryz.func112,Tryz.ntmps112;go_wp2_with fail;with_reducible refine k1.out.mono ?_
  rintro e w2 ⟨rfl,hq⟩;have d2:=hd1.out w2 hq;go_wp2_with fail;go_ret;exact⟨hq,.inr (hfin.out _ rfl)⟩
 ·rw[decide_eq_false hx]at k1;have hxh:=Hd hx;generalize posK (keysV g.vs) x=p at *
  obtain⟨a,c,hve⟩:=h.v.VL.shape;clear hs hx h;rw[hve]at d1 k1;go_enter Tryz.func112,Tryz.ntmps112;go_wp2_with fail;with_reducible refine k1.out.mono ?_
  rintro e w2 ⟨rfl,hq⟩;go_wp2_with fail;go_ret;exact⟨hq,.inl ⟨hxh.out,rfl⟩⟩
theorem act5_any(B db:Nat)(vv ev dv mv:Value)(g:Gr)(vc:Value)(c:Ch)(w:World)(h:DrV w B db vv ev dv mv g)(hg:Ok g)(hk:c.kind=5)(q:Nat)(hq:Hid (∀W,KD B w W->W.heap[q]?=some (.cells #[.int .i64 (-1000)] 3 (0,0))/\W.heap[q+1]?=some (.cells #[.int .i64 1000] 3 (0,0))/\W.heap[q+2]?=some (.cells #[.func (.func 108) #[] #[]] 153 (0,0))))(hc:∀W,KD B w W->CV W vc c)(_hlen:c.ends.length<=1000000/\c.deps.length<=1000000):
  Calls Tryz.prog 131 #[.pointer (some ⟨db,0,none⟩),vc,.pointer (some ⟨q+2,0,none⟩),.pointer (some ⟨q,0,none⟩),.pointer (some ⟨q+1,0,none⟩)] w (ActPost B db w (act5 g c)):=by
 obtain⟨a,b,rfl,_,_⟩:=hc w (KD.refl _ _);have hca:Hid (∀W,KD B w W->DL W a c.ends/\DL W b c.deps):=fun W K=>by
  obtain⟨a',b',e,h1,h2⟩:=hc W K;injection e with e
  have e1:a=a':=by injection e with e;simp at e;exact e.1
  have e2:b=b':=by injection e with e;simp at e;exact e.2
  exact⟨e1▸h1,e2▸h2⟩
 obtain⟨w1,hw1⟩:∃w1,w1=(w.alloc (.cells (chCells c a b) 33)).alloc (.cells zCells 33):=⟨_,rfl⟩;obtain⟨B1,z1,hbx⟩:=act_world B w w1 c a b hw1;have hB:=h.base;have hd:=h.below B1;have hK1:KD B w w1:=KD.of B1 hB;have hDr:=Hd (fun(W:World) (b0:Below w1.heap.size w1 W)=>hd.below b0);have hKD:=Hd (fun(W:World) (b0:Below w1.heap.size w1 W)=>KD.of b0 hd.base);have hcell:=Hd (fun(W:World) (K:KD B w1 W)=>ch_cells (hbx W K).1);have hrx:=Hd (fun(W:World) (K:KD B w1 W)=>(hbx W K).2);have hd4:=Hd (fun(W:World) (b0:Below w1.heap.size w1 W)=>(hd.below b0).cells);have hw1h:=Hd hw1;obtain⟨ah,ac,hae⟩:=(hca.out w (KD.refl _ _)).1.shape;obtain⟨bh,bc,hbe⟩:=(hca.out w (KD.refl _ _)).2.shape;have hvl:=hg.vlen;have hel:=hg.elen;have k1:=Hd (fun W (b0:Below w1.heap.size w1 W)=>weightOf_any B db vv ev dv mv g c.id W (hDr.out W b0) (by omega) hg.easc);have hqc:=Hd (fun(W:World) (b0:Below w1.heap.size w1 W)=>show W.cell? ⟨q,0,none⟩=some (.int .i64 (-1000))/\W.cell? ⟨q+1,0,none⟩=some (.int .i64 1000)/\W.cell? ⟨q+2,0,none⟩=some (.func (.func 108) #[] #[])from by
  obtain⟨y1,y2,y3⟩:=hq.out W (hK1.trans (hKD.out W b0));exact⟨by rw[cell_of_row _ _ _ _ _ _ y1];rfl,by rw[cell_of_row _ _ _ _ _ _ y2];rfl,by rw[cell_of_row _ _ _ _ _ _ y3];rfl⟩)
 have hact:Hid (act5 g c=if(decide (c.id∈keysE g.es)&&inB c.n (-1000) 1000)=true then some ({g with es:=onE g.es c.id (setWt c.n)},{zC with kind:=5,id:=c.id,n:=(getE g.es c.id).wt})else none):=rfl;have k2:=Hd (fun W=>within_any c.n (-1000) 1000 W);have hput:=Hd (fun(W:World) (b0:Below w1.heap.size w1 W) (eb n cap p:Nat) (hp:p<g.es.length) (hx:c.id∈keysE g.es) (hev:ev= .slice (some ⟨eb,0,none⟩) n cap) (hpe:p=posK (keysE g.es) c.id) (hid:g.es[p].id=c.id) =>
  show Hid (DrV (W.setCell ⟨eb,p*6+4,none⟩ (.int .i64 c.n)) B db vv ev dv mv {g with es:=onE g.es c.id (setWt c.n)})/\Hid (KD B w1 (W.setCell ⟨eb,p*6+4,none⟩ (.int .i64 c.n)))/\W.cell? ⟨eb,p*6+4,none⟩=some (.int .i64 (getE g.es c.id).wt)/\W.frozen? ⟨eb,p*6+4,none⟩=false from by
   have hd0:=hDr.out W b0;obtain⟨y1,y2⟩:=hd0.putE (p:=p) (i:=4) (u:= .int .i64 c.n) (e':=setWt c.n g.es[p]) hp (by omega) rfl hev;have hon:onE g.es c.id (setWt c.n)=g.es.set p (setWt c.n g.es[p]):=by
    subst hpe;exact onE_eq g.es c.id (setWt c.n) hg.easc hp hid
   have hget:getE g.es c.id=g.es[p]:=by
    have:=getE_of g.es hg.easc _ (List.getElem_mem hp)
    rwa [hid]at this
   obtain⟨_,cur,hcur⟩:=own_row hd0.e eb (by rw[hev];rfl);refine⟨by show DrV _ _ _ _ _ _ _ _;rw[hon];exact y1,(hKD.out W b0).trans y2,?_,frozen_of_row _ _ _ _ _ hcur⟩;obtain⟨gb',o,c',hve',hlc,hgb,hL⟩:=hd0.e.EL.own (fun e=>by rw[e]at hp;simp at hp);rw[hev]at hve';injection hve' with e1;injection e1 with e1;injection e1 with e1 e2;subst e1 e2
   have hl:=hL p _ (List.getElem?_eq_getElem hp);simp only[Nat.zero_add,EdAt]at hl;rw[hget];exact hl.2.2.2.2.1)
 generalize act5 g c=R at *
 generalize inB c.n (-1000) 1000=x2 at *
 generalize (getE g.es c.id).wt=old at *
 unfold chCells zCells chCells zC zV zE nilS at hw1h;unfold chCells;have d9:=hcell.out w1 (KD.refl _ _);subst hae hbe;clear hw1 hbx h hd hc hca;have hkh:=Hd hk;clear hg hq hk;obtain⟨u0,_,_,_,_,_,_,_,_,u9,u10,_⟩:=d9;obtain⟨_,_,v2⟩:=hqc.out w1 (Below.refl _ _);rw[hw1h.out]at u9 v2;go_enter Tryz.func131,Tryz.ntmps131;go_wp2_with fail;rw[<-hw1h.out];with_reducible refine(k1.out w1 (Below.refl _ _)).mono ?_
 rintro e w2 ⟨hb2,⟨hx,rfl⟩|⟨eb,n,cap,p,hp,hx,hev,hpe,hid,rfl⟩⟩
 ·have hact2:Hid (R=none):=by show _=_;rw[hact.out,decide_eq_false hx];rfl
  have r2:=hrx.out w2 (hKD.out w2 hb2);clear hx hact k2 hput
  go_wp2_with (refine wpList_store_row rfl 33 (.tmp 7) (.tmp 26) rfl (w.heap.size+1) zCells rfl rfl 33 _ (r2) (info33 _ _ _) rfl z_all ?_)
  refine bodyPost_ret (results_cell_tmp_row (fn:=Tryz.f131) rfl _ _ (w.heap.size+1) 33 zCells (0,0) _ _ rfl rfl (setRow_heap _ _ _ _ _ _ r2) Tryz.underlying33 rfl (info33 _ _ _)) rfl ?_;exact fin_none hB hK1 (hKD.out w2 hb2) _ hact2.out
 ·rw[decide_eq_true hx]at hact;obtain⟨f0,f1,f2,f3⟩:=hput.out w2 hb2 eb n cap p hp hx hev hpe hid;obtain⟨u0,_,_,_,_,_,_,_,_,u9,u10,_⟩:=hcell.out w2 (hKD.out w2 hb2);obtain⟨v0,v1,v2⟩:=hqc.out w2 hb2;have r2:=hrx.out w2 (hKD.out w2 hb2);clear hx hput hev hpe hid hp;cases x2 with
  | false =>
   have hact2:Hid (R=none):=hact.out.trans (by simp);clear hact;go_wp2_with fail;with_reducible refine(k2.out _).mono ?_
   rintro e w3 ⟨rfl,rfl⟩
   go_wp2_with (refine wpList_store_row rfl 33 (.tmp 7) (.tmp 26) rfl (w.heap.size+1) zCells rfl rfl 33 _ (r2) (info33 _ _ _) rfl z_all ?_)
   refine bodyPost_ret (results_cell_tmp_row (fn:=Tryz.f131) rfl _ _ (w.heap.size+1) 33 zCells (0,0) _ _ rfl rfl (setRow_heap _ _ _ _ _ _ r2) Tryz.underlying33 rfl (info33 _ _ _)) rfl ?_;exact fin_none hB hK1 (hKD.out w2 hb2) _ hact2.out
  | true =>
   have hact2:Hid (R=some ({g with es:=onE g.es c.id (setWt c.n)},{zC with kind:=c.kind,id:=c.id,n:=old})):=by show _=_;rw[hact.out,hkh.out];simp
   clear hact;go_wp2_with fail;with_reducible refine(k2.out _).mono ?_
   rintro e w3 ⟨rfl,rfl⟩;have r5:=hrx.out _ f1.out;obtain⟨s0,_,_,_,_,_,_,_,_,s9,s10,_⟩:=hcell.out _ f1.out
   go_wp2_with (refine wpList_store_row rfl 33 (.tmp 7) (.tmp 39) rfl (w.heap.size+1) (chCells {zC with kind:=c.kind,id:=c.id,n:=old} (.slice none 0 0) (.slice none 0 0)) rfl rfl 33 _ (r5) (info33 _ _ _) rfl (ch_all _ _ _ _ _ _ _) ?_)
   refine bodyPost_ret (results_cell_tmp_row (fn:=Tryz.f131) rfl _ _ (w.heap.size+1) 33 (chCells {zC with kind:=c.kind,id:=c.id,n:=old} (.slice none 0 0) (.slice none 0 0)) (0,0) _ _ rfl rfl (setRow_heap _ _ _ _ _ _ r5) Tryz.underlying33 rfl (info33 _ _ _)) rfl ?_;exact fin_some hB hK1 f1.out f0.out r5 hact2.out (nil_O _) (nil_O _)
theorem act6_any(B db:Nat)(vv ev dv mv:Value)(g:Gr)(vc:Value)(c:Ch)(w:World)(h:DrV w B db vv ev dv mv g)(hg:Ok g)(hk:c.kind=6)(q:Nat)(hq:Hid (∀W,KD B w W->W.heap[q]?=some (.cells #[.int .i64 0] 3 (0,0))/\W.heap[q+1]?=some (.cells #[.int .i64 1000] 3 (0,0))/\W.heap[q+2]?=some (.cells #[.func (.func 109) #[] #[]] 153 (0,0))))(hc:∀W,KD B w W->CV W vc c)(_hlen:c.ends.length<=1000000/\c.deps.length<=1000000):
  Calls Tryz.prog 131 #[.pointer (some ⟨db,0,none⟩),vc,.pointer (some ⟨q+2,0,none⟩),.pointer (some ⟨q,0,none⟩),.pointer (some ⟨q+1,0,none⟩)] w (ActPost B db w (act6 g c)):=by
 obtain⟨a,b,rfl,_,_⟩:=hc w (KD.refl _ _);have hca:Hid (∀W,KD B w W->DL W a c.ends/\DL W b c.deps):=fun W K=>by
  obtain⟨a',b',e,h1,h2⟩:=hc W K;injection e with e
  have e1:a=a':=by injection e with e;simp at e;exact e.1
  have e2:b=b':=by injection e with e;simp at e;exact e.2
  exact⟨e1▸h1,e2▸h2⟩
 obtain⟨w1,hw1⟩:∃w1,w1=(w.alloc (.cells (chCells c a b) 33)).alloc (.cells zCells 33):=⟨_,rfl⟩;obtain⟨B1,z1,hbx⟩:=act_world B w w1 c a b hw1;have hB:=h.base;have hd:=h.below B1;have hK1:KD B w w1:=KD.of B1 hB;have hDr:=Hd (fun(W:World) (b0:Below w1.heap.size w1 W)=>hd.below b0);have hKD:=Hd (fun(W:World) (b0:Below w1.heap.size w1 W)=>KD.of b0 hd.base);have hcell:=Hd (fun(W:World) (K:KD B w1 W)=>ch_cells (hbx W K).1);have hrx:=Hd (fun(W:World) (K:KD B w1 W)=>(hbx W K).2);have hd4:=Hd (fun(W:World) (b0:Below w1.heap.size w1 W)=>(hd.below b0).cells);have hw1h:=Hd hw1;obtain⟨ah,ac,hae⟩:=(hca.out w (KD.refl _ _)).1.shape;obtain⟨bh,bc,hbe⟩:=(hca.out w (KD.refl _ _)).2.shape;have hvl:=hg.vlen;have hel:=hg.elen;have k1:=Hd (fun W (b0:Below w1.heap.size w1 W)=>capOf_any B db vv ev dv mv g c.id W (hDr.out W b0) (by omega) hg.easc);have hqc:=Hd (fun(W:World) (b0:Below w1.heap.size w1 W)=>show W.cell? ⟨q,0,none⟩=some (.int .i64 0)/\W.cell? ⟨q+1,0,none⟩=some (.int .i64 1000)/\W.cell? ⟨q+2,0,none⟩=some (.func (.func 109) #[] #[])from by
  obtain⟨y1,y2,y3⟩:=hq.out W (hK1.trans (hKD.out W b0));exact⟨by rw[cell_of_row _ _ _ _ _ _ y1];rfl,by rw[cell_of_row _ _ _ _ _ _ y2];rfl,by rw[cell_of_row _ _ _ _ _ _ y3];rfl⟩)
 have hact:Hid (act6 g c=if(decide (c.id∈keysE g.es)&&inB c.n 0 1000)=true then some ({g with es:=onE g.es c.id (setCap c.n)},{zC with kind:=6,id:=c.id,n:=(getE g.es c.id).cap})else none):=rfl;have k2:=Hd (fun W=>within_any c.n 0 1000 W);have hput:=Hd (fun(W:World) (b0:Below w1.heap.size w1 W) (eb n cap p:Nat) (hp:p<g.es.length) (hx:c.id∈keysE g.es) (hev:ev= .slice (some ⟨eb,0,none⟩) n cap) (hpe:p=posK (keysE g.es) c.id) (hid:g.es[p].id=c.id) =>
  show Hid (DrV (W.setCell ⟨eb,p*6+5,none⟩ (.int .i64 c.n)) B db vv ev dv mv {g with es:=onE g.es c.id (setCap c.n)})/\Hid (KD B w1 (W.setCell ⟨eb,p*6+5,none⟩ (.int .i64 c.n)))/\W.cell? ⟨eb,p*6+5,none⟩=some (.int .i64 (getE g.es c.id).cap)/\W.frozen? ⟨eb,p*6+5,none⟩=false from by
   have hd0:=hDr.out W b0;obtain⟨y1,y2⟩:=hd0.putE (p:=p) (i:=5) (u:= .int .i64 c.n) (e':=setCap c.n g.es[p]) hp (by omega) rfl hev;have hon:onE g.es c.id (setCap c.n)=g.es.set p (setCap c.n g.es[p]):=by
    subst hpe;exact onE_eq g.es c.id (setCap c.n) hg.easc hp hid
   have hget:getE g.es c.id=g.es[p]:=by
    have:=getE_of g.es hg.easc _ (List.getElem_mem hp)
    rwa [hid]at this
   obtain⟨_,cur,hcur⟩:=own_row hd0.e eb (by rw[hev];rfl);refine⟨by show DrV _ _ _ _ _ _ _ _;rw[hon];exact y1,(hKD.out W b0).trans y2,?_,frozen_of_row _ _ _ _ _ hcur⟩;obtain⟨gb',o,c',hve',hlc,hgb,hL⟩:=hd0.e.EL.own (fun e=>by rw[e]at hp;simp at hp);rw[hev]at hve';injection hve' with e1;injection e1 with e1;injection e1 with e1 e2;subst e1 e2
   have hl:=hL p _ (List.getElem?_eq_getElem hp);simp only[Nat.zero_add,EdAt]at hl;rw[hget];exact hl.2.2.2.2.2)
 generalize act6 g c=R at *
 generalize inB c.n 0 1000=x2 at *
 generalize (getE g.es c.id).cap=old at *
 unfold chCells zCells chCells zC zV zE nilS at hw1h;unfold chCells;have d9:=hcell.out w1 (KD.refl _ _);subst hae hbe;clear hw1 hbx h hd hc hca;have hkh:=Hd hk;clear hg hq hk;obtain⟨u0,_,_,_,_,_,_,_,_,u9,u10,_⟩:=d9;obtain⟨_,_,v2⟩:=hqc.out w1 (Below.refl _ _);rw[hw1h.out]at u9 v2;go_enter Tryz.func131,Tryz.ntmps131;go_wp2_with fail;rw[<-hw1h.out];with_reducible refine(k1.out w1 (Below.refl _ _)).mono ?_
 rintro e w2 ⟨hb2,⟨hx,rfl⟩|⟨eb,n,cap,p,hp,hx,hev,hpe,hid,rfl⟩⟩
 ·have hact2:Hid (R=none):=by show _=_;rw[hact.out,decide_eq_false hx];rfl
  have r2:=hrx.out w2 (hKD.out w2 hb2);clear hx hact k2 hput
  go_wp2_with (refine wpList_store_row rfl 33 (.tmp 7) (.tmp 26) rfl (w.heap.size+1) zCells rfl rfl 33 _ (r2) (info33 _ _ _) rfl z_all ?_)
  refine bodyPost_ret (results_cell_tmp_row (fn:=Tryz.f131) rfl _ _ (w.heap.size+1) 33 zCells (0,0) _ _ rfl rfl (setRow_heap _ _ _ _ _ _ r2) Tryz.underlying33 rfl (info33 _ _ _)) rfl ?_;exact fin_none hB hK1 (hKD.out w2 hb2) _ hact2.out
 ·rw[decide_eq_true hx]at hact;obtain⟨f0,f1,f2,f3⟩:=hput.out w2 hb2 eb n cap p hp hx hev hpe hid;obtain⟨u0,_,_,_,_,_,_,_,_,u9,u10,_⟩:=hcell.out w2 (hKD.out w2 hb2);obtain⟨v0,v1,v2⟩:=hqc.out w2 hb2;have r2:=hrx.out w2 (hKD.out w2 hb2);clear hx hput hev hpe hid hp;cases x2 with
  | false =>
   have hact2:Hid (R=none):=hact.out.trans (by simp);clear hact;go_wp2_with fail;with_reducible refine(k2.out _).mono ?_
   rintro e w3 ⟨rfl,rfl⟩
   go_wp2_with (refine wpList_store_row rfl 33 (.tmp 7) (.tmp 26) rfl (w.heap.size+1) zCells rfl rfl 33 _ (r2) (info33 _ _ _) rfl z_all ?_)
   refine bodyPost_ret (results_cell_tmp_row (fn:=Tryz.f131) rfl _ _ (w.heap.size+1) 33 zCells (0,0) _ _ rfl rfl (setRow_heap _ _ _ _ _ _ r2) Tryz.underlying33 rfl (info33 _ _ _)) rfl ?_;exact fin_none hB hK1 (hKD.out w2 hb2) _ hact2.out
  | true =>
   have hact2:Hid (R=some ({g with es:=onE g.es c.id (setCap c.n)},{zC with kind:=c.kind,id:=c.id,n:=old})):=by show _=_;rw[hact.out,hkh.out];simp
   clear hact;go_wp2_with fail;with_reducible refine(k2.out _).mono ?_
   rintro e w3 ⟨rfl,rfl⟩;have r5:=hrx.out _ f1.out;obtain⟨s0,_,_,_,_,_,_,_,_,s9,s10,_⟩:=hcell.out _ f1.out
   go_wp2_with (refine wpList_store_row rfl 33 (.tmp 7) (.tmp 39) rfl (w.heap.size+1) (chCells {zC with kind:=c.kind,id:=c.id,n:=old} (.slice none 0 0) (.slice none 0 0)) rfl rfl 33 _ (r5) (info33 _ _ _) rfl (ch_all _ _ _ _ _ _ _) ?_)
   refine bodyPost_ret (results_cell_tmp_row (fn:=Tryz.f131) rfl _ _ (w.heap.size+1) 33 (chCells {zC with kind:=c.kind,id:=c.id,n:=old} (.slice none 0 0) (.slice none 0 0)) (0,0) _ _ rfl rfl (setRow_heap _ _ _ _ _ _ r5) Tryz.underlying33 rfl (info33 _ _ _)) rfl ?_;exact fin_some hB hK1 f1.out f0.out r5 hact2.out (nil_O _) (nil_O _)
theorem act9_any(B db:Nat)(vv ev dv mv:Value)(g:Gr)(vc:Value)(c:Ch)(w:World)(h:DrV w B db vv ev dv mv g)(hg:Ok g)(hk:c.kind=9)(q:Nat)(hq:Hid (∀W,KD B w W->W.heap[q]?=some (.cells #[.int .i64 0] 3 (0,0))/\W.heap[q+1]?=some (.cells #[.int .i64 3] 3 (0,0))/\W.heap[q+2]?=some (.cells #[.func (.func 112) #[] #[]] 153 (0,0))))(hc:∀W,KD B w W->CV W vc c)(_hlen:c.ends.length<=1000000/\c.deps.length<=1000000):
  Calls Tryz.prog 131 #[.pointer (some ⟨db,0,none⟩),vc,.pointer (some ⟨q+2,0,none⟩),.pointer (some ⟨q,0,none⟩),.pointer (some ⟨q+1,0,none⟩)] w (ActPost B db w (act9 g c)):=by
 obtain⟨a,b,rfl,_,_⟩:=hc w (KD.refl _ _);have hca:Hid (∀W,KD B w W->DL W a c.ends/\DL W b c.deps):=fun W K=>by
  obtain⟨a',b',e,h1,h2⟩:=hc W K;injection e with e
  have e1:a=a':=by injection e with e;simp at e;exact e.1
  have e2:b=b':=by injection e with e;simp at e;exact e.2
  exact⟨e1▸h1,e2▸h2⟩
 obtain⟨w1,hw1⟩:∃w1,w1=(w.alloc (.cells (chCells c a b) 33)).alloc (.cells zCells 33):=⟨_,rfl⟩;obtain⟨B1,z1,hbx⟩:=act_world B w w1 c a b hw1;have hB:=h.base;have hd:=h.below B1;have hK1:KD B w w1:=KD.of B1 hB;have hDr:=Hd (fun(W:World) (b0:Below w1.heap.size w1 W)=>hd.below b0);have hKD:=Hd (fun(W:World) (b0:Below w1.heap.size w1 W)=>KD.of b0 hd.base);have hcell:=Hd (fun(W:World) (K:KD B w1 W)=>ch_cells (hbx W K).1);have hrx:=Hd (fun(W:World) (K:KD B w1 W)=>(hbx W K).2);have hd4:=Hd (fun(W:World) (b0:Below w1.heap.size w1 W)=>(hd.below b0).cells);have hw1h:=Hd hw1;obtain⟨ah,ac,hae⟩:=(hca.out w (KD.refl _ _)).1.shape;obtain⟨bh,bc,hbe⟩:=(hca.out w (KD.refl _ _)).2.shape;have hvl:=hg.vlen;have hel:=hg.elen;have k1:=Hd (fun W (b0:Below w1.heap.size w1 W)=>sideOf_any B db vv ev dv mv g c.id W (hDr.out W b0) (by omega) hg.vasc);have hqc:=Hd (fun(W:World) (b0:Below w1.heap.size w1 W)=>show W.cell? ⟨q,0,none⟩=some (.int .i64 0)/\W.cell? ⟨q+1,0,none⟩=some (.int .i64 3)/\W.cell? ⟨q+2,0,none⟩=some (.func (.func 112) #[] #[])from by
  obtain⟨y1,y2,y3⟩:=hq.out W (hK1.trans (hKD.out W b0));exact⟨by rw[cell_of_row _ _ _ _ _ _ y1];rfl,by rw[cell_of_row _ _ _ _ _ _ y2];rfl,by rw[cell_of_row _ _ _ _ _ _ y3];rfl⟩)
 have hact:Hid (act9 g c=if(decide (c.id∈keysV g.vs)&&inB c.n 0 3)=true then some ({g with vs:=onV g.vs c.id (setSide c.n)},{zC with kind:=9,id:=c.id,n:=(getV g.vs c.id).side})else none):=rfl;have k2:=Hd (fun W=>within_any c.n 0 3 W);have hput:=Hd (fun(W:World) (b0:Below w1.heap.size w1 W) (eb n cap p:Nat) (hp:p<g.vs.length) (hx:c.id∈keysV g.vs) (hev:vv= .slice (some ⟨eb,0,none⟩) n cap) (hpe:p=posK (keysV g.vs) c.id) (hid:g.vs[p].id=c.id) =>
  show Hid (DrV (W.setCell ⟨eb,p*2+1,none⟩ (.int .i64 c.n)) B db vv ev dv mv {g with vs:=onV g.vs c.id (setSide c.n)})/\Hid (KD B w1 (W.setCell ⟨eb,p*2+1,none⟩ (.int .i64 c.n)))/\W.cell? ⟨eb,p*2+1,none⟩=some (.int .i64 (getV g.vs c.id).side)/\W.frozen? ⟨eb,p*2+1,none⟩=false from by
   have hd0:=hDr.out W b0;obtain⟨y1,y2⟩:=hd0.putV (p:=p) (i:=1) (u:= .int .i64 c.n) (e':=setSide c.n g.vs[p]) hp (by omega) rfl hev;have hon:onV g.vs c.id (setSide c.n)=g.vs.set p (setSide c.n g.vs[p]):=by
    subst hpe;exact onV_eq g.vs c.id (setSide c.n) hg.vasc hp hid
   have hget:getV g.vs c.id=g.vs[p]:=by
    have:=getV_of g.vs hg.vasc _ (List.getElem_mem hp)
    rwa [hid]at this
   obtain⟨_,cur,hcur⟩:=own_row hd0.v eb (by rw[hev];rfl);refine⟨by show DrV _ _ _ _ _ _ _ _;rw[hon];exact y1,(hKD.out W b0).trans y2,?_,frozen_of_row _ _ _ _ _ hcur⟩;obtain⟨gb',o,c',hve',hlc,hgb,hL⟩:=hd0.v.VL.own (fun e=>by rw[e]at hp;simp at hp);rw[hev]at hve';injection hve' with e1;injection e1 with e1;injection e1 with e1 e2;subst e1 e2
   have hl:=hL p _ (List.getElem?_eq_getElem hp);simp only[Nat.zero_add]at hl;rw[hget];exact hl.2)
 generalize act9 g c=R at *
 generalize inB c.n 0 3=x2 at *
 generalize (getV g.vs c.id).side=old at *
 unfold chCells zCells chCells zC zV zE nilS at hw1h;unfold chCells;have d9:=hcell.out w1 (KD.refl _ _);subst hae hbe;clear hw1 hbx h hd hc hca;have hkh:=Hd hk;clear hg hq hk;obtain⟨u0,_,_,_,_,_,_,_,_,u9,u10,_⟩:=d9;obtain⟨_,_,v2⟩:=hqc.out w1 (Below.refl _ _);rw[hw1h.out]at u9 v2;go_enter Tryz.func131,Tryz.ntmps131;go_wp2_with fail;rw[<-hw1h.out];with_reducible refine(k1.out w1 (Below.refl _ _)).mono ?_
 rintro e w2 ⟨hb2,⟨hx,rfl⟩|⟨eb,n,cap,p,hp,hx,hev,hpe,hid,rfl⟩⟩
 ·have hact2:Hid (R=none):=by show _=_;rw[hact.out,decide_eq_false hx];rfl
  have r2:=hrx.out w2 (hKD.out w2 hb2);clear hx hact k2 hput
  go_wp2_with (refine wpList_store_row rfl 33 (.tmp 7) (.tmp 26) rfl (w.heap.size+1) zCells rfl rfl 33 _ (r2) (info33 _ _ _) rfl z_all ?_)
  refine bodyPost_ret (results_cell_tmp_row (fn:=Tryz.f131) rfl _ _ (w.heap.size+1) 33 zCells (0,0) _ _ rfl rfl (setRow_heap _ _ _ _ _ _ r2) Tryz.underlying33 rfl (info33 _ _ _)) rfl ?_;exact fin_none hB hK1 (hKD.out w2 hb2) _ hact2.out
 ·rw[decide_eq_true hx]at hact;obtain⟨f0,f1,f2,f3⟩:=hput.out w2 hb2 eb n cap p hp hx hev hpe hid;obtain⟨u0,_,_,_,_,_,_,_,_,u9,u10,_⟩:=hcell.out w2 (hKD.out w2 hb2);obtain⟨v0,v1,v2⟩:=hqc.out w2 hb2;have r2:=hrx.out w2 (hKD.out w2 hb2);clear hx hput hev hpe hid hp;cases x2 with
  | false =>
   have hact2:Hid (R=none):=hact.out.trans (by simp);clear hact;go_wp2_with fail;with_reducible refine(k2.out _).mono ?_
   rintro e w3 ⟨rfl,rfl⟩
   go_wp2_with (refine wpList_store_row rfl 33 (.tmp 7) (.tmp 26) rfl (w.heap.size+1) zCells rfl rfl 33 _ (r2) (info33 _ _ _) rfl z_all ?_)
   refine bodyPost_ret (results_cell_tmp_row (fn:=Tryz.f131) rfl _ _ (w.heap.size+1) 33 zCells (0,0) _ _ rfl rfl (setRow_heap _ _ _ _ _ _ r2) Tryz.underlying33 rfl (info33 _ _ _)) rfl ?_;exact fin_none hB hK1 (hKD.out w2 hb2) _ hact2.out
  | true =>
   have hact2:Hid (R=some ({g with vs:=onV g.vs c.id (setSide c.n)},{zC with kind:=c.kind,id:=c.id,n:=old})):=by show _=_;rw[hact.out,hkh.out];simp
   clear hact;go_wp2_with fail;with_reducible refine(k2.out _).mono ?_
   rintro e w3 ⟨rfl,rfl⟩;have r5:=hrx.out _ f1.out;obtain⟨s0,_,_,_,_,_,_,_,_,s9,s10,_⟩:=hcell.out _ f1.out
   go_wp2_with (refine wpList_store_row rfl 33 (.tmp 7) (.tmp 39) rfl (w.heap.size+1) (chCells {zC with kind:=c.kind,id:=c.id,n:=old} (.slice none 0 0) (.slice none 0 0)) rfl rfl 33 _ (r5) (info33 _ _ _) rfl (ch_all _ _ _ _ _ _ _) ?_)
   refine bodyPost_ret (results_cell_tmp_row (fn:=Tryz.f131) rfl _ _ (w.heap.size+1) 33 (chCells {zC with kind:=c.kind,id:=c.id,n:=old} (.slice none 0 0) (.slice none 0 0)) (0,0) _ _ rfl rfl (setRow_heap _ _ _ _ _ _ r5) Tryz.underlying33 rfl (info33 _ _ _)) rfl ?_;exact fin_some hB hK1 f1.out f0.out r5 hact2.out (nil_O _) (nil_O _)
end Go.Proofs.YtlaldnlgapeckaaGreat
