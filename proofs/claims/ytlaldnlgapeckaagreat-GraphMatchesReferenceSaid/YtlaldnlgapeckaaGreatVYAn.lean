/- Facts. -/
import Derived.Test.YtlaldnlgapeckaaGreatVYAm
import Derived.Test.YtlaldnlgapeckaaGreatVYQt
set_option linter.unusedSimpArgs false
set_option maxRecDepth 100000
set_option maxHeartbeats 4000000
namespace Go.Proofs.YtlaldnlgapeckaaGreat
open Go.RowKit
theorem endsF_in{g:Gr}(hg:Ok g)(a:Int):∀n∈endsF g.es a,0<=n/\n<=1000000/\n / 2∈keysE g.es:=fun n hn=>by
 obtain⟨e,he,h⟩:=(mem_endsF _ _ _).1 hn;have:=((Ed.okIn_iff e _).1 (hg.eok e he)).1;have h2:n / 2=e.id:=by rcases h with⟨_,h⟩|⟨_,h⟩<;>omega
 refine⟨?_,?_,?_⟩
 ·rcases h with⟨_,h⟩|⟨_,h⟩<;>omega
 ·rcases h with⟨_,h⟩|⟨_,h⟩<;>omega
 ·rw[h2];exact mem_keysE.2 ⟨e,he,rfl⟩
theorem mv_ct(l:List Ed)(a b:Int)(h:Asc (keysE l)):l.map (mvE (endsF l a) b)=l.map (ctE a b) :=
 List.map_congr_left fun e he=>by
  have e1:=even_endsF h he a;have e2:=odd_endsF h he a;simp only[mvE,ctE,e1,e2]
theorem act7_any(B db:Nat)(vv ev dv mv:Value)(g:Gr)(vc:Value)(c:Ch)(w:World)(h:DrV w B db vv ev dv mv g)(hg:Ok g)(hc:∀W,KD B w W->CV W vc c)(_hlen:c.ends.length<=1000000/\c.deps.length<=1000000):
  Calls Tryz.prog 110 #[.pointer (some ⟨db,0,none⟩),vc] w (ActPost B db w (act7 g c)):=by
 obtain⟨a,b,rfl,_,_⟩:=hc w (KD.refl _ _);have hca:Hid (∀W,KD B w W->DL W a c.ends/\DL W b c.deps):=fun W K=>by
  obtain⟨a',b',e,h1,h2⟩:=hc W K;injection e with e
  have e1:a=a':=by injection e with e;simp at e;exact e.1
  have e2:b=b':=by injection e with e;simp at e;exact e.2
  exact⟨e1▸h1,e2▸h2⟩
 obtain⟨w1,hw1⟩:∃w1,w1=(w.alloc (.cells (chCells c a b) 33)).alloc (.cells zCells 33):=⟨_,rfl⟩;obtain⟨B1,z1,hbx⟩:=act_world B w w1 c a b hw1;have hB:=h.base;have hd:=h.below B1;have hK1:KD B w w1:=KD.of B1 hB;have hDr:=Hd (fun(W:World) (b0:Below w1.heap.size w1 W)=>hd.below b0);have hKD:=Hd (fun(W:World) (b0:Below w1.heap.size w1 W)=>KD.of b0 hd.base);have hcell:=Hd (fun(W:World) (K:KD B w1 W)=>ch_cells (hbx W K).1);have hrx:=Hd (fun(W:World) (K:KD B w1 W)=>(hbx W K).2);have hd4:=Hd (fun(W:World) (b0:Below w1.heap.size w1 W)=>(hd.below b0).cells);have hw1h:=Hd hw1;obtain⟨ah,ac,hae⟩:=(hca.out w (KD.refl _ _)).1.shape;obtain⟨bh,bc,hbe⟩:=(hca.out w (KD.refl _ _)).2.shape;have hvl:=hg.vlen;have hel:=hg.elen;have k1:=Hd (fun W (b0:Below w1.heap.size w1 W)=>has_any vv g.vs c.id W (hDr.out W b0).v.VL (by omega) hg.vasc);have k2:=Hd (fun W (b0:Below w1.heap.size w1 W)=>has_any vv g.vs c.n W (hDr.out W b0).v.VL (by omega) hg.vasc);have k3:=Hd (fun W (b0:Below w1.heap.size w1 W)=>Contains_any dv g.ds c.id W (hDr.out W b0).d.DL (by have:=hg.dlen;omega));have hids:=hg.ids;have k4:=Hd (fun W (b0:Below w1.heap.size w1 W)=>endsAt_any db ev g.es c.id W (hDr.out W b0).cells.2.1 (hDr.out W b0).e.EL (by omega) hids);have hen:(endsF g.es c.id).length<=80:=by have:=endsF_len g.es c.id;omega
 have hin:=endsF_in hg c.id;have hct:=mv_ct g.es c.id c.n hg.easc;have k5:=Hd (fun(W:World) (b0:Below w1.heap.size w1 W) (W':World) (b1:Below W.heap.size W W') (r:Value) (hO:OwnI W' W.heap.size r (endsF g.es c.id)) =>
  show Calls Tryz.prog 132 #[.pointer (some ⟨db,0,none⟩),r,.int .i64 c.n] W' fun e w'=>e= .returned (.tuple #[])/\Hid (DrV w' B db vv ev dv mv {g with es:=g.es.map (ctE c.id c.n)})/\Hid (KD B w1 w')/\Hid (OwnI w' W.heap.size r (endsF g.es c.id))from by
   have b2:=b0.trans (b1.mono b0.size);refine(move_any B db vv ev dv mv g r (endsF g.es c.id) c.n W' (hDr.out W' b2) (fun W2 K=>(hO.kd K).DL) (by omega) hg.easc (by omega) hin).mono ?_;rintro e w' ⟨rfl,q1,q2⟩;rw[hct]at q1;exact⟨rfl,q1,(hKD.out W' b2).trans q2,hO.kd q2⟩)
 have k6:=Hd (fun(W:World) (hD:DrV W B db vv ev dv mv {g with es:=g.es.map (ctE c.id c.n)}) (hx:c.id∈keysV g.vs)=>remove_any B db vv ev dv mv {g with es:=g.es.map (ctE c.id c.n)} c.id W hD (by show g.vs.length<=1000;omega) hg.vasc hx);have hact:Hid (act7 g c=if(!decide (c.id=c.n)&&decide (c.id∈keysV g.vs)&&decide (c.n∈keysV g.vs)&&!decide (c.id∈g.ds))=true then some ({g with vs:=delV g.vs c.id,es:=g.es.map (ctE c.id c.n)},{zC with kind:=8,id:=c.n,v:=getV g.vs c.id,ends:=endsF g.es c.id})else none):=rfl;have hcr:=Hd (fun(W:World) (b0:Below w1.heap.size w1 W)=>show W.cell? ⟨db,0,none⟩=some vv/\W.cell? ⟨db,2,none⟩=some dv/\W.cell? ⟨w.heap.size,9,none⟩=some (.int .i64 c.id)/\W.cell? ⟨w.heap.size,10,none⟩=some (.int .i64 c.n)from
  ⟨(hd4.out W b0).1,(hd4.out W b0).2.2.1,(hcell.out W (hKD.out W b0)).2.2.2.2.2.2.2.2.2.1,(hcell.out W (hKD.out W b0)).2.2.2.2.2.2.2.2.2.2.1⟩)
 have hcb:=Hd (fun(W:World) (K:KD B w1 W)=>show W.cell? ⟨w.heap.size,9,none⟩=some (.int .i64 c.id)/\W.cell? ⟨w.heap.size,10,none⟩=some (.int .i64 c.n)from⟨(hcell.out W K).2.2.2.2.2.2.2.2.2.1,(hcell.out W K).2.2.2.2.2.2.2.2.2.2.1⟩);generalize act7 g c=R at *
 obtain⟨E,hE⟩:∃E,Hid (E=endsF g.es c.id):=⟨_,rfl⟩;rw[<-hE.out]at k4 k5 hen hact;obtain⟨vh,vc,hve⟩:=hd.v.VL.shape;obtain⟨dh,dc,hde⟩:=hd.d.DL.shape;by_cases hx0:c.id=c.n
 ·have t0:(c.id==c.n)=true:=by simpa using hx0
  have hact2:Hid (R=none):=by show _=_;rw[hact.out,decide_eq_true hx0];rfl
  clear hact hx0 k1 k2 k3 k4 k5 k6;unfold chCells zCells chCells zC zV zE nilS at hw1h;unfold chCells;have d9:=hcell.out w1 (KD.refl _ _);subst hae hbe;clear hw1 hbx h hd hc hca;subst hve hde;generalize g.vs.length=nv at *
  generalize g.ds.length=nd at *
  clear d9;go_enter Tryz.func110,Tryz.ntmps110;go_wp2_with fail;rw[<-hw1h.out];refine q_region (fun w':World=>Below w1.heap.size w1 w') (by kernel_rfl) (by kernel_rfl) ((Below.refl _ _).drew) ?_;repeat (first|(refine q_skip (by rfl) ?_;try simp only[Act.put,zT,z0,zS])|(refine q_take (v:=?_) (by rfl) ?_ ?_;rotate_left;(first|((intro w h;clear h;go_simp)<;>with_reducible rfl)|((intro w h;obtain⟨d0,d2,d9,d10⟩:=hcr.out w h;go_simp)<;>with_reducible rfl));try simp only[Act.put,zT,z0,zS]))
  refine q_nil ?_;intro wq hHeld;have r2:=hrx.out _ (hKD.out _ hHeld)
  go_wp2_with (refine wpList_store_row rfl 33 (.tmp 4) (.tmp 44) rfl (w.heap.size+1) zCells rfl rfl 33 _ (r2) (info33 _ _ _) rfl z_all ?_)
  refine bodyPost_ret (results_cell_tmp_row (fn:=Tryz.f110) rfl _ _ (w.heap.size+1) 33 zCells (0,0) _ _ rfl rfl (setRow_heap _ _ _ _ _ _ r2) Tryz.underlying33 rfl (info33 _ _ _)) rfl ?_;exact fin_none hB hK1 (hKD.out _ hHeld) _ hact2.out
 ·have t0:(c.id==c.n)=false:=by simpa using hx0
  rw[decide_eq_false hx0]at hact;by_cases hx1:c.id∈keysV g.vs;rotate_left
  ·rw[decide_eq_false hx1]at hact k1;have hact2:Hid (R=none):=by show _=_;rw[hact.out];rfl
   clear hact hx0 hx1 k2 k3 k4 k5 k6;unfold chCells zCells chCells zC zV zE nilS at hw1h;unfold chCells;have d9:=hcell.out w1 (KD.refl _ _);subst hae hbe;clear hw1 hbx h hd hc hca;subst hve hde;generalize g.vs.length=nv at *
   generalize g.ds.length=nd at *
   clear d9;go_enter Tryz.func110,Tryz.ntmps110;go_wp2_with fail;rw[<-hw1h.out];refine wp_region_F (fun w':World=>Below w1.heap.size w1 w') 999 (by kernel_rfl) (Below.refl _ _).drew (fun hHeld=>?_);refine tkP 0 rfl ?_;refine tkP 1 rfl ?_ (by(intro w hSw;obtain⟨d0,d2,d9,d10⟩:=hcr.out w hSw;go_simp)<;>with_reducible rfl);refine tkP 2 rfl ?_;refine tkP 3 rfl ?_ (by(intro w hSw;obtain⟨d0,d2,d9,d10⟩:=hcr.out w hSw;go_simp)<;>with_reducible rfl);refine tkP 4 rfl ?_;refine tkP 5 rfl ?_;refine tkP 6 rfl ?_;refine tkP 7 rfl ?_;refine tkP 8 rfl ?_;refine tkP 9 rfl ?_;refine tkP 10 rfl ?_ (by(intro w hSw;obtain⟨d0,d2,d9,d10⟩:=hcr.out w hSw;go_simp)<;>with_reducible rfl);refine tkP 11 rfl ?_;refine tkP 12 rfl ?_ (by(intro w hSw;obtain⟨d0,d2,d9,d10⟩:=hcr.out w hSw;go_simp)<;>with_reducible rfl);refine rdy [13] ?_;refine arC rfl (fun K hK=>?_) ?_
   ·skip
    go_simp;with_reducible refine(k1.out _ hHeld).mono ?_
    rintro e w2 ⟨rfl,b⟩;have h2:Below w1.heap.size w1 w2:=hHeld.trans (b.mono hHeld.size);clear b;go_wp2_with fail;refine hK.out _ _ ?_ (fun hHeld=>?_)
    ·exact h2
    clear hK K;try simp only[Act.put,zT,z0,zS]
    refine tkP 14 rfl ?_;refine tkP 15 rfl ?_;refine tkP 16 rfl ?_;refine tkU 17 rfl ?_;refine tkU 18 rfl ?_;refine tkU 19 rfl ?_;refine tkU 20 rfl ?_;refine tkU 21 rfl ?_;refine tkU 22 rfl ?_;refine tkU 23 rfl ?_;refine tkU 24 rfl ?_;refine tkU 25 rfl ?_;refine tkP 26 rfl ?_;refine tkP 27 rfl ?_;refine tkU 28 rfl ?_;refine tkU 29 rfl ?_;refine tkU 30 rfl ?_;refine tkU 31 rfl ?_;refine tkU 32 rfl ?_;refine tkU 33 rfl ?_;refine tkU 34 rfl ?_;refine tkU 35 rfl ?_;refine tkP 36 rfl ?_;refine wpAnyF_done (by kernel_rfl) ?_ _;have r2:=hrx.out _ (hKD.out _ hHeld)
    go_wp2_with (refine wpList_store_row rfl 33 (.tmp 4) (.tmp 44) rfl (w.heap.size+1) zCells rfl rfl 33 _ (r2) (info33 _ _ _) rfl z_all ?_)
    refine bodyPost_ret (results_cell_tmp_row (fn:=Tryz.f110) rfl _ _ (w.heap.size+1) 33 zCells (0,0) _ _ rfl rfl (setRow_heap _ _ _ _ _ _ r2) Tryz.underlying33 rfl (info33 _ _ _)) rfl ?_;exact fin_none hB hK1 (hKD.out _ hHeld) _ hact2.out
   exact AllReadyF.nil
  ·rw[decide_eq_true hx1]at hact k1;by_cases hx2:c.n∈keysV g.vs;rotate_left
   ·rw[decide_eq_false hx2]at hact k2;have hact2:Hid (R=none):=by show _=_;rw[hact.out];rfl
    clear hact hx0 hx1 hx2 k3 k4 k5 k6;unfold chCells zCells chCells zC zV zE nilS at hw1h;unfold chCells;have d9:=hcell.out w1 (KD.refl _ _);subst hae hbe;clear hw1 hbx h hd hc hca;subst hve hde;generalize g.vs.length=nv at *
    generalize g.ds.length=nd at *
    clear d9;go_enter Tryz.func110,Tryz.ntmps110;go_wp2_with fail;rw[<-hw1h.out];refine wp_region_F (fun w':World=>Below w1.heap.size w1 w') 999 (by kernel_rfl) (Below.refl _ _).drew (fun hHeld=>?_);refine tkP 0 rfl ?_;refine tkP 1 rfl ?_ (by(intro w hSw;obtain⟨d0,d2,d9,d10⟩:=hcr.out w hSw;go_simp)<;>with_reducible rfl);refine tkP 2 rfl ?_;refine tkP 3 rfl ?_ (by(intro w hSw;obtain⟨d0,d2,d9,d10⟩:=hcr.out w hSw;go_simp)<;>with_reducible rfl);refine tkP 4 rfl ?_;refine tkP 5 rfl ?_;refine tkP 6 rfl ?_;refine tkP 7 rfl ?_;refine tkP 8 rfl ?_;refine tkP 9 rfl ?_;refine tkP 10 rfl ?_ (by(intro w hSw;obtain⟨d0,d2,d9,d10⟩:=hcr.out w hSw;go_simp)<;>with_reducible rfl);refine tkP 11 rfl ?_;refine tkP 12 rfl ?_ (by(intro w hSw;obtain⟨d0,d2,d9,d10⟩:=hcr.out w hSw;go_simp)<;>with_reducible rfl);refine rdy [13] ?_;refine arC rfl (fun K hK=>?_) ?_
    ·skip
     go_simp;with_reducible refine(k1.out _ hHeld).mono ?_
     rintro e w2 ⟨rfl,b⟩;have h2:Below w1.heap.size w1 w2:=hHeld.trans (b.mono hHeld.size);clear b;go_wp2_with fail;refine hK.out _ _ ?_ (fun hHeld=>?_)
     ·exact h2
     clear hK K;try simp only[Act.put,zT,z0,zS]
     refine tkP 14 rfl ?_;refine tkP 15 rfl ?_;refine tkP 16 rfl ?_;refine tkP 17 rfl ?_;refine tkP 18 rfl ?_;refine tkP 19 rfl ?_;refine tkP 20 rfl ?_;refine tkP 21 rfl ?_ (by(intro w hSw;obtain⟨d0,d2,d9,d10⟩:=hcr.out w hSw;go_simp)<;>with_reducible rfl);refine tkP 22 rfl ?_;refine tkP 23 rfl ?_ (by(intro w hSw;obtain⟨d0,d2,d9,d10⟩:=hcr.out w hSw;go_simp)<;>with_reducible rfl);refine rdy [24] ?_;refine arC rfl (fun K hK=>?_) ?_
     ·skip
      go_simp;with_reducible refine(k2.out _ hHeld).mono ?_
      rintro e w2b ⟨rfl,b⟩;have h2b:Below w1.heap.size w1 w2b:=hHeld.trans (b.mono hHeld.size);clear b;go_wp2_with fail;refine hK.out _ _ ?_ (fun hHeld=>?_)
      ·exact h2b
      clear hK K;try simp only[Act.put,zT,z0,zS]
      refine tkP 25 rfl ?_;refine tkP 26 rfl ?_;refine tkP 27 rfl ?_;refine tkU 28 rfl ?_;refine tkU 29 rfl ?_;refine tkU 30 rfl ?_;refine tkU 31 rfl ?_;refine tkU 32 rfl ?_;refine tkU 33 rfl ?_;refine tkU 34 rfl ?_;refine tkU 35 rfl ?_;refine tkP 36 rfl ?_;refine wpAnyF_done (by kernel_rfl) ?_ _;have r2:=hrx.out _ (hKD.out _ hHeld)
      go_wp2_with (refine wpList_store_row rfl 33 (.tmp 4) (.tmp 44) rfl (w.heap.size+1) zCells rfl rfl 33 _ (r2) (info33 _ _ _) rfl z_all ?_)
      refine bodyPost_ret (results_cell_tmp_row (fn:=Tryz.f110) rfl _ _ (w.heap.size+1) 33 zCells (0,0) _ _ rfl rfl (setRow_heap _ _ _ _ _ _ r2) Tryz.underlying33 rfl (info33 _ _ _)) rfl ?_;exact fin_none hB hK1 (hKD.out _ hHeld) _ hact2.out
     exact AllReadyF.nil
    exact AllReadyF.nil
   ·rw[decide_eq_true hx2]at hact k2;by_cases hx3:c.id∈g.ds
    ·rw[decide_eq_true hx3]at hact k3;have hact2:Hid (R=none):=by show _=_;rw[hact.out];rfl
     clear hact hx0 hx1 hx2 hx3 k4 k5 k6;unfold chCells zCells chCells zC zV zE nilS at hw1h;unfold chCells;have d9:=hcell.out w1 (KD.refl _ _);subst hae hbe;clear hw1 hbx h hd hc hca;subst hve hde;generalize g.vs.length=nv at *
     generalize g.ds.length=nd at *
     clear d9;go_enter Tryz.func110,Tryz.ntmps110;go_wp2_with fail;rw[<-hw1h.out];refine wp_region_F (fun w':World=>Below w1.heap.size w1 w') 999 (by kernel_rfl) (Below.refl _ _).drew (fun hHeld=>?_);refine tkP 0 rfl ?_;refine tkP 1 rfl ?_ (by(intro w hSw;obtain⟨d0,d2,d9,d10⟩:=hcr.out w hSw;go_simp)<;>with_reducible rfl);refine tkP 2 rfl ?_;refine tkP 3 rfl ?_ (by(intro w hSw;obtain⟨d0,d2,d9,d10⟩:=hcr.out w hSw;go_simp)<;>with_reducible rfl);refine tkP 4 rfl ?_;refine tkP 5 rfl ?_;refine tkP 6 rfl ?_;refine tkP 7 rfl ?_;refine tkP 8 rfl ?_;refine tkP 9 rfl ?_;refine tkP 10 rfl ?_ (by(intro w hSw;obtain⟨d0,d2,d9,d10⟩:=hcr.out w hSw;go_simp)<;>with_reducible rfl);refine tkP 11 rfl ?_;refine tkP 12 rfl ?_ (by(intro w hSw;obtain⟨d0,d2,d9,d10⟩:=hcr.out w hSw;go_simp)<;>with_reducible rfl);refine rdy [13] ?_;refine arC rfl (fun K hK=>?_) ?_
     ·skip
      go_simp;with_reducible refine(k1.out _ hHeld).mono ?_
      rintro e w2 ⟨rfl,b⟩;have h2:Below w1.heap.size w1 w2:=hHeld.trans (b.mono hHeld.size);clear b;go_wp2_with fail;refine hK.out _ _ ?_ (fun hHeld=>?_)
      ·exact h2
      clear hK K;try simp only[Act.put,zT,z0,zS]
      refine tkP 14 rfl ?_;refine tkP 15 rfl ?_;refine tkP 16 rfl ?_;refine tkP 17 rfl ?_;refine tkP 18 rfl ?_;refine tkP 19 rfl ?_;refine tkP 20 rfl ?_;refine tkP 21 rfl ?_ (by(intro w hSw;obtain⟨d0,d2,d9,d10⟩:=hcr.out w hSw;go_simp)<;>with_reducible rfl);refine tkP 22 rfl ?_;refine tkP 23 rfl ?_ (by(intro w hSw;obtain⟨d0,d2,d9,d10⟩:=hcr.out w hSw;go_simp)<;>with_reducible rfl);refine rdy [24] ?_;refine arC rfl (fun K hK=>?_) ?_
      ·skip
       go_simp;with_reducible refine(k2.out _ hHeld).mono ?_
       rintro e w2b ⟨rfl,b⟩;have h2b:Below w1.heap.size w1 w2b:=hHeld.trans (b.mono hHeld.size);clear b;go_wp2_with fail;refine hK.out _ _ ?_ (fun hHeld=>?_)
       ·exact h2b
       clear hK K;try simp only[Act.put,zT,z0,zS]
       refine tkP 25 rfl ?_;refine tkP 26 rfl ?_;refine tkP 27 rfl ?_;refine tkP 28 rfl ?_;refine tkP 29 rfl ?_;refine tkP 30 rfl ?_;refine tkP 31 rfl ?_;refine tkP 32 rfl ?_ (by(intro w hSw;obtain⟨d0,d2,d9,d10⟩:=hcr.out w hSw;go_simp)<;>with_reducible rfl);refine tkP 33 rfl ?_;refine tkP 34 rfl ?_ (by(intro w hSw;obtain⟨d0,d2,d9,d10⟩:=hcr.out w hSw;go_simp)<;>with_reducible rfl);refine rdy [35] ?_;refine arC rfl (fun K hK=>?_) ?_
       ·skip
        go_simp;with_reducible refine(k3.out _ hHeld).mono ?_
        rintro e w3 ⟨rfl,rfl⟩;go_wp2_with fail;refine hK.out _ _ ?_ (fun hHeld=>?_)
        ·exact hHeld
        clear hK K;try simp only[Act.put,zT,z0,zS]
        refine tkP 36 rfl ?_;refine wpAnyF_done (by kernel_rfl) ?_ _;have r2:=hrx.out _ (hKD.out _ hHeld)
        go_wp2_with (refine wpList_store_row rfl 33 (.tmp 4) (.tmp 44) rfl (w.heap.size+1) zCells rfl rfl 33 _ (r2) (info33 _ _ _) rfl z_all ?_)
        refine bodyPost_ret (results_cell_tmp_row (fn:=Tryz.f110) rfl _ _ (w.heap.size+1) 33 zCells (0,0) _ _ rfl rfl (setRow_heap _ _ _ _ _ _ r2) Tryz.underlying33 rfl (info33 _ _ _)) rfl ?_;exact fin_none hB hK1 (hKD.out _ hHeld) _ hact2.out
       exact AllReadyF.nil
      exact AllReadyF.nil
     exact AllReadyF.nil
    ·rw[decide_eq_false hx3]at hact k3;have hact2:Hid (R=some ({g with vs:=delV g.vs c.id,es:=g.es.map (ctE c.id c.n)},{zC with kind:=8,id:=c.n,v:=getV g.vs c.id,ends:=E})):=by show _=_;rw[hact.out];rfl
     generalize getV g.vs c.id=gu at *
     unfold Vx.val at k6;clear hact hx0 hx2 hx3;unfold chCells zCells chCells zC zV zE nilS at hw1h;unfold chCells;have d9:=hcell.out w1 (KD.refl _ _);subst hae hbe;clear hw1 hbx h hd hc hca;subst hve hde;generalize g.vs.length=nv at *
     generalize g.ds.length=nd at *
     clear d9;go_enter Tryz.func110,Tryz.ntmps110;go_wp2_with fail;rw[<-hw1h.out];refine wp_region_F (fun w':World=>Below w1.heap.size w1 w') 999 (by kernel_rfl) (Below.refl _ _).drew (fun hHeld=>?_);refine tkP 0 rfl ?_;refine tkP 1 rfl ?_ (by(intro w hSw;obtain⟨d0,d2,d9,d10⟩:=hcr.out w hSw;go_simp)<;>with_reducible rfl);refine tkP 2 rfl ?_;refine tkP 3 rfl ?_ (by(intro w hSw;obtain⟨d0,d2,d9,d10⟩:=hcr.out w hSw;go_simp)<;>with_reducible rfl);refine tkP 4 rfl ?_;refine tkP 5 rfl ?_;refine tkP 6 rfl ?_;refine tkP 7 rfl ?_;refine tkP 8 rfl ?_;refine tkP 9 rfl ?_;refine tkP 10 rfl ?_ (by(intro w hSw;obtain⟨d0,d2,d9,d10⟩:=hcr.out w hSw;go_simp)<;>with_reducible rfl);refine tkP 11 rfl ?_;refine tkP 12 rfl ?_ (by(intro w hSw;obtain⟨d0,d2,d9,d10⟩:=hcr.out w hSw;go_simp)<;>with_reducible rfl);refine rdy [13] ?_;refine arC rfl (fun K hK=>?_) ?_
     ·skip
      go_simp;with_reducible refine(k1.out _ hHeld).mono ?_
      rintro e w2 ⟨rfl,b⟩;have h2:Below w1.heap.size w1 w2:=hHeld.trans (b.mono hHeld.size);clear b;go_wp2_with fail;refine hK.out _ _ ?_ (fun hHeld=>?_)
      ·exact h2
      clear hK K;try simp only[Act.put,zT,z0,zS]
      refine tkP 14 rfl ?_;refine tkP 15 rfl ?_;refine tkP 16 rfl ?_;refine tkP 17 rfl ?_;refine tkP 18 rfl ?_;refine tkP 19 rfl ?_;refine tkP 20 rfl ?_;refine tkP 21 rfl ?_ (by(intro w hSw;obtain⟨d0,d2,d9,d10⟩:=hcr.out w hSw;go_simp)<;>with_reducible rfl);refine tkP 22 rfl ?_;refine tkP 23 rfl ?_ (by(intro w hSw;obtain⟨d0,d2,d9,d10⟩:=hcr.out w hSw;go_simp)<;>with_reducible rfl);refine rdy [24] ?_;refine arC rfl (fun K hK=>?_) ?_
      ·skip
       go_simp;with_reducible refine(k2.out _ hHeld).mono ?_
       rintro e w2b ⟨rfl,b⟩;have h2b:Below w1.heap.size w1 w2b:=hHeld.trans (b.mono hHeld.size);clear b;go_wp2_with fail;refine hK.out _ _ ?_ (fun hHeld=>?_)
       ·exact h2b
       clear hK K;try simp only[Act.put,zT,z0,zS]
       refine tkP 25 rfl ?_;refine tkP 26 rfl ?_;refine tkP 27 rfl ?_;refine tkP 28 rfl ?_;refine tkP 29 rfl ?_;refine tkP 30 rfl ?_;refine tkP 31 rfl ?_;refine tkP 32 rfl ?_ (by(intro w hSw;obtain⟨d0,d2,d9,d10⟩:=hcr.out w hSw;go_simp)<;>with_reducible rfl);refine tkP 33 rfl ?_;refine tkP 34 rfl ?_ (by(intro w hSw;obtain⟨d0,d2,d9,d10⟩:=hcr.out w hSw;go_simp)<;>with_reducible rfl);refine rdy [35] ?_;refine arC rfl (fun K hK=>?_) ?_
       ·skip
        go_simp;with_reducible refine(k3.out _ hHeld).mono ?_
        rintro e w3 ⟨rfl,rfl⟩;go_wp2_with fail;refine hK.out _ _ ?_ (fun hHeld=>?_)
        ·exact hHeld
        clear hK K;try simp only[Act.put,zT,z0,zS]
        refine tkP 36 rfl ?_;refine wpAnyF_done (by kernel_rfl) ?_ _;obtain⟨d0,d2,d9,d10⟩:=hcr.out _ hHeld;go_wp2_with fail;with_reducible refine(k4.out _ hHeld).mono ?_
        rintro e w4 ⟨r,rfl,hO,b4⟩;have h4:=hHeld.trans (b4.mono hHeld.size);have k5':=Hd (k5.out _ hHeld w4 b4 r hO);obtain⟨ra,rc,rfl⟩:=hO.DL.shape;obtain⟨d0,d2,d9,d10⟩:=hcr.out _ h4;clear b4 hO;go_wp2_with fail;with_reducible refine k5'.out.mono ?_
        rintro e w6 ⟨rfl,q1,q2,q3⟩;have hD6:=q1.out;have hK6:=q2.out;have hO6:=q3.out;clear q1 q2 q3;have hK6d:KD B w1 w6.drew:=⟨hK6.below.drew,hK6.keep⟩;replace hO6:OwnI w6.drew _ _ _:=World.ownsRow.drew hO6;replace hD6:DrV w6.drew B db _ ev _ mv _:=⟨hD6.hB,hD6.box,hD6.v,hD6.e,hD6.d,hD6.m⟩;go_wp2_with fail;refine wp_region_F (fun w':World=>w'.cell? ⟨w.heap.size,9,none⟩=some (.int .i64 c.id)/\w'.cell? ⟨w.heap.size,10,none⟩=some (.int .i64 c.n)) 999 (by kernel_rfl) (hcb.out _ hK6d) (fun hHeld=>?_);refine tkP 0 rfl ?_;refine tkP 1 rfl ?_ (by(intro w hSw;obtain⟨e9,e10⟩:=hSw;go_simp)<;>with_reducible rfl);refine tkP 2 rfl ?_;refine tkP 3 rfl ?_;refine tkP 4 rfl ?_ (by(intro w hSw;obtain⟨e9,e10⟩:=hSw;go_simp)<;>with_reducible rfl);refine tkP 6 rfl ?_;refine rdy [5] ?_;refine arC rfl (fun K hK=>?_) ?_
        ·skip
         go_simp;refine(k6.out _ hD6 hx1).mono ?_;rintro e w7 ⟨rfl,vv',hD7,hK7⟩;have K7:=hK6d.trans hK7;have r7:=hrx.out w7 K7;have O7:=(hO6.kd hK7).row33 r7 (chCells {zC with kind:=8,id:=c.n,v:=gu,ends:=E} (.slice ra E.length rc) (.slice none 0 0));have cb7:=hcb.out w7 K7;have cb8:=Hd (show(w7.setRow (w.heap.size+1) (chCells {zC with kind:=8,id:=c.n,v:=gu,ends:=E} (.slice ra E.length rc) (.slice none 0 0))).cell? ⟨w.heap.size,9,none⟩=some (.int .i64 c.id)/\(w7.setRow (w.heap.size+1) (chCells {zC with kind:=8,id:=c.n,v:=gu,ends:=E} (.slice ra E.length rc) (.slice none 0 0))).cell? ⟨w.heap.size,10,none⟩=some (.int .i64 c.n)from⟨by rw[World.cell?_of_block (setRow_other _ _ _ _ (by show w.heap.size≠w.heap.size+1;omega))];exact cb7.1,by rw[World.cell?_of_block (setRow_other _ _ _ _ (by show w.heap.size≠w.heap.size+1;omega))];exact cb7.2⟩);go_wp2_with fail;refine hK.out _ _ ?_ (fun hHeld=>?_)
         ·exact cb7
         clear hK K;try simp only[Act.put,zT,z0,zS]
         refine tkP 7 rfl ?_;refine rdy [8] ?_;refine arC rfl (fun K hK=>?_) ?_
         ·skip
          refine wp_store_row 33 (.tmp 4) (.tmp 61) rfl (w.heap.size+1) (chCells {zC with kind:=8,id:=c.n,v:=gu,ends:=E} (.slice ra E.length rc) (.slice none 0 0)) rfl rfl 33 _ r7 (info33 _ _ _) rfl (ch_all _ _ _ _ _ _ _) ?_;refine hK.out _ _ ?_ (fun hHeld=>?_)
          ·exact cb8.out
          clear hK K;try simp only[Act.put,zT,z0,zS]
          refine tkP 9 rfl ?_;refine wpAnyF_done (by kernel_rfl) ?_ _;go_wp2_with fail;refine bodyPost_ret (results_cell_tmp_row (fn:=Tryz.f110) rfl _ _ (w.heap.size+1) 33 (chCells {zC with kind:=8,id:=c.n,v:=gu,ends:=E} (.slice ra E.length rc) (.slice none 0 0)) (0,0) _ _ rfl rfl (setRow_heap _ _ _ _ _ _ r7) Tryz.underlying33 rfl (info33 _ _ _)) rfl ?_;exact fin_some hB hK1 K7 hD7 r7 hact2.out O7.base0 (nil_O _)
         exact AllReadyF.nil
        exact AllReadyF.nil
       exact AllReadyF.nil
      exact AllReadyF.nil
     exact AllReadyF.nil
theorem act8_any(B db:Nat)(vv ev dv mv:Value)(g:Gr)(vc:Value)(c:Ch)(w:World)(h:DrV w B db vv ev dv mv g)(hg:Ok g)(hc:∀W,KD B w W->CV W vc c)(_hlen:c.ends.length<=1000000/\c.deps.length<=1000000):
  Calls Tryz.prog 111 #[.pointer (some ⟨db,0,none⟩),vc] w (ActPost B db w (act8 g c)):=by
 obtain⟨a,b,rfl,_,_⟩:=hc w (KD.refl _ _);have hca:Hid (∀W,KD B w W->DL W a c.ends/\DL W b c.deps):=fun W K=>by
  obtain⟨a',b',e,h1,h2⟩:=hc W K;injection e with e
  have e1:a=a':=by injection e with e;simp at e;exact e.1
  have e2:b=b':=by injection e with e;simp at e;exact e.2
  exact⟨e1▸h1,e2▸h2⟩
 obtain⟨w1,hw1⟩:∃w1,w1=(w.alloc (.cells (chCells c a b) 33)).alloc (.cells zCells 33):=⟨_,rfl⟩;obtain⟨B1,z1,hbx⟩:=act_world B w w1 c a b hw1;have hB:=h.base;have hd:=h.below B1;have hK1:KD B w w1:=KD.of B1 hB;have hDr:=Hd (fun(W:World) (b0:Below w1.heap.size w1 W)=>hd.below b0);have hKD:=Hd (fun(W:World) (b0:Below w1.heap.size w1 W)=>KD.of b0 hd.base);have hcell:=Hd (fun(W:World) (K:KD B w1 W)=>ch_cells (hbx W K).1);have hrx:=Hd (fun(W:World) (K:KD B w1 W)=>(hbx W K).2);have hd4:=Hd (fun(W:World) (b0:Below w1.heap.size w1 W)=>(hd.below b0).cells);have hw1h:=Hd hw1;obtain⟨ah,ac,hae⟩:=(hca.out w (KD.refl _ _)).1.shape;obtain⟨bh,bc,hbe⟩:=(hca.out w (KD.refl _ _)).2.shape;have hvl:=hg.vlen;have hel:=hg.elen;have k1:=Hd (fun W (b0:Below w1.heap.size w1 W)=>has_any vv g.vs c.id W (hDr.out W b0).v.VL (by omega) hg.vasc);have k2:=Hd (fun W (b0:Below w1.heap.size w1 W)=>canAdd_any db vv g.vs c.v W (hDr.out W b0).cells.1 (hDr.out W b0).v.VL (by omega) hg.vasc);have hids:=hg.ids;have k3:=Hd (fun W (b0:Below w1.heap.size w1 W)=>endsAt_any db ev g.es c.id W (hDr.out W b0).cells.2.1 (hDr.out W b0).e.EL (by omega) hids);have hen:(endsF g.es c.id).length<=80:=by have:=endsF_len g.es c.id;omega
 have hasE:=asc_endsF g.es c.id hg.easc;have k4:=Hd (fun(W:World) (b0:Below w1.heap.size w1 W) (W':World) (b1:Below W.heap.size W W') (r:Value) (hO:OwnI W' W.heap.size r (endsF g.es c.id)) =>
  contains_any r a (endsF g.es c.id) c.ends W' hO.DL (hca.out W' (hK1.trans (hKD.out W' (b0.trans (b1.mono b0.size))))).1 hasE (by omega) (by omega))
 have hcf:=contF_eq c.ends (endsF g.es c.id) hasE;have k5:=Hd (fun W (b0:Below w1.heap.size w1 W)=>insert_any B db vv ev dv mv g c.v W (hDr.out W b0) (by omega) hg.vasc);have hin:Hid (contF (endsF g.es c.id) c.ends=true-> ∀n∈c.ends,0<=n/\n<=1000000/\n / 2∈keysE g.es):=fun e n hn=>by
  rw[hcf]at e;simp only[Bool.and_eq_true,List.all_eq_true,decide_eq_true_eq]at e;exact endsF_in hg c.id n (e.2 n hn)
 have k6:=Hd (fun(W:World) (K:KD B w1 W) (vv':Value) (hD:DrV W B db vv' ev dv mv {g with vs:=insV g.vs c.v}) (hi:contF (endsF g.es c.id) c.ends=true) =>
  move_any B db vv' ev dv mv {g with vs:=insV g.vs c.v} a c.ends c.v.id W hD (fun W2 K2=>(hca.out W2 ((hK1.trans K).trans K2)).1) (by show g.es.length<=1000;omega) hg.easc (by omega) (hin.out hi))
 have hact:Hid (act8 g c=if(decide (c.id∈keysV g.vs)&&(c.v.ok&&!decide (c.v.id∈keysV g.vs))&&(ascI c.ends&&c.ends.all fun n=>decide (n∈endsF g.es c.id)))=true then
  some ({g with vs:=insV g.vs c.v,es:=g.es.map (mvE c.ends c.v.id)},{zC with kind:=7,id:=c.v.id,n:=c.id})else none):=rfl
 rw[<-hcf]at hact;have hcr:=Hd (fun(W:World) (b0:Below w1.heap.size w1 W)=>show W.cell? ⟨db,0,none⟩=some vv/\W.cell? ⟨w.heap.size,9,none⟩=some (.int .i64 c.id)/\W.cell? ⟨w.heap.size,1,none⟩=some (.int .i64 c.v.id)/\W.cell? ⟨w.heap.size,2,none⟩=some (.int .i64 c.v.side)/\W.cell? ⟨w.heap.size,11,none⟩=some a from by
  obtain⟨_,x1,x2,_,_,_,_,_,_,x9,_,x11,_⟩:=hcell.out W (hKD.out W b0);exact⟨(hd4.out W b0).1,x9,x1,x2,x11⟩)
 have hcb:=Hd (fun(W:World) (K:KD B w1 W)=>show W.cell? ⟨w.heap.size,9,none⟩=some (.int .i64 c.id)/\W.cell? ⟨w.heap.size,1,none⟩=some (.int .i64 c.v.id)/\W.cell? ⟨w.heap.size,11,none⟩=some a from by
  obtain⟨_,x1,x2,_,_,_,_,_,_,x9,_,x11,_⟩:=hcell.out W K;exact⟨x9,x1,x11⟩)
 generalize act8 g c=R at *
 generalize hcv:contF (endsF g.es c.id) c.ends=x3 at *
 generalize endsF g.es c.id=E at *
 obtain⟨vh,vc,hve⟩:=hd.v.VL.shape;generalize (c.v.ok&&!decide (c.v.id∈keysV g.vs))=x2 at *
 generalize decide (c.id∈keysV g.vs)=x1 at *
 unfold Vx.val at k2 k5;clear hcf hcv hin;cases x1 with
 | false =>
  clear k2 k3 k4 k5 k6;unfold chCells zCells chCells zC zV zE nilS at hw1h;unfold chCells;have d9:=hcell.out w1 (KD.refl _ _);subst hae hbe;clear hw1 hbx h hd hc hca;subst hve;generalize g.vs.length=nv at *
  clear d9;go_enter Tryz.func111,Tryz.ntmps111;go_wp2_with fail;rw[<-hw1h.out];refine wp_region_F (fun w':World=>Below w1.heap.size w1 w') 999 (by kernel_rfl) (Below.refl _ _).drew (fun hHeld=>?_);refine tkP 0 rfl ?_;refine tkP 1 rfl ?_;refine tkP 2 rfl ?_;refine tkP 3 rfl ?_;refine tkP 4 rfl ?_ (by(intro w hSw;obtain⟨d0,d9,d1,d2,d11⟩:=hcr.out w hSw;go_simp)<;>with_reducible rfl);refine tkP 5 rfl ?_;refine tkP 6 rfl ?_ (by(intro w hSw;obtain⟨d0,d9,d1,d2,d11⟩:=hcr.out w hSw;go_simp)<;>with_reducible rfl);refine rdy [7] ?_;refine arC rfl (fun K hK=>?_) ?_
  ·skip
   go_simp;with_reducible refine(k1.out _ hHeld).mono ?_
   rintro e w2 ⟨rfl,b⟩;have h2:Below w1.heap.size w1 w2:=hHeld.trans (b.mono hHeld.size);clear b;go_wp2_with fail;refine hK.out _ _ ?_ (fun hHeld=>?_)
   ·exact h2
   clear hK K;try simp only[Act.put,zT,z0,zS]
   refine tkP 8 rfl ?_;refine tkP 9 rfl ?_;refine tkU 10 rfl ?_;refine tkU 11 rfl ?_;refine tkU 12 rfl ?_;refine tkU 13 rfl ?_;refine tkU 14 rfl ?_;refine tkP 15 rfl ?_;refine tkP 16 rfl ?_;refine tkU 17 rfl ?_;refine tkU 18 rfl ?_;refine tkU 19 rfl ?_;refine tkU 21 rfl ?_;refine tkU 22 rfl ?_;refine tkU 20 rfl ?_;refine tkU 23 rfl ?_;refine tkU 24 rfl ?_;refine tkP 25 rfl ?_;refine wpAnyF_done (by kernel_rfl) ?_ _;have r2:=hrx.out _ (hKD.out _ hHeld)
   go_wp2_with (refine wpList_store_row rfl 33 (.tmp 4) (.tmp 32) rfl (w.heap.size+1) zCells rfl rfl 33 _ (r2) (info33 _ _ _) rfl z_all ?_)
   refine bodyPost_ret (results_cell_tmp_row (fn:=Tryz.f111) rfl _ _ (w.heap.size+1) 33 zCells (0,0) _ _ rfl rfl (setRow_heap _ _ _ _ _ _ r2) Tryz.underlying33 rfl (info33 _ _ _)) rfl ?_;exact fin_none hB hK1 (hKD.out _ hHeld) _ (hact.out.trans (by simp))
  exact AllReadyF.nil
 | true =>
  cases x2 with
  | false =>
   clear k3 k4 k5 k6;unfold chCells zCells chCells zC zV zE nilS at hw1h;unfold chCells;have d9:=hcell.out w1 (KD.refl _ _);subst hae hbe;clear hw1 hbx h hd hc hca;subst hve;generalize g.vs.length=nv at *
   clear d9;go_enter Tryz.func111,Tryz.ntmps111;go_wp2_with fail;rw[<-hw1h.out];refine wp_region_F (fun w':World=>Below w1.heap.size w1 w') 999 (by kernel_rfl) (Below.refl _ _).drew (fun hHeld=>?_);refine tkP 0 rfl ?_;refine tkP 1 rfl ?_;refine tkP 2 rfl ?_;refine tkP 3 rfl ?_;refine tkP 4 rfl ?_ (by(intro w hSw;obtain⟨d0,d9,d1,d2,d11⟩:=hcr.out w hSw;go_simp)<;>with_reducible rfl);refine tkP 5 rfl ?_;refine tkP 6 rfl ?_ (by(intro w hSw;obtain⟨d0,d9,d1,d2,d11⟩:=hcr.out w hSw;go_simp)<;>with_reducible rfl);refine rdy [7] ?_;refine arC rfl (fun K hK=>?_) ?_
   ·skip
    go_simp;with_reducible refine(k1.out _ hHeld).mono ?_
    rintro e w2 ⟨rfl,b⟩;have h2:Below w1.heap.size w1 w2:=hHeld.trans (b.mono hHeld.size);clear b;go_wp2_with fail;refine hK.out _ _ ?_ (fun hHeld=>?_)
    ·exact h2
    clear hK K;try simp only[Act.put,zT,z0,zS]
    refine tkP 8 rfl ?_;refine tkP 9 rfl ?_;refine tkP 10 rfl ?_;refine tkP 11 rfl ?_;refine tkP 12 rfl ?_ (by(intro w hSw;obtain⟨d0,d9,d1,d2,d11⟩:=hcr.out w hSw;go_simp)<;>with_reducible rfl);refine rdy [13] ?_;refine arC rfl (fun K hK=>?_) ?_
    ·skip
     go_simp;with_reducible refine(k2.out _ hHeld).mono ?_
     rintro e w3 ⟨rfl,b⟩;have h3:Below w1.heap.size w1 w3:=hHeld.trans (b.mono hHeld.size);clear b;go_wp2_with fail;refine hK.out _ _ ?_ (fun hHeld=>?_)
     ·exact h3
     clear hK K;try simp only[Act.put,zT,z0,zS]
     refine tkP 14 rfl ?_;refine tkP 15 rfl ?_;refine tkP 16 rfl ?_;refine tkU 17 rfl ?_;refine tkU 18 rfl ?_;refine tkU 19 rfl ?_;refine tkU 21 rfl ?_;refine tkU 22 rfl ?_;refine tkU 20 rfl ?_;refine tkU 23 rfl ?_;refine tkU 24 rfl ?_;refine tkP 25 rfl ?_;refine wpAnyF_done (by kernel_rfl) ?_ _;have r2:=hrx.out _ (hKD.out _ hHeld)
     go_wp2_with (refine wpList_store_row rfl 33 (.tmp 4) (.tmp 32) rfl (w.heap.size+1) zCells rfl rfl 33 _ (r2) (info33 _ _ _) rfl z_all ?_)
     refine bodyPost_ret (results_cell_tmp_row (fn:=Tryz.f111) rfl _ _ (w.heap.size+1) 33 zCells (0,0) _ _ rfl rfl (setRow_heap _ _ _ _ _ _ r2) Tryz.underlying33 rfl (info33 _ _ _)) rfl ?_;exact fin_none hB hK1 (hKD.out _ hHeld) _ (hact.out.trans (by simp))
    exact AllReadyF.nil
   exact AllReadyF.nil
  | true =>
   cases x3 with
   | false =>
    clear k5 k6;unfold chCells zCells chCells zC zV zE nilS at hw1h;unfold chCells;have d9:=hcell.out w1 (KD.refl _ _);subst hae hbe;clear hw1 hbx h hd hc hca;subst hve;generalize g.vs.length=nv at *
    clear d9;go_enter Tryz.func111,Tryz.ntmps111;go_wp2_with fail;rw[<-hw1h.out];refine wp_region_F (fun w':World=>Below w1.heap.size w1 w') 999 (by kernel_rfl) (Below.refl _ _).drew (fun hHeld=>?_);refine tkP 0 rfl ?_;refine tkP 1 rfl ?_;refine tkP 2 rfl ?_;refine tkP 3 rfl ?_;refine tkP 4 rfl ?_ (by(intro w hSw;obtain⟨d0,d9,d1,d2,d11⟩:=hcr.out w hSw;go_simp)<;>with_reducible rfl);refine tkP 5 rfl ?_;refine tkP 6 rfl ?_ (by(intro w hSw;obtain⟨d0,d9,d1,d2,d11⟩:=hcr.out w hSw;go_simp)<;>with_reducible rfl);refine rdy [7] ?_;refine arC rfl (fun K hK=>?_) ?_
    ·skip
     go_simp;with_reducible refine(k1.out _ hHeld).mono ?_
     rintro e w2 ⟨rfl,b⟩;have h2:Below w1.heap.size w1 w2:=hHeld.trans (b.mono hHeld.size);clear b;go_wp2_with fail;refine hK.out _ _ ?_ (fun hHeld=>?_)
     ·exact h2
     clear hK K;try simp only[Act.put,zT,z0,zS]
     refine tkP 8 rfl ?_;refine tkP 9 rfl ?_;refine tkP 10 rfl ?_;refine tkP 11 rfl ?_;refine tkP 12 rfl ?_ (by(intro w hSw;obtain⟨d0,d9,d1,d2,d11⟩:=hcr.out w hSw;go_simp)<;>with_reducible rfl);refine rdy [13] ?_;refine arC rfl (fun K hK=>?_) ?_
     ·skip
      go_simp;with_reducible refine(k2.out _ hHeld).mono ?_
      rintro e w3 ⟨rfl,b⟩;have h3:Below w1.heap.size w1 w3:=hHeld.trans (b.mono hHeld.size);clear b;go_wp2_with fail;refine hK.out _ _ ?_ (fun hHeld=>?_)
      ·exact h3
      clear hK K;try simp only[Act.put,zT,z0,zS]
      refine tkP 14 rfl ?_;refine tkP 15 rfl ?_;refine tkP 16 rfl ?_;refine tkP 17 rfl ?_;refine tkP 18 rfl ?_;refine tkP 19 rfl ?_ (by(intro w hSw;obtain⟨d0,d9,d1,d2,d11⟩:=hcr.out w hSw;go_simp)<;>with_reducible rfl);refine tkP 21 rfl ?_;refine tkP 22 rfl ?_ (by(intro w hSw;obtain⟨d0,d9,d1,d2,d11⟩:=hcr.out w hSw;go_simp)<;>with_reducible rfl);refine rdy [20] ?_;refine arC rfl (fun K hK=>?_) ?_
      ·skip
       go_simp;with_reducible refine(k3.out _ hHeld).mono ?_
       rintro e w4 ⟨r,rfl,hO,b4⟩;have h4:=hHeld.trans (b4.mono hHeld.size);have k4':=Hd (k4.out _ hHeld w4 b4 r hO);have B4:=Hd (b4.mono hHeld.size);obtain⟨ra,rc,rfl⟩:=hO.DL.shape;clear b4 hO;go_wp2_with fail;refine hK.out _ _ ?_ (fun hHeld=>?_)
       ·exact h4
       clear hK K;try simp only[Act.put,zT,z0,zS]
       refine rdy [23] ?_;refine arC rfl (fun K hK=>?_) ?_
       ·skip
        go_simp;with_reducible refine k4'.out.mono ?_
        rintro e w5 ⟨rfl,b⟩;have h5:Below w1.heap.size w1 w5:=hHeld.trans (b.mono hHeld.size);clear b;go_wp2_with fail;refine hK.out _ _ ?_ (fun hHeld=>?_)
        ·exact h5
        clear hK K;try simp only[Act.put,zT,z0,zS]
        refine tkP 24 rfl ?_;refine tkP 25 rfl ?_;refine wpAnyF_done (by kernel_rfl) ?_ _;have r2:=hrx.out _ (hKD.out _ hHeld)
        go_wp2_with (refine wpList_store_row rfl 33 (.tmp 4) (.tmp 32) rfl (w.heap.size+1) zCells rfl rfl 33 _ (r2) (info33 _ _ _) rfl z_all ?_)
        refine bodyPost_ret (results_cell_tmp_row (fn:=Tryz.f111) rfl _ _ (w.heap.size+1) 33 zCells (0,0) _ _ rfl rfl (setRow_heap _ _ _ _ _ _ r2) Tryz.underlying33 rfl (info33 _ _ _)) rfl ?_;exact fin_none hB hK1 (hKD.out _ hHeld) _ (hact.out.trans (by simp))
       exact AllReadyF.nil
      exact AllReadyF.nil
     exact AllReadyF.nil
    exact AllReadyF.nil
   | true =>
    unfold chCells zCells chCells zC zV zE nilS at hw1h;unfold chCells;have d9:=hcell.out w1 (KD.refl _ _);subst hae hbe;clear hw1 hbx h hd hc hca;subst hve;generalize g.vs.length=nv at *
    clear d9;go_enter Tryz.func111,Tryz.ntmps111;go_wp2_with fail;rw[<-hw1h.out];refine wp_region_F (fun w':World=>Below w1.heap.size w1 w') 999 (by kernel_rfl) (Below.refl _ _).drew (fun hHeld=>?_);refine tkP 0 rfl ?_;refine tkP 1 rfl ?_;refine tkP 2 rfl ?_;refine tkP 3 rfl ?_;refine tkP 4 rfl ?_ (by(intro w hSw;obtain⟨d0,d9,d1,d2,d11⟩:=hcr.out w hSw;go_simp)<;>with_reducible rfl);refine tkP 5 rfl ?_;refine tkP 6 rfl ?_ (by(intro w hSw;obtain⟨d0,d9,d1,d2,d11⟩:=hcr.out w hSw;go_simp)<;>with_reducible rfl);refine rdy [7] ?_;refine arC rfl (fun K hK=>?_) ?_
    ·skip
     go_simp;with_reducible refine(k1.out _ hHeld).mono ?_
     rintro e w2 ⟨rfl,b⟩;have h2:Below w1.heap.size w1 w2:=hHeld.trans (b.mono hHeld.size);clear b;go_wp2_with fail;refine hK.out _ _ ?_ (fun hHeld=>?_)
     ·exact h2
     clear hK K;try simp only[Act.put,zT,z0,zS]
     refine tkP 8 rfl ?_;refine tkP 9 rfl ?_;refine tkP 10 rfl ?_;refine tkP 11 rfl ?_;refine tkP 12 rfl ?_ (by(intro w hSw;obtain⟨d0,d9,d1,d2,d11⟩:=hcr.out w hSw;go_simp)<;>with_reducible rfl);refine rdy [13] ?_;refine arC rfl (fun K hK=>?_) ?_
     ·skip
      go_simp;with_reducible refine(k2.out _ hHeld).mono ?_
      rintro e w3 ⟨rfl,b⟩;have h3:Below w1.heap.size w1 w3:=hHeld.trans (b.mono hHeld.size);clear b;go_wp2_with fail;refine hK.out _ _ ?_ (fun hHeld=>?_)
      ·exact h3
      clear hK K;try simp only[Act.put,zT,z0,zS]
      refine tkP 14 rfl ?_;refine tkP 15 rfl ?_;refine tkP 16 rfl ?_;refine tkP 17 rfl ?_;refine tkP 18 rfl ?_;refine tkP 19 rfl ?_ (by(intro w hSw;obtain⟨d0,d9,d1,d2,d11⟩:=hcr.out w hSw;go_simp)<;>with_reducible rfl);refine tkP 21 rfl ?_;refine tkP 22 rfl ?_ (by(intro w hSw;obtain⟨d0,d9,d1,d2,d11⟩:=hcr.out w hSw;go_simp)<;>with_reducible rfl);refine rdy [20] ?_;refine arC rfl (fun K hK=>?_) ?_
      ·skip
       go_simp;with_reducible refine(k3.out _ hHeld).mono ?_
       rintro e w4 ⟨r,rfl,hO,b4⟩;have h4:=hHeld.trans (b4.mono hHeld.size);have k4':=Hd (k4.out _ hHeld w4 b4 r hO);have B4:=Hd (b4.mono hHeld.size);obtain⟨ra,rc,rfl⟩:=hO.DL.shape;clear b4 hO;go_wp2_with fail;refine hK.out _ _ ?_ (fun hHeld=>?_)
       ·exact h4
       clear hK K;try simp only[Act.put,zT,z0,zS]
       refine rdy [23] ?_;refine arC rfl (fun K hK=>?_) ?_
       ·skip
        go_simp;with_reducible refine k4'.out.mono ?_
        rintro e w5 ⟨rfl,b⟩;have h5:Below w1.heap.size w1 w5:=hHeld.trans (b.mono hHeld.size);clear b;go_wp2_with fail;refine hK.out _ _ ?_ (fun hHeld=>?_)
        ·exact h5
        clear hK K;try simp only[Act.put,zT,z0,zS]
        refine tkP 24 rfl ?_;refine tkP 25 rfl ?_;refine wpAnyF_done (by kernel_rfl) ?_ _;obtain⟨d0,d9,d1,d2,d11⟩:=hcr.out _ hHeld;go_wp2_with fail;with_reducible refine(k5.out _ hHeld).mono ?_
        rintro e w6 ⟨rfl,vv',hD6,hK6⟩;have K6:=(hKD.out _ hHeld).trans hK6;obtain⟨e9,e1,e11⟩:=hcb.out w6 K6;go_wp2_with fail;with_reducible refine(k6.out w6 K6 vv' hD6 (by first|rfl|trivial)).mono ?_
        rintro e w7 ⟨rfl,hD7,hK7⟩;have K7:=K6.trans hK7;obtain⟨f9,f1,f11⟩:=hcb.out w7 K7;have r7:=hrx.out w7 K7
        go_wp2_with (refine wpList_store_row rfl 33 (.tmp 4) (.tmp 49) rfl (w.heap.size+1) (chCells {zC with kind:=7,id:=c.v.id,n:=c.id} (.slice none 0 0) (.slice none 0 0)) rfl rfl 33 _ (r7) (info33 _ _ _) rfl (ch_all _ _ _ _ _ _ _) ?_)
        refine bodyPost_ret (results_cell_tmp_row (fn:=Tryz.f111) rfl _ _ (w.heap.size+1) 33 (chCells {zC with kind:=7,id:=c.v.id,n:=c.id} (.slice none 0 0) (.slice none 0 0)) (0,0) _ _ rfl rfl (setRow_heap _ _ _ _ _ _ r7) Tryz.underlying33 rfl (info33 _ _ _)) rfl ?_;exact fin_some hB hK1 K7 hD7 r7 (hact.out.trans (if_pos (by simp))) (nil_O _) (nil_O _)
       exact AllReadyF.nil
      exact AllReadyF.nil
     exact AllReadyF.nil
    exact AllReadyF.nil
end Go.Proofs.YtlaldnlgapeckaaGreat
