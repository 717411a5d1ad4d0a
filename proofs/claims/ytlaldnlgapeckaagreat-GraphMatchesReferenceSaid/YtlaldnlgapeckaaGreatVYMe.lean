/- Facts. -/
import Derived.Test.YtlaldnlgapeckaaGreatVYK
set_option linter.unusedSimpArgs false
set_option maxRecDepth 100000
set_option maxHeartbeats 4000000
namespace Go.Proofs.YtlaldnlgapeckaaGreat
open Go.RowKit
theorem box2_world(w w1:World)(a b:Value)(t:TypeId)(hw1:w1=w.alloc (.cells #[a,b] t)):
  Below w.heap.size w w1/\w1.heap.size=w.heap.size+1/\ ∀W,Below w1.heap.size w1 W->W.cell? ⟨w.heap.size,0,none⟩=some a/\W.cell? ⟨w.heap.size,1,none⟩=some b:=by
 subst hw1;refine⟨(Below.refl _ w).alloc (Nat.le_refl _) _,by simp,fun W B=>⟨?_,?_⟩⟩
 ·rw[B.cell (p:=⟨w.heap.size,0,none⟩) (by simp)];exact World.cell?_alloc_at _ _ _ _ rfl
 ·rw[B.cell (p:=⟨w.heap.size,1,none⟩) (by simp)];exact World.cell?_alloc_at _ _ _ _ rfl
theorem old_cell{w w1:World}{b i:Nat}{v:Value}(hc:w.cell? ⟨b,i,none⟩=some v)(B1:Below w.heap.size w w1)(W:World)(B:Below w1.heap.size w1 W):W.cell? ⟨b,i,none⟩=some v:=by
 have hb:=block_lt_of_cell hc;rw[B.cell (p:=⟨b,i,none⟩) (Nat.lt_of_lt_of_le hb B1.size),B1.cell (p:=⟨b,i,none⟩) hb];exact hc
theorem canAdd_any(db:Nat)(vv:Value)(l:List Vx)(v:Vx)(w:World)(hd:w.cell? ⟨db,0,none⟩=some vv)(hv:VL w vv l)(hn:l.length<=1000000000000)(hs:Asc (keysV l)):
  Calls Tryz.prog 123 #[.pointer (some ⟨db,0,none⟩),v.val] w fun e w'=>e= .returned (.bool (v.ok&&!decide (v.id∈keysV l)))/\Below w.heap.size w w':=by
 obtain⟨w1,hw1⟩:∃w1,w1=w.alloc (.cells #[.int .i64 v.id,.int .i64 v.side] 29):=⟨_,rfl⟩;obtain⟨B1,z1,hbox⟩:=box2_world w w1 _ _ 29 hw1;have hcell:=Hd (show ∀W,Below w1.heap.size w1 W->W.cell? ⟨db,0,none⟩=some vv/\W.cell? ⟨w.heap.size,0,none⟩=some (.int .i64 v.id)/\W.cell? ⟨w.heap.size,1,none⟩=some (.int .i64 v.side)from fun W B=>⟨old_cell hd B1 W B,hbox W B⟩);have k1:=Hd (fun W (_:Below w1.heap.size w1 W)=>validVertex_any v W);have k2:=Hd (fun W (B:Below w1.heap.size w1 W)=>has_any vv l v.id W ((hv.below B1).below B) hn hs);have hB:=Hd (fun W (B:Below w1.heap.size w1 W)=>B1.trans (B.mono B1.size));have hw1h:=Hd hw1;obtain⟨a,c,rfl⟩:=hv.shape;unfold Vx.val at k1 ⊢;generalize v.ok=x1 at *
 generalize decide (v.id∈keysV l)=x2 at *
 generalize l.length=n at *
 clear hv hs hd hbox hw1 B1;cases x1 with
 | false =>
  go_enter Tryz.func123,Tryz.ntmps123;go_wp2_with fail;rw[<-hw1h.out];refine wp_region_F (fun w':World=>Below w1.heap.size w1 w') 999 (by kernel_rfl) (Below.refl _ _).drew (fun hHeld=>?_);refine tkP 0 rfl ?_ (by(intro w hSw;obtain⟨d0,d1,d2⟩:=hcell.out w hSw;go_simp)<;>with_reducible rfl);refine rdy [1] ?_;refine arC rfl (fun K hK=>?_) ?_
  ·skip
   go_simp;refine(k1.out _ hHeld).mono ?_;rintro e w2 ⟨rfl,b⟩;have h2:Below w1.heap.size w1 w2:=hHeld.trans (b.mono hHeld.size);clear b;go_wp2_with fail;refine hK.out _ _ ?_ (fun hHeld=>?_)
   ·exact h2
   clear hK K;try simp only[Act.put,zT,z0,zS]
   refine tkP 2 rfl ?_;refine tkU 3 rfl ?_;refine tkU 4 rfl ?_;refine tkU 5 rfl ?_;refine tkU 6 rfl ?_;refine tkU 7 rfl ?_;refine tkU 8 rfl ?_;refine tkU 9 rfl ?_;refine tkU 10 rfl ?_;refine tkU 11 rfl ?_;refine tkP 12 rfl ?_;refine tkP 13 rfl ?_;refine wpAnyF_done (by kernel_rfl) ?_ _;go_wp2_with fail;go_ret;exact⟨rfl,hB.out _ hHeld⟩
  exact AllReadyF.nil
 | true =>
  go_enter Tryz.func123,Tryz.ntmps123;go_wp2_with fail;rw[<-hw1h.out];refine wp_region_F (fun w':World=>Below w1.heap.size w1 w') 999 (by kernel_rfl) (Below.refl _ _).drew (fun hHeld=>?_);refine tkP 0 rfl ?_ (by(intro w hSw;obtain⟨d0,d1,d2⟩:=hcell.out w hSw;go_simp)<;>with_reducible rfl);refine rdy [1] ?_;refine arC rfl (fun K hK=>?_) ?_
  ·skip
   go_simp;refine(k1.out _ hHeld).mono ?_;rintro e w2 ⟨rfl,b⟩;have h2:Below w1.heap.size w1 w2:=hHeld.trans (b.mono hHeld.size);clear b;go_wp2_with fail;refine hK.out _ _ ?_ (fun hHeld=>?_)
   ·exact h2
   clear hK K;try simp only[Act.put,zT,z0,zS]
   refine tkP 2 rfl ?_;refine tkP 3 rfl ?_;refine tkP 4 rfl ?_;refine tkP 5 rfl ?_;refine tkP 6 rfl ?_;refine tkP 7 rfl ?_ (by(intro w hSw;obtain⟨d0,d1,d2⟩:=hcell.out w hSw;go_simp)<;>with_reducible rfl);refine tkP 8 rfl ?_;refine tkP 9 rfl ?_ (by(intro w hSw;obtain⟨d0,d1,d2⟩:=hcell.out w hSw;go_simp)<;>with_reducible rfl);refine rdy [10] ?_;refine arC rfl (fun K hK=>?_) ?_
   ·skip
    go_simp;refine(k2.out _ hHeld).mono ?_;rintro e w3 ⟨rfl,b⟩;have h3:Below w1.heap.size w1 w3:=hHeld.trans (b.mono hHeld.size);clear b;go_wp2_with fail;refine hK.out _ _ ?_ (fun hHeld=>?_)
    ·exact h3
    clear hK K;try simp only[Act.put,zT,z0,zS]
    refine tkP 11 rfl ?_;refine tkP 12 rfl ?_;refine tkP 13 rfl ?_;refine wpAnyF_done (by kernel_rfl) ?_ _;go_wp2_with fail;go_ret;exact⟨rfl,hB.out _ hHeld⟩
   exact AllReadyF.nil
  exact AllReadyF.nil
theorem size29:(Tryz.prog.info? 29).map (·.size)=some 2:=by kernel_rfl
theorem lit_world(w w1:World)(cs:Array Value)(t:TypeId)(hw1:w1=w.alloc (.cells cs t)):w1.heap[w.heap.size]?=some (.cells cs t (0,0))/\Below w.heap.size w w1/\w1.heap.size=w.heap.size+1:=by
 subst hw1;exact⟨heap_alloc_new w _,(Below.refl _ w).alloc (Nat.le_refl _) _,by simp⟩
theorem insert_any(B db:Nat)(vv ev dv mv:Value)(g:Gr)(v:Vx)(w:World)(h:DrV w B db vv ev dv mv g)(hn:g.vs.length<=1000)(hs:Asc (keysV g.vs)):
  Calls Tryz.prog 124 #[.pointer (some ⟨db,0,none⟩),v.val] w fun e w'=>e= .returned (.tuple #[])/\ ∃vv',DrV w' B db vv' ev dv mv {g with vs:=insV g.vs v}/\KD B w w':=by
 obtain⟨w1,hw1⟩:∃w1,w1=w.alloc (.cells #[.int .i64 v.id,.int .i64 v.side] 29):=⟨_,rfl⟩;obtain⟨B1,z1,hbox⟩:=box2_world w w1 _ _ 29 hw1;have hd:=h.cells.1;have hcell:=Hd (show ∀W,Below w1.heap.size w1 W->W.cell? ⟨db,0,none⟩=some vv/\W.cell? ⟨w.heap.size,0,none⟩=some (.int .i64 v.id)/\W.cell? ⟨w.heap.size,1,none⟩=some (.int .i64 v.side)from fun W B=>⟨old_cell hd B1 W B,hbox W B⟩);have k1:=Hd (fun W (B:Below w1.heap.size w1 W)=>place_any vv g.vs v.id W ((h.v.VL.below B1).below B) (by omega) hs);have hle:posK (keysV g.vs) v.id<=g.vs.length:=by unfold posK;have:=List.takeWhile_sublist (fun k=>decide (k<v.id)) (l:=keysV g.vs);have:=this.length_le;simpa[keysV]using this
 have hins:=Hd (insV_eq g.vs v hs);obtain⟨p,hp⟩:∃p,p=posK (keysV g.vs) v.id:=⟨_,rfl⟩;rw[<-hp]at k1 hle hins;have hrow:Hid (∀gb,vv.ownBlock=some gb->gb<w.heap.size):=fun gb e=>by obtain⟨_,cur,hc⟩:=own_row h.v gb e;exact(Array.getElem?_eq_some_iff.1 hc).1
 have hlt:=h.lt;have hne:Hid (vv.ownBlock≠some db):=fun e=>by obtain⟨_,cur,hc⟩:=own_row h.v db e;rw[h.box]at hc;simp at hc
 have k2:=Hd (fun(W:World) (B0:Below w1.heap.size w1 W)=>show Calls Tryz.prog 139 #[vv,.int .i64 p,.slice (some ⟨W.heap.size,0,none⟩) 1 1] (W.alloc (.cells #[.int .i64 v.id,.int .i64 v.side] 29)) fun e w'=>∃a' n' c',e= .returned (.slice a' n' c') /\
   Hid (w'.cell? ⟨db,0,none⟩=some vv/\w'.cell? ⟨w.heap.size,0,none⟩=some (.int .i64 v.id)/\w'.cell? ⟨w.heap.size,1,none⟩=some (.int .i64 v.side))/\Hid (w'.frozen? ⟨db,0,none⟩=false) /\
   Hid (DrV (w'.setCell ⟨db,0,none⟩ (.slice a' n' c')) B db (.slice a' n' c') ev dv mv {g with vs:=insV g.vs v}/\KD B w (w'.setCell ⟨db,0,none⟩ (.slice a' n' c')))from by
  obtain⟨w2,hw2⟩:∃w2,w2=W.alloc (.cells #[.int .i64 v.id,.int .i64 v.side] 29):=⟨_,rfl⟩;obtain⟨l1,l2,l3⟩:=lit_world W w2 _ _ hw2;have h2:=(h.below (B1.trans (B0.mono B1.size))).below l2;have B2:Below w.heap.size w w2:=B1.trans ((B0.trans (l2.mono B0.size)).mono B1.size);have hsz:=B0.size;rw[<-hw2];refine(InsertV_any B vv g.vs p v W.heap.size w2 h2.v hle (by omega) h2.base l1 (fun e=>by have:=hrow.out _ e;omega)).mono ?_;rintro e w' ⟨v',rfl,ho,hg⟩;obtain⟨a',c',rfl⟩:=ho.VL.shape;have hc:=hcell.out w2 (B0.trans (l2.mono B0.size));have far:∀(q:Addr) (u:Value),w2.cell? q=some u->vv.ownBlock≠some q.block->w'.cell? q=some u:=fun q u e hne'=>hg.cell e (fun e2=>hne' e2.symm);refine⟨_,_,_,rfl,⟨far _ _ hc.1 hne.out,far _ _ hc.2.1 (fun e=>by have:=hrow.out _ e;simp at this),far _ _ hc.2.2 (fun e=>by have:=hrow.out _ e;simp at this)⟩,?_,?_⟩
  ·show _=_;rw[World.frozen?_of_block (hg.block db h2.lt (fun e=>hne.out e.symm))];exact h2.free 0
  ·rw[hins.out];obtain⟨q1,q2⟩:=h2.setV hg ho;exact⟨q1,(KD.of B2 h.base).trans q2⟩)
 have hw1h:=Hd hw1;obtain⟨a,c,hve⟩:=h.v.VL.shape;unfold Vx.val;have hf:=Hd (fun W (B:Below w1.heap.size w1 W)=>hcell.out W B);clear hbox hw1 hd hp hins hrow hne h hs B1;subst hve;generalize g.vs.length=n at *
 generalize decide (v.id∈keysV g.vs)=x2 at *
 go_enter Tryz.func124,Tryz.ntmps124;go_wp2_with fail;rw[<-hw1h.out];refine wp_region_F (fun w':World=>Below w1.heap.size w1 w') 999 (by kernel_rfl) (Below.refl _ _).drew (fun hHeld=>?_);refine tkP 0 rfl ?_;refine tkP 1 rfl ?_;refine tkP 2 rfl ?_;refine tkP 3 rfl ?_;refine tkP 4 rfl ?_ (by(intro w hSw;obtain⟨d0,d1,d2⟩:=hcell.out w hSw;go_simp)<;>with_reducible rfl);refine tkP 5 rfl ?_;refine tkP 6 rfl ?_ (by(intro w hSw;obtain⟨d0,d1,d2⟩:=hcell.out w hSw;go_simp)<;>with_reducible rfl);refine rdy [7] ?_;refine arC rfl (fun K hK=>?_) ?_
 ·skip
  go_simp;refine(k1.out _ hHeld).mono ?_;rintro e w2 ⟨rfl,b⟩;have hq:Below w1.heap.size w1 w2:=hHeld.trans (b.mono hHeld.size);clear b;go_wp2_with fail;refine hK.out _ _ ?_ (fun hHeld=>?_)
  ·exact hq
  clear hK K;try simp only[Act.put,zT,z0,zS]
  refine tkP 8 rfl ?_;refine tkP 9 rfl ?_;refine tkP 10 rfl ?_;refine tkP 11 rfl ?_;refine tkP 12 rfl ?_;refine wpAnyF_done (by kernel_rfl) ?_ _;go_wp2_with fail;refine wp_region_F (fun w':World=>w'.cell? ⟨db,0,none⟩=some (.slice a n c)/\w'.cell? ⟨w.heap.size,0,none⟩=some (.int .i64 v.id)/\w'.cell? ⟨w.heap.size,1,none⟩=some (.int .i64 v.side)) 13 (by kernel_rfl) (hcell.out _ hq.drew) (fun hHeld=>?_);refine tkP 0 rfl ?_;refine tkP 1 rfl ?_;refine tkP 2 rfl ?_;refine tkP 3 rfl ?_;refine tkP 4 rfl ?_;refine tkP 5 rfl ?_ (by(intro w hSw;obtain⟨d0,d1,d2⟩:=hSw;go_simp)<;>with_reducible rfl);refine tkP 6 rfl ?_;refine tkP 7 rfl ?_ (by(intro w hSw;obtain⟨d0,d1,d2⟩:=hSw;go_simp)<;>with_reducible rfl);refine rdy [8] ?_;refine arC rfl (fun K hK=>?_) ?_
  ·skip
   go_simp;obtain⟨c0,c1,c2⟩:=hHeld;refine hK.out _ _ ?_ (fun hHeld=>?_)
   ·exact(hcell.out _ (hq.drew.alloc hq.size _))
   clear hK K;try simp only[Act.put,zT,z0,zS]
   refine rdy [9] ?_;refine arC rfl (fun K hK=>?_) ?_
   ·skip
    go_simp;refine(k2.out _ hq.drew).mono ?_;rintro e w4 ⟨a',n',c',rfl,s1,s2,s3⟩;go_wp2_with fail;refine hK.out _ _ ?_ (fun hHeld=>?_)
    ·exact s1.out
    clear hK K;try simp only[Act.put,zT,z0,zS]
    refine rdy [10] ?_;refine arC rfl (fun K hK=>?_) ?_
    ·skip
     go_simp;refine hK.out _ _ ?_ (fun hHeld=>?_)
     ·exact hHeld
     clear hK K;try simp only[Act.put,zT,z0,zS]
     refine rdy [11] ?_;refine arC rfl (fun K hK=>?_) ?_
     ·skip
      go_simp;refine hK.out _ _ ?_ (fun hHeld=>?_)
      ·exact hHeld
      clear hK K;try simp only[Act.put,zT,z0,zS]
      refine rdy [12] ?_;refine arC rfl (fun K hK=>?_) ?_
      ·skip
       go_simp;refine hK.out _ _ ?_ (fun hHeld=>?_)
       ·exact hHeld
       clear hK K;try simp only[Act.put,zT,z0,zS]
       refine rdy [13] ?_;refine AllReadyF.last (o:=⟨none,.store 22 (.tmp 29) (.tmp 26),_,_,_,none⟩) rfl (fun K hK=>?_) ?_
       ·skip
        go_simp;obtain⟨c0,c1,c2⟩:=hHeld;have c3:=s2.out;go_simp;refine hK.out _ _ ?_;clear hK K;try simp only[Act.put,zT,z0,zS]
        refine wpAnyF_done (by kernel_rfl) ?_ _;go_wp2_with fail
        go_end0
        exact⟨rfl,_,s3.out.1,s3.out.2⟩
       exact AllReadyF.nil
      exact AllReadyF.nil
     exact AllReadyF.nil
    exact AllReadyF.nil
   exact AllReadyF.nil
  exact AllReadyF.nil
 exact AllReadyF.nil
theorem remove_any(B db:Nat)(vv ev dv mv:Value)(g:Gr)(x:Int)(w:World)(h:DrV w B db vv ev dv mv g)(hn:g.vs.length<=1000)(hs:Asc (keysV g.vs))(hx:x∈keysV g.vs):
  Calls Tryz.prog 127 #[.pointer (some ⟨db,0,none⟩),.int .i64 x] w fun e w'=>e= .returned (getV g.vs x).val/\ ∃vv',DrV w' B db vv' ev dv mv {g with vs:=delV g.vs x}/\KD B w w':=by
 obtain⟨w1,hw1⟩:∃w1,w1=w.alloc (.cells #[.int .i64 0,.int .i64 0] 29):=⟨_,rfl⟩;obtain⟨l1,B1,z1⟩:=lit_world w w1 _ _ hw1;have hd:=h.cells.1;have hcell:=Hd (show ∀W,Below w1.heap.size w1 W->W.cell? ⟨db,0,none⟩=some vv from fun W B=>old_cell hd B1 W B);have k1:=Hd (fun W (B:Below w1.heap.size w1 W)=>place_any vv g.vs x W ((h.v.VL.below B1).below B) (by omega) hs);obtain⟨hp1,hp2⟩:=posV_lt g.vs x hs hx;have hget:=getV_eq g.vs x hs hp1 hp2;have hdel:=Hd (delV_eq g.vs x hs hx);obtain⟨p,hp⟩:∃p,p=posK (keysV g.vs) x:=⟨_,rfl⟩;simp only[<-hp]at k1 hp1 hp2 hget hdel;have hne0:g.vs≠[]:=fun e=>by rw[e]at hp1;simp at hp1
 obtain⟨gb,o,c,hve,hlc,hgb,hL⟩:=h.v.VL.own hne0;have hrowlt:=hgb;obtain⟨r0,r1⟩:=hL p _ (List.getElem?_eq_getElem hp1);have hr0:=Hd (show ∀W,Below w1.heap.size w1 W->W.cell? ⟨gb,o+p*2,none⟩=some (.int .i64 (getV g.vs x).id)/\W.cell? ⟨gb,o+p*2+1,none⟩=some (.int .i64 (getV g.vs x).side)from fun W B=>by rw[hget];exact⟨old_cell r0 B1 W B,old_cell r1 B1 W B⟩);have ho0:o=0:=by
  have h2:=h.v.2;rcases h2 with⟨e,_⟩|⟨g',cap,cur,e,_⟩
  ·rw[hve]at e;cases e
  ·rw[hve]at e;injection e with e;injection e with e;injection e with _ e
 subst ho0;generalize getV g.vs x=u at *
 have hne:Hid (gb≠db):=fun e=>by obtain⟨_,cur,hc⟩:=own_row h.v gb (by rw[hve];rfl);rw[e,h.box]at hc;simp at hc
 have k2:=Hd (fun(w2:World) (Bx:Below w1.heap.size w1 w2) (w3:World) (hw3:w3=w2.alloc (.cells #[.int .i64 u.id,.int .i64 u.side] 29)) (W:World) (B0:Below w3.heap.size w3 W) =>
  show Calls Tryz.prog 141 #[vv,.int .i64 p,.int .i64 ((p:Int)+1)] W fun e w'=>∃a' n' c',e= .returned (.slice a' n' c')/\Hid (w'.cell? ⟨db,0,none⟩=some vv)/\Hid (w'.frozen? ⟨db,0,none⟩=false) /\
   Hid (DrV (w'.setCell ⟨db,0,none⟩ (.slice a' n' c')) B db (.slice a' n' c') ev dv mv {g with vs:=delV g.vs x}/\KD B w (w'.setCell ⟨db,0,none⟩ (.slice a' n' c')) /\
    (w'.setCell ⟨db,0,none⟩ (.slice a' n' c')).heap[w.heap.size]?=some (.cells #[.int .i64 0,.int .i64 0] 29 (0,0)) /\
    (w'.setCell ⟨db,0,none⟩ (.slice a' n' c')).heap[w2.heap.size]?=some (.cells #[.int .i64 u.id,.int .i64 u.side] 29 (0,0))/\(Value.slice a' n' c').ownBlock≠some w.heap.size)from by
  obtain⟨m1,m2,m3⟩:=lit_world w2 w3 _ _ hw3;have B3:Below w.heap.size w W:=((B1.trans (Bx.mono B1.size)).trans ((m2.trans (B0.mono m2.size)).mono (Nat.le_trans B1.size Bx.size)));have h2:=h.below B3;have sz1:=Bx.size;have sz2:=B0.size;have hltd:=h.lt;refine(DeleteV_own B vv g.vs p W h2.v hp1 (by omega)).mono ?_;rintro e w' ⟨v',rfl,ho,hg,hob⟩;obtain⟨a',c',rfl⟩:=ho.VL.shape;have hvo:vv.ownBlock=some gb:=by rw[hve];rfl
  have q0:W.heap[w.heap.size]?=some (.cells #[.int .i64 0,.int .i64 0] 29 (0,0)):=by
   rw[B0.block _ (by omega),m2.block _ (by omega),Bx.block _ (by omega)];exact l1
  have q1:W.heap[w2.heap.size]?=some (.cells #[.int .i64 u.id,.int .i64 u.side] 29 (0,0)):=by
   rw[B0.block _ (by omega)];exact m1
  have far:∀k,k<W.heap.size->k≠gb->w'.heap[k]?=W.heap[k]?:=fun k hk hkn=>hg.block k hk (by rw[hvo];intro e;injection e with e;exact hkn e);refine⟨_,_,_,rfl,?_,?_,?_⟩
  ·show _=_;rw[World.cell?_of_block (far db h2.lt (Ne.symm hne.out))];exact h2.cells.1
  ·show _=_;rw[World.frozen?_of_block (far db h2.lt (Ne.symm hne.out))];exact h2.free 0
  ·rw[hdel.out];obtain⟨y1,y2⟩:=h2.setV hg ho;refine⟨y1,(KD.of B3 h.base).trans y2,?_,?_,?_⟩
   ·rw[heap_setCell_other _ _ _ _ (by show _≠db;omega),far _ (by omega) (by omega)];exact q0
   ·rw[heap_setCell_other _ _ _ _ (by show _≠db;omega),far _ (by omega) (by omega)];exact q1
   ·rw[hob,hvo];intro e;injection e with e;omega)
 have fin:=Hd (fun(W5:World) (v':Value) (q:DrV W5 B db v' ev dv mv {g with vs:=delV g.vs x}/\KD B w W5/\W5.heap[w.heap.size]?=some (.cells #[.int .i64 0,.int .i64 0] 29 (0,0))/\v'.ownBlock≠some w.heap.size) =>
  show DrV ((W5.setCell ⟨w.heap.size,0,none⟩ (.int .i64 u.id)).setCell ⟨w.heap.size,1,none⟩ (.int .i64 u.side)) B db v' ev dv mv {g with vs:=delV g.vs x}/\KD B w ((W5.setCell ⟨w.heap.size,0,none⟩ (.int .i64 u.id)).setCell ⟨w.heap.size,1,none⟩ (.int .i64 u.side)) /\
   ((W5.setCell ⟨w.heap.size,0,none⟩ (.int .i64 u.id)).setCell ⟨w.heap.size,1,none⟩ (.int .i64 u.side)).heap[w.heap.size]?=some (.cells #[.int .i64 u.id,.int .i64 u.side] 29 (0,0))from by
  obtain⟨a1,a2,a3,a4⟩:=q;have c1:=heap_setCell_same W5 w.heap.size 0 _ 29 (.int .i64 u.id) a3;exact⟨(a1.setOther (p:=⟨w.heap.size,0,none⟩) a3 (by decide) a4).setOther (p:=⟨w.heap.size,1,none⟩) c1 (by decide) a4,(a2.setNew (p:=⟨w.heap.size,0,none⟩) (Nat.le_refl _) h.base _).setNew (p:=⟨w.heap.size,1,none⟩) (Nat.le_refl _) h.base _,heap_setCell_same _ w.heap.size 1 _ 29 _ c1⟩)
 have hw1h:=Hd hw1;have i0:(0:Int)<=(p:Int):=by omega
 have i1:(p:Int)<(g.vs.length:Int):=by omega
 have hp63:p<=1000:=by omega
 unfold Vx.val;clear hw1 hd hp hp1 hp2 hget hdel hne h hs hx hL r0 r1 hne0 l1 hlc hn hgb;subst hve;generalize g.vs.length=n at *
 generalize decide (x∈keysV g.vs)=x2 at *
 have d0:=hcell.out w1 (Below.refl _ _);rw[hw1h.out]at d0;go_enter Tryz.func127,Tryz.ntmps127;go_wp2_with fail;rw[<-hw1h.out];refine(k1.out w1 (Below.refl _ _)).mono ?_;rintro e w2 ⟨rfl,hq⟩;obtain⟨c0,c1⟩:=hr0.out w2 hq;simp only[Nat.zero_add]at c0 c1;have d0:=hcell.out w2 hq;obtain⟨w3,hw3⟩:∃w3,w3=w2.alloc (.cells #[.int .i64 u.id,.int .i64 u.side] 29):=⟨_,rfl⟩;have k3:=Hd (k2.out w2 hq w3 hw3);have hc3:=hcell.out w3 (hq.trans ((lit_world w2 w3 _ _ hw3).2.1.mono hq.size));rw[hw3]at hc3;have hw3h:=Hd hw3;have e9:IntKind.i64.wrap ((p:Int)+1)=(p:Int)+1:=IntWalk.i64_in _ (by omega);clear hw3;go_wp2_with fail;rw[<-hw3h.out];refine(k3.out _ (Below.refl _ _)).mono ?_;rintro e w5 ⟨a',n',c',rfl,s1,s2,s3⟩;have c4:=s1.out;have c5:=s2.out;obtain⟨W5,hW5⟩:∃W5,W5=w5.setCell ⟨db,0,none⟩ (.slice a' n' c'):=⟨_,rfl⟩;rw[<-hW5]at s3;obtain⟨y1,y2,y3,y4,y5⟩:=s3.out;have fn:=Hd (fin.out W5 _ ⟨y1,y2,y3,y5⟩);have e0:W5.cell? ⟨w2.heap.size,0,none⟩=some (.int .i64 u.id):=by rw[cell_of_row _ _ _ _ _ _ y4];rfl
 have e1:W5.cell? ⟨w2.heap.size,1,none⟩=some (.int .i64 u.side):=by rw[cell_of_row _ _ _ _ _ _ y4];rfl
 have e2:W5.cell? ⟨w.heap.size,0,none⟩=some (.int .i64 0):=by rw[cell_of_row _ _ _ _ _ _ y3];rfl
 have e3:W5.cell? ⟨w.heap.size,1,none⟩=some (.int .i64 0):=by rw[cell_of_row _ _ _ _ _ _ y3];rfl
 have e4:W5.frozen? ⟨w.heap.size,0,none⟩=false:=frozen_of_row _ _ _ _ _ y3;have e5:W5.frozen? ⟨w.heap.size,1,none⟩=false:=frozen_of_row _ _ _ _ _ y3;clear y1 y2 y3 y4 y5 s3;rw[hW5]at e0 e1 e2 e3 e4 e5 fn;clear hW5;go_wp2_with fail;refine bodyPost_ret (results_cell_row (fn:=Tryz.f127) rfl _ _ w.heap.size 29 _ (0,0) _ rfl fn.out.2.2 Tryz.underlying29 rfl size29) rfl ?_;exact⟨rfl,_,fn.out.1,fn.out.2.1⟩
theorem cEd_set(l:List Ed):∀(p i:Nat) (u:Value) (e':Ed) (hp:p<l.length),i<6->(edCells e').toList=(edCells l[p]).toList.set i u->(cEd l).set (p*6+i) u=cEd (l.set p e'):=by
 induction l with
 | nil=>intro p i u e' hp;simp at hp
 | cons x t ih =>
  intro p i u e' hp hi he;have hx:(edCells x).toList.length=6:=rfl;cases p with
  | zero =>
   simp only[List.getElem_cons_zero]at he;show((edCells x).toList++cEd t).set (0*6+i) u=(edCells e').toList++cEd t;rw[he,List.set_append_left _ _ (by omega),show 0*6+i=i by omega]
  | succ p =>
   simp only[List.getElem_cons_succ]at he;show((edCells x).toList++cEd t).set ((p+1)*6+i) u=(edCells x).toList++cEd (t.set p e');rw[List.set_append_right _ _ (by omega),hx,show(p+1)*6+i-6=p*6+i by omega,ih p i u e' (by simpa using hp) hi he]
theorem cVx_set(l:List Vx):∀(p i:Nat) (u:Value) (e':Vx) (hp:p<l.length),i<2->(vxCells e').toList=(vxCells l[p]).toList.set i u->(cVx l).set (p*2+i) u=cVx (l.set p e'):=by
 induction l with
 | nil=>intro p i u e' hp;simp at hp
 | cons x t ih =>
  intro p i u e' hp hi he;have hx:(vxCells x).toList.length=2:=rfl;cases p with
  | zero =>
   simp only[List.getElem_cons_zero]at he;show((vxCells x).toList++cVx t).set (0*2+i) u=(vxCells e').toList++cVx t;rw[he,List.set_append_left _ _ (by omega),show 0*2+i=i by omega]
  | succ p =>
   simp only[List.getElem_cons_succ]at he;show((vxCells x).toList++cVx t).set ((p+1)*2+i) u=(vxCells x).toList++cVx (t.set p e');rw[List.set_append_right _ _ (by omega),hx,show(p+1)*2+i-2=p*2+i by omega,ih p i u e' (by simpa using hp) hi he]
theorem own_slice{W:World}{base n:Nat}{e:TypeId}{size:Nat}{v:Value}{xs:List Value}(h:W.ownsRow base e size v n xs)(hn:n≠0):∃g cap cur,v= .slice (some ⟨g,0,none⟩) n cap/\base<=g/\W.heap[g]?=some (.cells cur e (0,0))/\n<=cap:=by
 rcases h.2 with⟨_,h0⟩|⟨g,cap,cur,h1,h2,h3,h4,_⟩
 ·exact absurd h0 hn
 ·exact⟨g,cap,cur,h1,h2,h3,h4⟩
theorem DrV.putE{W:World}{B db:Nat}{vv ev dv mv u:Value}{g:Gr}{p i:Nat}{e':Ed}(h:DrV W B db vv ev dv mv g)(hp:p<g.es.length)(hi:i<6)(he:(edCells e').toList=(edCells g.es[p]).toList.set i u)
  {eb n cap:Nat} (hev:ev= .slice (some ⟨eb,0,none⟩) n cap) :
  DrV (W.setCell ⟨eb,p*6+i,none⟩ u) B db vv ev dv mv {g with es:=g.es.set p e' }/\KD B W (W.setCell ⟨eb,p*6+i,none⟩ u):=by
 obtain⟨hB,cur,hc⟩:=own_row h.e eb (by rw[hev];rfl);have k2:KD B W (W.setCell ⟨eb,p*6+i,none⟩ u):=KD.setCell (p:=⟨eb,p*6+i,none⟩) hc rfl hB u;have ne:∀ {e:TypeId} {v:Value} {n size:Nat} {xs:List Value},W.ownsRow B e size v n xs->e≠31->v.ownBlock≠some (⟨eb,p*6+i,none⟩:Addr).block:=fun hh he e2=>by
  obtain⟨_,cur',hc'⟩:=own_row hh eb e2;rw[hc]at hc';simp at hc';exact he hc'.2.symm
 refine⟨⟨h.hB,?_,ownsRow_setCell_other h.v (ne h.v (by decide)) u,?_,h.d.kd k2,h.m.kd k2⟩,k2⟩
 ·rw[heap_setCell_other _ _ _ _ (fun e=>by have e:db=eb:=e;have hb:=h.box;rw[e,hc]at hb;simp at hb)];exact h.box
 ·have h2:=h.e;obtain⟨n',cap',hev'⟩:∃n' cap',n'=g.es.length/\ev= .slice (some ⟨eb,0,none⟩) n' cap':=by
   obtain⟨a,c,e⟩:=h.e.EL.shape;rw[hev]at e;injection e with e1 e2 e3
   exact⟨n,cap,e2,hev⟩
  obtain⟨hn',hev'⟩:=hev';unfold OwnEd at h2 ⊢;rw[hev',hn']at h2 ⊢;have:=h2.stored (p*6+i) u;rw[cEd_set g.es p i u e' hp hi he]at this;rw[List.length_set];exact this.1
theorem DrV.putV{W:World}{B db:Nat}{vv ev dv mv u:Value}{g:Gr}{p i:Nat}{e':Vx}(h:DrV W B db vv ev dv mv g)(hp:p<g.vs.length)(hi:i<2)(he:(vxCells e').toList=(vxCells g.vs[p]).toList.set i u)
  {eb n cap:Nat} (hev:vv= .slice (some ⟨eb,0,none⟩) n cap) :
  DrV (W.setCell ⟨eb,p*2+i,none⟩ u) B db vv ev dv mv {g with vs:=g.vs.set p e' }/\KD B W (W.setCell ⟨eb,p*2+i,none⟩ u):=by
 obtain⟨hB,cur,hc⟩:=own_row h.v eb (by rw[hev];rfl);have k2:KD B W (W.setCell ⟨eb,p*2+i,none⟩ u):=KD.setCell (p:=⟨eb,p*2+i,none⟩) hc rfl hB u;have ne:∀ {e:TypeId} {v:Value} {n size:Nat} {xs:List Value},W.ownsRow B e size v n xs->e≠29->v.ownBlock≠some (⟨eb,p*2+i,none⟩:Addr).block:=fun hh he e2=>by
  obtain⟨_,cur',hc'⟩:=own_row hh eb e2;rw[hc]at hc';simp at hc';exact he hc'.2.symm
 refine⟨⟨h.hB,?_,?_,ownsRow_setCell_other h.e (ne h.e (by decide)) u,h.d.kd k2,h.m.kd k2⟩,k2⟩
 ·rw[heap_setCell_other _ _ _ _ (fun e=>by have e:db=eb:=e;have hb:=h.box;rw[e,hc]at hb;simp at hb)];exact h.box
 ·have h2:=h.v;obtain⟨n',cap',hev'⟩:∃n' cap',n'=g.vs.length/\vv= .slice (some ⟨eb,0,none⟩) n' cap':=by
   obtain⟨a,c,e⟩:=h.v.VL.shape;rw[hev]at e;injection e with e1 e2 e3
   exact⟨n,cap,e2,hev⟩
  obtain⟨hn',hev'⟩:=hev';unfold OwnV at h2 ⊢;rw[hev',hn']at h2 ⊢;have:=h2.stored (p*2+i) u;rw[cVx_set g.vs p i u e' hp hi he]at this;rw[List.length_set];exact this.1
/-! one end is moved -/
theorem mem_take_succ(l:List Int)(k:Nat)(hk:k<l.length)(x:Int):x∈l.take (k+1)↔x∈l.take k\/x=l[k]:=by
 rw[List.take_succ_eq_append_getElem hk,List.mem_append,List.mem_singleton]
theorem map_getElem_id(l:List Ed)(f:Ed->Ed)(p:Nat)(h:p<(l.map f).length):(l.map f)[p]=f (l[p]'(by simpa using h)):=by simp
theorem mv_even(l:List Ed)(ends:List Int)(y:Int)(k p:Nat)(hk:k<ends.length)(hp:p<l.length)(ha:Asc (keysE l))(h:ends[k]=2*l[p].id):
  l.map (mvE (ends.take (k+1)) y)=(l.map (mvE (ends.take k) y)).set p { (mvE (ends.take k) y l[p])with src:=y}:=by
 apply List.ext_getElem
 ·simp
 ·intro j h1 h2;simp only[List.length_map]at h1;simp only[List.getElem_map,List.getElem_set];by_cases hj:p=j
  ·subst hj;rw[if_pos rfl];unfold mvE;simp only[mem_take_succ ends k hk,h,or_true,if_true,Ed.mk.injEq,true_and,and_true];have:(2*l[p].id+1=2*l[p].id)=False:=eq_false (by omega);simp only[this,or_false]
  ·rw[if_neg hj];have hne:l[j].id≠l[p].id:=fun e=>hj (inj_keyE l ha p j hp h1 e.symm);unfold mvE;simp only[mem_take_succ ends k hk,h,Ed.mk.injEq,true_and,and_true];have e1:(2*l[j].id=2*l[p].id)=False:=eq_false (by omega);have e2:(2*l[j].id+1=2*l[p].id)=False:=eq_false (by omega);simp only[e1,e2,or_false,and_self]
theorem mv_odd(l:List Ed)(ends:List Int)(y:Int)(k p:Nat)(hk:k<ends.length)(hp:p<l.length)(ha:Asc (keysE l))(h:ends[k]=2*l[p].id+1):
  l.map (mvE (ends.take (k+1)) y)=(l.map (mvE (ends.take k) y)).set p { (mvE (ends.take k) y l[p])with dst:=y}:=by
 apply List.ext_getElem
 ·simp
 ·intro j h1 h2;simp only[List.length_map]at h1;simp only[List.getElem_map,List.getElem_set];by_cases hj:p=j
  ·subst hj;rw[if_pos rfl];unfold mvE;simp only[mem_take_succ ends k hk,h,or_true,if_true,Ed.mk.injEq,true_and,and_true];have:(2*l[p].id=2*l[p].id+1)=False:=eq_false (by omega);simp only[this,or_false]
  ·rw[if_neg hj];have hne:l[j].id≠l[p].id:=fun e=>hj (inj_keyE l ha p j hp h1 e.symm);unfold mvE;simp only[mem_take_succ ends k hk,h,Ed.mk.injEq,true_and,and_true];have e1:(2*l[j].id=2*l[p].id+1)=False:=eq_false (by omega);have e2:(2*l[j].id+1=2*l[p].id+1)=False:=eq_false (by omega);simp only[e1,e2,or_false,and_self]
theorem move_any(B db:Nat)(vv ev dv mv:Value)(g:Gr)(vends:Value)(ends:List Int)(y:Int)(w:World)(h:DrV w B db vv ev dv mv g)(hv:∀W,KD B w W->DL W vends ends)(hn:g.es.length<=1000)(hs:Asc (keysE g.es))
  (hm:ends.length<=1000000) (hin:∀n∈ends,0<=n/\n<=1000000/\n / 2∈keysE g.es) :
  Calls Tryz.prog 132 #[.pointer (some ⟨db,0,none⟩),vends,.int .i64 y] w fun e w'=>e= .returned (.tuple #[])/\DrV w' B db vv ev dv mv {g with es:=g.es.map (mvE ends y)}/\KD B w w':=by
 obtain⟨a2,c2,rfl⟩:=(hv w (KD.refl _ _)).shape;have cellS:=Hd (show ∀(k:Nat) (hk:k<ends.length),∃b o,a2=some ⟨b,o,none⟩/\ ∀W,KD B w W->W.cell? ⟨b,o+k,none⟩=some (.int .i64 ends[k])from fun k hk=>by
  obtain⟨b,o,c,he,e1,e2,e3⟩:=(hv w (KD.refl _ _)).own (fun e=>by rw[e]at hk;simp at hk);injection he with he
  refine⟨b,o,he,fun W K=>?_⟩;obtain⟨b',o',c',he',f1,f2,f3⟩:=(hv W K).own (fun e=>by rw[e]at hk;simp at hk);injection he' with he'
  rw[he]at he';injection he' with he'
  injection he' with g1 g2
  subst g1 g2;exact f3 k _ (List.getElem?_eq_getElem hk))
 obtain⟨N,hN⟩:∃N,Hid (N=ends.length):=⟨_,rfl⟩;rw[<-hN.out]at hm ⊢;have hh:=Hd h;have hsh:=Hd hs;have hinh:=Hd hin;clear hv h hs hin;go_enter Tryz.func132,Tryz.ntmps132;go_wp2_with fail
 go_loopw [12] (fun i wr=>∃(k:Nat),k<=N/\i= .int .i64 k/\Hid (DrV wr B db vv ev dv mv {g with es:=g.es.map (mvE (ends.take k) y)})/\Hid (KD B w wr)) (fun i _=>N-(intOf i).toNat)
 case atStart =>
  refine⟨0,by omega,rfl,?_,KD.refl _ _⟩;have e:g.es.map (mvE (ends.take 0) y)=g.es:=by
   conv=>rhs;rw[<-List.map_id g.es]
   exact List.map_congr_left fun u _=>by simp[mvE]
  rw[e];exact hh.out
 case round =>
  obtain⟨k,hk,rfl,hD,hK⟩:=hrel;by_cases hlt:k<N
  ·have hkl:k<ends.length:=by rw[<-hN.out];exact hlt
   obtain⟨bv,ov,rfl,cv⟩:=cellS.out k hkl;have d0:=cv wr hK.out;have i0:(0:Int)<=(k:Int):=by omega
   have i1:(k:Int)<(N:Int):=by omega
   obtain⟨n0,n1,n2⟩:=hinh.out _ (List.getElem_mem hkl);have hkeys:keysE (g.es.map (mvE (ends.take k) y))=keysE g.es:=keys_map g.es _ (fun _=>rfl);have hse:=Hd (edge_any db ev _ (ends[k] / 2) wr hD.out.cells.2.1 hD.out.e.EL (by simp;omega) (by rw[hkeys];exact hsh.out));rw[hkeys,decide_eq_true n2]at hse;obtain⟨hp,hpe⟩:=posE_lt g.es (ends[k] / 2) hsh.out n2;have c1:=hD.out.cells.2.1;have heven:=Hd (fun(e:ends[k]=2*(g.es[posK (keysE g.es) (ends[k] / 2)]'hp).id)=>mv_even g.es ends y k _ hkl hp hsh.out e);have hodd:=Hd (fun(e:ends[k]=2*(g.es[posK (keysE g.es) (ends[k] / 2)]'hp).id+1)=>mv_odd g.es ends y k _ hkl hp hsh.out e);obtain⟨eb,cap,cur,hev,_,hcur,hcap⟩:=own_slice hD.out.e (by show(g.es.map _).length≠0;rw[List.length_map];omega);rw[hev]at c1;have hlen:(g.es.map (mvE (ends.take k) y)).length=g.es.length:=by simp
   obtain⟨p,hpp⟩:∃p,p=posK (keysE g.es) (ends[k] / 2):=⟨_,rfl⟩;simp only[<-hpp]at hse heven hodd hp hpe;have hpl:p<(g.es.map (mvE (ends.take k) y)).length:=by rw[hlen];exact hp
   have hpu:=Hd (fun(W:World) (hW:DrV W B db vv ev dv mv {g with es:=g.es.map (mvE (ends.take k) y)})=>hW.putE (p:=p) (i:=1) (u:= .int .i64 y) (e':={ (g.es.map (mvE (ends.take k) y))[p]with src:=y}) hpl (by omega) rfl hev);have hpd:=Hd (fun(W:World) (hW:DrV W B db vv ev dv mv {g with es:=g.es.map (mvE (ends.take k) y)})=>hW.putE (p:=p) (i:=2) (u:= .int .i64 y) (e':={ (g.es.map (mvE (ends.take k) y))[p]with dst:=y}) hpl (by omega) rfl hev);rw[map_getElem_id]at hpu hpd;have hrowf:=Hd (fun(W:World) (hb:Below wr.heap.size wr W) (i:Nat)=>show W.frozen? ⟨eb,i,none⟩=false/\(i<6->(W.cell? ⟨eb,p*6+i,none⟩).isSome=true)from by
    have hWd:=hD.out.below hb;obtain⟨eb',cap',cur',hev',_,hcur',hcap'⟩:=own_slice hWd.e (by show(g.es.map _).length≠0;rw[List.length_map];omega);rw[hev]at hev';injection hev' with e1;injection e1 with e1;injection e1 with e1;subst e1
    refine⟨frozen_of_row _ _ _ _ _ hcur',fun hi=>?_⟩;have hEl:=hWd.e.EL;obtain⟨b2,o2,c3,he2,f1,f2,f3⟩:=hEl.own (fun e=>by have e:g.es.map (mvE (ends.take k) y)=[]:=e;rw[e]at hpl;simp at hpl);rw[hev]at he2;injection he2 with e1;injection e1 with e1;injection e1 with e1 e2;subst e1 e2
    have:=f3 p _ (List.getElem?_eq_getElem hpl);obtain⟨a0,a1,a2,a3,a4,a5⟩:=this;simp only[Nat.zero_add]at a0 a1 a2 a3 a4 a5;rcases(by omega:i=0\/i=1\/i=2\/i=3\/i=4\/i=5)with rfl|rfl|rfl|rfl|rfl|rfl
    ·rw[Nat.add_zero,a0];rfl
    ·rw[a1];rfl
    ·rw[a2];rfl
    ·rw[a3];rfl
    ·rw[a4];rfl
    ·rw[a5];rfl)
   have hq:ends[k].tdiv 2=ends[k] / 2:=Int.tdiv_eq_ediv_of_nonneg n0;have hm2:ends[k].tmod 2=ends[k]%2:=Int.tmod_eq_emod_of_nonneg n0;have hcol:=Hd (fun(W:World) (hb:Below wr.heap.size wr W)=>hD.out.below hb);have hkd:=Hd (fun(W:World) (hb:Below wr.heap.size wr W)=>hK.out.trans (KD.of hb hD.out.base));have hL0:g.es.length=(g.es.map (mvE (ends.take k) y)).length:=hlen.symm;have ipE:(p:Int)<(g.es.length:Int):=by omega
   have ip0:(0:Int)<=(p:Int):=by omega
   have hcapn:∃n,Hid (ev= .slice (some ⟨eb,0,none⟩) n cap)/\n=g.es.length:=⟨_,hev,by simp⟩;obtain⟨n,hevn,hnn⟩:=hcapn;rw[<-hnn]at ipE;have hid2:ends[k] / 2=g.es[p].id:=hpe.symm;have hq2:ends[k] / 2=ends[k].tdiv 2:=hq.symm;by_cases hpar:ends[k]%2=0
   ·have hev2:=Hd (heven.out (by omega));have t1:(ends[k].tmod 2==0)=true:=by rw[hm2,hpar];rfl
    have t2:(ends[k]%2==0)=true:=by rw[hpar];rfl
    generalize ends[k]=nn at *
    unfold PlacePost at hse;clear hpar heven hodd hcur hpe;generalize g.es[p]=u at *
    clear hid2 hq hq2 hm2 hL0 hlen hkeys hpp hnn hpl hp;go_wp2_with fail;with_reducible refine hse.out.mono ?_
    rintro e w2 ⟨rfl,b2⟩;have c2':w2.cell? ⟨db,1,none⟩=some (.slice (some ⟨eb,0,none⟩) n cap):=by have:=(hcol.out w2 b2).cells.2.1;rw[hevn.out]at this;exact this
    obtain⟨f1,f2⟩:=hrowf.out w2 b2 1;have f3:=(hrowf.out w2 b2 (p*6+1)).1;obtain⟨old,hold⟩:=Option.isSome_iff_exists.1 (f2 (by omega));have hnew:=Hd (hpu.out w2 (hcol.out w2 b2));have hkd2:=Hd (hkd.out w2 b2);clear f1 f2 b2;go_wp2_with fail
    go_roundw
    case rel=>exact⟨k+1,by omega,by go_num,by rw[hev2.out];exact hnew.out.1,hkd2.out.trans hnew.out.2⟩
    case measure=>simp[intOf];omega
   ·have hev2:=Hd (hodd.out (by omega));have t1:(ends[k].tmod 2==0)=false:=by rw[hm2];simpa using hpar
    have t2:(ends[k]%2==0)=false:=by simpa using hpar
    generalize ends[k]=nn at *
    unfold PlacePost at hse;clear hpar heven hodd hcur hpe;generalize g.es[p]=u at *
    clear hid2 hq hq2 hm2 hL0 hlen hkeys hpp hnn hpl hp;go_wp2_with fail;with_reducible refine hse.out.mono ?_
    rintro e w2 ⟨rfl,b2⟩;have c2':w2.cell? ⟨db,1,none⟩=some (.slice (some ⟨eb,0,none⟩) n cap):=by have:=(hcol.out w2 b2).cells.2.1;rw[hevn.out]at this;exact this
    obtain⟨f1,f2⟩:=hrowf.out w2 b2 2;have f3:=(hrowf.out w2 b2 (p*6+2)).1;obtain⟨old,hold⟩:=Option.isSome_iff_exists.1 (f2 (by omega));have hnew:=Hd (hpd.out w2 (hcol.out w2 b2));have hkd2:=Hd (hkd.out w2 b2);clear f1 f2 b2;go_wp2_with fail
    go_roundw
    case rel=>exact⟨k+1,by omega,by go_num,by rw[hev2.out];exact hnew.out.1,hkd2.out.trans hnew.out.2⟩
    case measure=>simp[intOf];omega
  ·have hk2:k=N:=by omega
   have hf:Hid (ends.take k=ends):=by show _=_;rw[List.take_of_length_le (by rw[hk2,hN.out];exact Nat.le_refl _)]
   rw[hf.out]at hD;have i1:¬(k:Int)<(N:Int):=by omega
   clear hk2;go_wp2_with fail
   go_end0
   exact⟨rfl,hD.out,hK.out⟩
end Go.Proofs.YtlaldnlgapeckaaGreat
