/- Facts. -/
import Derived.Test.YtlaldnlgapeckaaGreatVYAl
import Derived.Test.YtlaldnlgapeckaaGreatVYAn
import Derived.Test.YtlaldnlgapeckaaGreatVYBa
set_option linter.unusedSimpArgs false
set_option maxRecDepth 100000
set_option maxHeartbeats 4000000
namespace Go.Proofs.YtlaldnlgapeckaaGreat
open Go.RowKit
theorem look_run{W:World}{b:Nat}{x5 x6 x9:Value}(k:Int)(i:Nat)(v:Value)(hb:W.heap[b]?=some (.map (entries x5 x6 x9) 10))(hf:Instr.findNow (.int .i64) (.int .i64 k) (entries x5 x6 x9).toList 0=some (some (i,v))):
  (Instr.lookup 92 (.map (some b)) (.int .i64 k) true).run Tryz.prog W= .ok (.tuple #[v,.bool true]) W:=by
 simp[Instr.lookup,run_underlying Tryz.underlying92,MapKept.run_getObj_map hb,MapKept.run_checkKey Tryz.underlying3 (show MapKept.IsKey (.int .i64) (.int .i64 k)from rfl),MapKept.run_findKey Tryz.underlying3 hf,Result.andThen]
theorem look_none{W:World}{b:Nat}{x5 x6 x9:Value}(k:Int)(hb:W.heap[b]?=some (.map (entries x5 x6 x9) 10))(hf:Instr.findNow (.int .i64) (.int .i64 k) (entries x5 x6 x9).toList 0=some none):
  (Instr.lookup 92 (.map (some b)) (.int .i64 k) true).run Tryz.prog W= .ok (.tuple #[.nilFunc,.bool false]) W:=by
 have hz:∀w,(zeroValue 130).run Tryz.prog w= .ok .nilFunc w:=fun _=>by kernel_rfl
 simp[Instr.lookup,run_underlying Tryz.underlying92,MapKept.run_getObj_map hb,MapKept.run_checkKey Tryz.underlying3 (show MapKept.IsKey (.int .i64) (.int .i64 k)from rfl),MapKept.run_findKey Tryz.underlying3 hf,hz,Result.andThen]
theorem act_lift{B db:Nat}{w w1 W W':World}{r:Option (Gr × Ch)}{e:Ending}(hB:B<=w.heap.size)(h1:KD B w w1)(h0:KD B w1 W)(hrx:∀W,KD B w1 W->W.heap[w.heap.size+1]?=some (.cells zCells 33 (0,0)))(h:ActPost B db W r e W'):
  ∃cs flag,e= .returned (.tuple #[.agg cs,.bool flag])/\Hid (cs.size=13)/\Hid (cs.all (·.oneCell')=true)/\Hid (W'.heap[w.heap.size+1]?=some (.cells zCells 33 (0,0)))/\Hid (ActPost B db w r (.returned (.tuple #[.agg cs,.bool flag])) (W'.setRow (w.heap.size+1) cs)):=by
 obtain⟨hk,hr⟩:=h;have hx:=hrx W' (h0.trans hk);cases r with
 | none=>exact⟨zCells,false,hr,rfl,z_all,hx,(h1.trans (h0.trans hk)).setRowNew (by omega) (by omega) _,rfl⟩
 | some q =>
  obtain⟨a,b,he,⟨vv,ev,dv,mv,hD⟩,ha,hb⟩:=hr;refine⟨_,true,he,rfl,?_,hx,(h1.trans (h0.trans hk)).setRowNew (by omega) (by omega) _,_,_,rfl,⟨_,_,_,_,hD.setRow33 hx⟩,ha.row33 hx _,hb.row33 hx _⟩;obtain⟨a1,a2,rfl⟩:=ha.DL.shape;obtain⟨b1,b2,rfl⟩:=hb.DL.shape;exact ch_all _ _ _ _ _ _ _
theorem do_pre{B db mb:Nat}{vv ev dv x5 x6 x9:Value}{g:Gr}{vc:Value}{c:Ch}{w:World}(h:DrV w B db vv ev dv (.map (some mb)) g)(hc:∀W,KD B w W->CV W vc c)(hmap:w.heap[mb]?=some (.map (entries x5 x6 x9) 10)):
  ∃(ah bh:Option Addr) (ac bc:Nat) (w1:World),vc= .agg (chCells c (.slice ah c.ends.length ac) (.slice bh c.deps.length bc))/\Hid (w1=(w.alloc (.cells (chCells c (.slice ah c.ends.length ac) (.slice bh c.deps.length bc)) 33)).alloc (.cells zCells 33))/\B<=w.heap.size/\KD B w w1 /\
   Hid (∀W,Below w1.heap.size w1 W->DrV W B db vv ev dv (.map (some mb)) g)/\Hid (∀W,Below w1.heap.size w1 W->KD B w1 W)/\Hid (∀W,KD B w1 W->W.cell? ⟨w.heap.size,0,none⟩=some (.int .i64 c.kind)/\W.cell? ⟨w.heap.size,1,none⟩=some (.int .i64 c.v.id)/\W.cell? ⟨w.heap.size,2,none⟩=some (.int .i64 c.v.side)/\W.cell? ⟨w.heap.size,3,none⟩=some (.int .i64 c.e.id)/\W.cell? ⟨w.heap.size,4,none⟩=some (.int .i64 c.e.src)/\W.cell? ⟨w.heap.size,5,none⟩=some (.int .i64 c.e.dst)/\W.cell? ⟨w.heap.size,6,none⟩=some (.bool c.e.dir)/\W.cell? ⟨w.heap.size,7,none⟩=some (.int .i64 c.e.wt)/\W.cell? ⟨w.heap.size,8,none⟩=some (.int .i64 c.e.cap)/\W.cell? ⟨w.heap.size,9,none⟩=some (.int .i64 c.id)/\W.cell? ⟨w.heap.size,10,none⟩=some (.int .i64 c.n)/\W.cell? ⟨w.heap.size,11,none⟩=some (.slice ah c.ends.length ac)/\W.cell? ⟨w.heap.size,12,none⟩=some (.slice bh c.deps.length bc))/\Hid (∀W,KD B w1 W->W.heap[w.heap.size+1]?=some (.cells zCells 33 (0,0))) /\
   Hid (∀W,Below w1.heap.size w1 W->W.cell? ⟨db,3,none⟩=some (.map (some mb))/\W.cell? ⟨w.heap.size,0,none⟩=some (.int .i64 c.kind))/\Hid (∀W,Below w1.heap.size w1 W->W.heap[mb]?=some (.map (entries x5 x6 x9) 10)) /\
   Hid (∀W,Below w1.heap.size w1 W->Calls Tryz.prog 87 #[vc] W fun e w'=>e= .returned (.bool (bareF c))/\Below W.heap.size W w'):=by
 obtain⟨a,b,rfl,h1,h2⟩:=hc w (KD.refl _ _);obtain⟨ah,ac,rfl⟩:=h1.shape;obtain⟨bh,bc,rfl⟩:=h2.shape;obtain⟨w1,hw1⟩:∃w1,w1=(w.alloc (.cells (chCells c (.slice ah c.ends.length ac) (.slice bh c.deps.length bc)) 33)).alloc (.cells zCells 33):=⟨_,rfl⟩;obtain⟨B1,z1,hbx⟩:=act_world B w w1 c _ _ hw1;have hd:=h.below B1;have hK1:KD B w w1:=KD.of B1 h.base;have hKD:=fun(W:World) (b0:Below w1.heap.size w1 W)=>KD.of b0 hd.base;exact⟨ah,bh,ac,bc,w1,rfl,hw1,h.base,hK1,fun W b0=>hd.below b0,hKD,fun W K=>ch_cells (hbx W K).1,fun W K=>(hbx W K).2,fun W b0=>⟨(hd.below b0).cells.2.2.2,(ch_cells (hbx W (hKD W b0)).1).1⟩,fun W b0=>(hK1.trans (hKD W b0)).keep _ _ hmap rfl,fun W b0=>bare_any _ c W (hc W (hK1.trans (hKD W b0)))⟩
theorem do_k1(B db:Nat)(vv ev dv mv:Value)(g:Gr)(vc:Value)(c:Ch)(w:World)(h:DrV w B db vv ev dv mv g)(hg:Ok g)(hk:c.kind=1)(hc:∀W,KD B w W->CV W vc c)(_hlen:c.ends.length<=1000000/\c.deps.length<=1000000):
  Calls Tryz.prog 61 #[.pointer (some ⟨db,0,none⟩),vc] w (ActPost B db w (actF g c)):=by
 have hvl:=hg.vlen;have hel:=hg.elen;obtain⟨mb,x5,x6,x9,rfl,hmb,hmap,c5,c6,c9⟩:=h.m;obtain⟨ah,bh,ac,bc,w1,rfl,hw1h,hB,hK1,hDr,hKD,hcell,hrx,hcr,hmapW,hbare⟩:=do_pre h hc hmap;have hact:=Hd (fun(W:World) (b0:Below w1.heap.size w1 W)=>((act1_any B db vv ev dv (.map (some mb)) g _ c W (hDr.out W b0) hg (fun W2 K=>hc W2 ((hK1.trans (hKD.out W b0)).trans K)) _hlen).mono fun e W' p=>act_lift hB hK1 (hKD.out W b0) hrx.out p));have hlk:=Hd (fun(W:World) (b0:Below w1.heap.size w1 W)=>look_run 1 0 (.func (.func 103) #[] #[]) (hmapW.out W b0) rfl);have hF:Hid (actF g c=if bareF c=true then act1 g c else none):=by
  show _=_;unfold actF actK;simp[hk]
 generalize actF g c=R at *
 generalize act1 g c=R2 at *
 generalize bareF c=x1 at *
 unfold chCells zCells chCells zC zV zE nilS at hw1h;unfold chCells;unfold chCells at hact hbare;rw[hk]at hw1h hcell hcr hact hbare ⊢;have d9:=hcell.out w1 (KD.refl _ _);clear hc h hmap;clear d9;clear hk;cases x1 with
 | false =>
  clear hact;go_enter Tryz.func61,Tryz.ntmps61;go_wp2_with fail;rw[<-hw1h.out];refine q_region (fun w':World=>Below w1.heap.size w1 w') (by kernel_rfl) (by kernel_rfl) ((Below.refl _ _).drew) ?_;repeat (refine q_take (v:=?_) (by rfl) ?_ ?_;rotate_left;(first|((intro w h;clear h;go_simp)<;>with_reducible rfl)|((intro w h;obtain⟨d3,d0⟩:=hcr.out w h;go_simp)<;>with_reducible rfl)|((intro w h;have hl:=hlk.out w h;go_simp)<;>with_reducible rfl));try simp only[Act.put,zT,z0,zS])
  refine q_nil ?_;intro wq hHeld;obtain⟨s0,s1,s2,s3,s4,s5,s6,s7,s8,s9,s10,s11,s12⟩:=hcell.out _ (hKD.out _ hHeld);go_wp2_with fail;with_reducible refine(hbare.out _ hHeld).mono ?_
  rintro e w3 ⟨rfl,b⟩;have h3:Below w1.heap.size w1 w3:=hHeld.trans (b.mono hHeld.size);have r3:=hrx.out _ (hKD.out _ h3)
  go_wp2_with (refine wpList_store_row rfl 33 (.tmp 4) (.tmp 25) rfl (w.heap.size+1) zCells rfl rfl 33 _ (r3) (info33 _ _ _) rfl z_all ?_)
  refine bodyPost_ret (results_cell_tmp_row (fn:=Tryz.f61) rfl _ _ (w.heap.size+1) 33 zCells (0,0) _ _ rfl rfl (setRow_heap _ _ _ _ _ _ r3) Tryz.underlying33 rfl (info33 _ _ _)) rfl ?_;exact fin_none hB hK1 (hKD.out _ h3) _ (hF.out.trans (by simp))
 | true =>
  go_enter Tryz.func61,Tryz.ntmps61;go_wp2_with fail;rw[<-hw1h.out];refine q_region (fun w':World=>Below w1.heap.size w1 w') (by kernel_rfl) (by kernel_rfl) ((Below.refl _ _).drew) ?_;repeat (refine q_take (v:=?_) (by rfl) ?_ ?_;rotate_left;(first|((intro w h;clear h;go_simp)<;>with_reducible rfl)|((intro w h;obtain⟨d3,d0⟩:=hcr.out w h;go_simp)<;>with_reducible rfl)|((intro w h;have hl:=hlk.out w h;go_simp)<;>with_reducible rfl));try simp only[Act.put,zT,z0,zS])
  refine q_nil ?_;intro wq hHeld;obtain⟨s0,s1,s2,s3,s4,s5,s6,s7,s8,s9,s10,s11,s12⟩:=hcell.out _ (hKD.out _ hHeld);go_wp2_with fail;with_reducible refine(hbare.out _ hHeld).mono ?_
  rintro e w3 ⟨rfl,b⟩;have h3:Below w1.heap.size w1 w3:=hHeld.trans (b.mono hHeld.size);clear b;obtain⟨s0,s1,s2,s3,s4,s5,s6,s7,s8,s9,s10,s11,s12⟩:=hcell.out _ (hKD.out _ h3);go_wp2_with fail;with_reducible refine(hact.out _ h3).mono ?_
  rintro e w5 ⟨cs,flag,rfl,e1,e2,e3,e4⟩;have r5:=e3.out
  go_wp2_with (refine wpList_store_row rfl 33 (.tmp 4) (.tmp 30) rfl (w.heap.size+1) cs rfl rfl 33 _ r5 (by rw[e1.out];exact size33) (by rw[e1.out];rfl) e2.out ?_)
  refine bodyPost_ret (results_cell_tmp_row (fn:=Tryz.f61) rfl _ _ (w.heap.size+1) 33 cs (0,0) _ _ rfl rfl (setRow_heap _ _ _ _ _ _ r5) Tryz.underlying33 rfl (by rw[e1.out];exact size33)) rfl ?_;have hR:R=R2:=hF.out.trans (if_pos (by simp));rw[hR];exact e4.out
theorem do_k2(B db:Nat)(vv ev dv mv:Value)(g:Gr)(vc:Value)(c:Ch)(w:World)(h:DrV w B db vv ev dv mv g)(hg:Ok g)(hk:c.kind=2)(hc:∀W,KD B w W->CV W vc c)(_hlen:c.ends.length<=1000000/\c.deps.length<=1000000):
  Calls Tryz.prog 61 #[.pointer (some ⟨db,0,none⟩),vc] w (ActPost B db w (actF g c)):=by
 have hvl:=hg.vlen;have hel:=hg.elen;obtain⟨mb,x5,x6,x9,rfl,hmb,hmap,c5,c6,c9⟩:=h.m;obtain⟨ah,bh,ac,bc,w1,rfl,hw1h,hB,hK1,hDr,hKD,hcell,hrx,hcr,hmapW,hbare⟩:=do_pre h hc hmap;have hact:=Hd (fun(W:World) (b0:Below w1.heap.size w1 W)=>((act2_any B db vv ev dv (.map (some mb)) g _ c W (hDr.out W b0) hg (fun W2 K=>hc W2 ((hK1.trans (hKD.out W b0)).trans K)) _hlen).mono fun e W' p=>act_lift hB hK1 (hKD.out W b0) hrx.out p));have hlk:=Hd (fun(W:World) (b0:Below w1.heap.size w1 W)=>look_run 2 1 (.func (.func 104) #[] #[]) (hmapW.out W b0) rfl);have hF:Hid (actF g c=if bareF c=true then act2 g c else none):=by
  show _=_;unfold actF actK;simp[hk]
 generalize actF g c=R at *
 generalize act2 g c=R2 at *
 generalize bareF c=x1 at *
 unfold chCells zCells chCells zC zV zE nilS at hw1h;unfold chCells;unfold chCells at hact hbare;rw[hk]at hw1h hcell hcr hact hbare ⊢;have d9:=hcell.out w1 (KD.refl _ _);clear hc h hmap;clear d9;clear hk;cases x1 with
 | false =>
  clear hact;go_enter Tryz.func61,Tryz.ntmps61;go_wp2_with fail;rw[<-hw1h.out];refine q_region (fun w':World=>Below w1.heap.size w1 w') (by kernel_rfl) (by kernel_rfl) ((Below.refl _ _).drew) ?_;repeat (refine q_take (v:=?_) (by rfl) ?_ ?_;rotate_left;(first|((intro w h;clear h;go_simp)<;>with_reducible rfl)|((intro w h;obtain⟨d3,d0⟩:=hcr.out w h;go_simp)<;>with_reducible rfl)|((intro w h;have hl:=hlk.out w h;go_simp)<;>with_reducible rfl));try simp only[Act.put,zT,z0,zS])
  refine q_nil ?_;intro wq hHeld;obtain⟨s0,s1,s2,s3,s4,s5,s6,s7,s8,s9,s10,s11,s12⟩:=hcell.out _ (hKD.out _ hHeld);go_wp2_with fail;with_reducible refine(hbare.out _ hHeld).mono ?_
  rintro e w3 ⟨rfl,b⟩;have h3:Below w1.heap.size w1 w3:=hHeld.trans (b.mono hHeld.size);have r3:=hrx.out _ (hKD.out _ h3)
  go_wp2_with (refine wpList_store_row rfl 33 (.tmp 4) (.tmp 25) rfl (w.heap.size+1) zCells rfl rfl 33 _ (r3) (info33 _ _ _) rfl z_all ?_)
  refine bodyPost_ret (results_cell_tmp_row (fn:=Tryz.f61) rfl _ _ (w.heap.size+1) 33 zCells (0,0) _ _ rfl rfl (setRow_heap _ _ _ _ _ _ r3) Tryz.underlying33 rfl (info33 _ _ _)) rfl ?_;exact fin_none hB hK1 (hKD.out _ h3) _ (hF.out.trans (by simp))
 | true =>
  go_enter Tryz.func61,Tryz.ntmps61;go_wp2_with fail;rw[<-hw1h.out];refine q_region (fun w':World=>Below w1.heap.size w1 w') (by kernel_rfl) (by kernel_rfl) ((Below.refl _ _).drew) ?_;repeat (refine q_take (v:=?_) (by rfl) ?_ ?_;rotate_left;(first|((intro w h;clear h;go_simp)<;>with_reducible rfl)|((intro w h;obtain⟨d3,d0⟩:=hcr.out w h;go_simp)<;>with_reducible rfl)|((intro w h;have hl:=hlk.out w h;go_simp)<;>with_reducible rfl));try simp only[Act.put,zT,z0,zS])
  refine q_nil ?_;intro wq hHeld;obtain⟨s0,s1,s2,s3,s4,s5,s6,s7,s8,s9,s10,s11,s12⟩:=hcell.out _ (hKD.out _ hHeld);go_wp2_with fail;with_reducible refine(hbare.out _ hHeld).mono ?_
  rintro e w3 ⟨rfl,b⟩;have h3:Below w1.heap.size w1 w3:=hHeld.trans (b.mono hHeld.size);clear b;obtain⟨s0,s1,s2,s3,s4,s5,s6,s7,s8,s9,s10,s11,s12⟩:=hcell.out _ (hKD.out _ h3);go_wp2_with fail;with_reducible refine(hact.out _ h3).mono ?_
  rintro e w5 ⟨cs,flag,rfl,e1,e2,e3,e4⟩;have r5:=e3.out
  go_wp2_with (refine wpList_store_row rfl 33 (.tmp 4) (.tmp 30) rfl (w.heap.size+1) cs rfl rfl 33 _ r5 (by rw[e1.out];exact size33) (by rw[e1.out];rfl) e2.out ?_)
  refine bodyPost_ret (results_cell_tmp_row (fn:=Tryz.f61) rfl _ _ (w.heap.size+1) 33 cs (0,0) _ _ rfl rfl (setRow_heap _ _ _ _ _ _ r5) Tryz.underlying33 rfl (by rw[e1.out];exact size33)) rfl ?_;have hR:R=R2:=hF.out.trans (if_pos (by simp));rw[hR];exact e4.out
theorem do_k3(B db:Nat)(vv ev dv mv:Value)(g:Gr)(vc:Value)(c:Ch)(w:World)(h:DrV w B db vv ev dv mv g)(hg:Ok g)(hk:c.kind=3)(hc:∀W,KD B w W->CV W vc c)(_hlen:c.ends.length<=1000000/\c.deps.length<=1000000):
  Calls Tryz.prog 61 #[.pointer (some ⟨db,0,none⟩),vc] w (ActPost B db w (actF g c)):=by
 have hvl:=hg.vlen;have hel:=hg.elen;obtain⟨mb,x5,x6,x9,rfl,hmb,hmap,c5,c6,c9⟩:=h.m;obtain⟨ah,bh,ac,bc,w1,rfl,hw1h,hB,hK1,hDr,hKD,hcell,hrx,hcr,hmapW,hbare⟩:=do_pre h hc hmap;have hact:=Hd (fun(W:World) (b0:Below w1.heap.size w1 W)=>((act3_any B db vv ev dv (.map (some mb)) g _ c W (hDr.out W b0) hg (fun W2 K=>hc W2 ((hK1.trans (hKD.out W b0)).trans K)) _hlen).mono fun e W' p=>act_lift hB hK1 (hKD.out W b0) hrx.out p));have hlk:=Hd (fun(W:World) (b0:Below w1.heap.size w1 W)=>look_run 3 2 (.func (.func 105) #[] #[]) (hmapW.out W b0) rfl);have hF:Hid (actF g c=if bareF c=true then act3 g c else none):=by
  show _=_;unfold actF actK;simp[hk]
 generalize actF g c=R at *
 generalize act3 g c=R2 at *
 generalize bareF c=x1 at *
 unfold chCells zCells chCells zC zV zE nilS at hw1h;unfold chCells;unfold chCells at hact hbare;rw[hk]at hw1h hcell hcr hact hbare ⊢;have d9:=hcell.out w1 (KD.refl _ _);clear hc h hmap;clear d9;clear hk;cases x1 with
 | false =>
  clear hact;go_enter Tryz.func61,Tryz.ntmps61;go_wp2_with fail;rw[<-hw1h.out];refine q_region (fun w':World=>Below w1.heap.size w1 w') (by kernel_rfl) (by kernel_rfl) ((Below.refl _ _).drew) ?_;repeat (refine q_take (v:=?_) (by rfl) ?_ ?_;rotate_left;(first|((intro w h;clear h;go_simp)<;>with_reducible rfl)|((intro w h;obtain⟨d3,d0⟩:=hcr.out w h;go_simp)<;>with_reducible rfl)|((intro w h;have hl:=hlk.out w h;go_simp)<;>with_reducible rfl));try simp only[Act.put,zT,z0,zS])
  refine q_nil ?_;intro wq hHeld;obtain⟨s0,s1,s2,s3,s4,s5,s6,s7,s8,s9,s10,s11,s12⟩:=hcell.out _ (hKD.out _ hHeld);go_wp2_with fail;with_reducible refine(hbare.out _ hHeld).mono ?_
  rintro e w3 ⟨rfl,b⟩;have h3:Below w1.heap.size w1 w3:=hHeld.trans (b.mono hHeld.size);have r3:=hrx.out _ (hKD.out _ h3)
  go_wp2_with (refine wpList_store_row rfl 33 (.tmp 4) (.tmp 25) rfl (w.heap.size+1) zCells rfl rfl 33 _ (r3) (info33 _ _ _) rfl z_all ?_)
  refine bodyPost_ret (results_cell_tmp_row (fn:=Tryz.f61) rfl _ _ (w.heap.size+1) 33 zCells (0,0) _ _ rfl rfl (setRow_heap _ _ _ _ _ _ r3) Tryz.underlying33 rfl (info33 _ _ _)) rfl ?_;exact fin_none hB hK1 (hKD.out _ h3) _ (hF.out.trans (by simp))
 | true =>
  go_enter Tryz.func61,Tryz.ntmps61;go_wp2_with fail;rw[<-hw1h.out];refine q_region (fun w':World=>Below w1.heap.size w1 w') (by kernel_rfl) (by kernel_rfl) ((Below.refl _ _).drew) ?_;repeat (refine q_take (v:=?_) (by rfl) ?_ ?_;rotate_left;(first|((intro w h;clear h;go_simp)<;>with_reducible rfl)|((intro w h;obtain⟨d3,d0⟩:=hcr.out w h;go_simp)<;>with_reducible rfl)|((intro w h;have hl:=hlk.out w h;go_simp)<;>with_reducible rfl));try simp only[Act.put,zT,z0,zS])
  refine q_nil ?_;intro wq hHeld;obtain⟨s0,s1,s2,s3,s4,s5,s6,s7,s8,s9,s10,s11,s12⟩:=hcell.out _ (hKD.out _ hHeld);go_wp2_with fail;with_reducible refine(hbare.out _ hHeld).mono ?_
  rintro e w3 ⟨rfl,b⟩;have h3:Below w1.heap.size w1 w3:=hHeld.trans (b.mono hHeld.size);clear b;obtain⟨s0,s1,s2,s3,s4,s5,s6,s7,s8,s9,s10,s11,s12⟩:=hcell.out _ (hKD.out _ h3);go_wp2_with fail;with_reducible refine(hact.out _ h3).mono ?_
  rintro e w5 ⟨cs,flag,rfl,e1,e2,e3,e4⟩;have r5:=e3.out
  go_wp2_with (refine wpList_store_row rfl 33 (.tmp 4) (.tmp 30) rfl (w.heap.size+1) cs rfl rfl 33 _ r5 (by rw[e1.out];exact size33) (by rw[e1.out];rfl) e2.out ?_)
  refine bodyPost_ret (results_cell_tmp_row (fn:=Tryz.f61) rfl _ _ (w.heap.size+1) 33 cs (0,0) _ _ rfl rfl (setRow_heap _ _ _ _ _ _ r5) Tryz.underlying33 rfl (by rw[e1.out];exact size33)) rfl ?_;have hR:R=R2:=hF.out.trans (if_pos (by simp));rw[hR];exact e4.out
theorem do_k4(B db:Nat)(vv ev dv mv:Value)(g:Gr)(vc:Value)(c:Ch)(w:World)(h:DrV w B db vv ev dv mv g)(hg:Ok g)(hk:c.kind=4)(hc:∀W,KD B w W->CV W vc c)(_hlen:c.ends.length<=1000000/\c.deps.length<=1000000):
  Calls Tryz.prog 61 #[.pointer (some ⟨db,0,none⟩),vc] w (ActPost B db w (actF g c)):=by
 have hvl:=hg.vlen;have hel:=hg.elen;obtain⟨mb,x5,x6,x9,rfl,hmb,hmap,c5,c6,c9⟩:=h.m;obtain⟨ah,bh,ac,bc,w1,rfl,hw1h,hB,hK1,hDr,hKD,hcell,hrx,hcr,hmapW,hbare⟩:=do_pre h hc hmap;have hact:=Hd (fun(W:World) (b0:Below w1.heap.size w1 W)=>((act4_any B db vv ev dv (.map (some mb)) g _ c W (hDr.out W b0) hg (fun W2 K=>hc W2 ((hK1.trans (hKD.out W b0)).trans K)) _hlen).mono fun e W' p=>act_lift hB hK1 (hKD.out W b0) hrx.out p));have hlk:=Hd (fun(W:World) (b0:Below w1.heap.size w1 W)=>look_run 4 3 (.func (.func 106) #[] #[]) (hmapW.out W b0) rfl);have hF:Hid (actF g c=if bareF c=true then act4 g c else none):=by
  show _=_;unfold actF actK;simp[hk]
 generalize actF g c=R at *
 generalize act4 g c=R2 at *
 generalize bareF c=x1 at *
 unfold chCells zCells chCells zC zV zE nilS at hw1h;unfold chCells;unfold chCells at hact hbare;rw[hk]at hw1h hcell hcr hact hbare ⊢;have d9:=hcell.out w1 (KD.refl _ _);clear hc h hmap;clear d9;clear hk;cases x1 with
 | false =>
  clear hact;go_enter Tryz.func61,Tryz.ntmps61;go_wp2_with fail;rw[<-hw1h.out];refine q_region (fun w':World=>Below w1.heap.size w1 w') (by kernel_rfl) (by kernel_rfl) ((Below.refl _ _).drew) ?_;repeat (refine q_take (v:=?_) (by rfl) ?_ ?_;rotate_left;(first|((intro w h;clear h;go_simp)<;>with_reducible rfl)|((intro w h;obtain⟨d3,d0⟩:=hcr.out w h;go_simp)<;>with_reducible rfl)|((intro w h;have hl:=hlk.out w h;go_simp)<;>with_reducible rfl));try simp only[Act.put,zT,z0,zS])
  refine q_nil ?_;intro wq hHeld;obtain⟨s0,s1,s2,s3,s4,s5,s6,s7,s8,s9,s10,s11,s12⟩:=hcell.out _ (hKD.out _ hHeld);go_wp2_with fail;with_reducible refine(hbare.out _ hHeld).mono ?_
  rintro e w3 ⟨rfl,b⟩;have h3:Below w1.heap.size w1 w3:=hHeld.trans (b.mono hHeld.size);have r3:=hrx.out _ (hKD.out _ h3)
  go_wp2_with (refine wpList_store_row rfl 33 (.tmp 4) (.tmp 25) rfl (w.heap.size+1) zCells rfl rfl 33 _ (r3) (info33 _ _ _) rfl z_all ?_)
  refine bodyPost_ret (results_cell_tmp_row (fn:=Tryz.f61) rfl _ _ (w.heap.size+1) 33 zCells (0,0) _ _ rfl rfl (setRow_heap _ _ _ _ _ _ r3) Tryz.underlying33 rfl (info33 _ _ _)) rfl ?_;exact fin_none hB hK1 (hKD.out _ h3) _ (hF.out.trans (by simp))
 | true =>
  go_enter Tryz.func61,Tryz.ntmps61;go_wp2_with fail;rw[<-hw1h.out];refine q_region (fun w':World=>Below w1.heap.size w1 w') (by kernel_rfl) (by kernel_rfl) ((Below.refl _ _).drew) ?_;repeat (refine q_take (v:=?_) (by rfl) ?_ ?_;rotate_left;(first|((intro w h;clear h;go_simp)<;>with_reducible rfl)|((intro w h;obtain⟨d3,d0⟩:=hcr.out w h;go_simp)<;>with_reducible rfl)|((intro w h;have hl:=hlk.out w h;go_simp)<;>with_reducible rfl));try simp only[Act.put,zT,z0,zS])
  refine q_nil ?_;intro wq hHeld;obtain⟨s0,s1,s2,s3,s4,s5,s6,s7,s8,s9,s10,s11,s12⟩:=hcell.out _ (hKD.out _ hHeld);go_wp2_with fail;with_reducible refine(hbare.out _ hHeld).mono ?_
  rintro e w3 ⟨rfl,b⟩;have h3:Below w1.heap.size w1 w3:=hHeld.trans (b.mono hHeld.size);clear b;obtain⟨s0,s1,s2,s3,s4,s5,s6,s7,s8,s9,s10,s11,s12⟩:=hcell.out _ (hKD.out _ h3);go_wp2_with fail;with_reducible refine(hact.out _ h3).mono ?_
  rintro e w5 ⟨cs,flag,rfl,e1,e2,e3,e4⟩;have r5:=e3.out
  go_wp2_with (refine wpList_store_row rfl 33 (.tmp 4) (.tmp 30) rfl (w.heap.size+1) cs rfl rfl 33 _ r5 (by rw[e1.out];exact size33) (by rw[e1.out];rfl) e2.out ?_)
  refine bodyPost_ret (results_cell_tmp_row (fn:=Tryz.f61) rfl _ _ (w.heap.size+1) 33 cs (0,0) _ _ rfl rfl (setRow_heap _ _ _ _ _ _ r5) Tryz.underlying33 rfl (by rw[e1.out];exact size33)) rfl ?_;have hR:R=R2:=hF.out.trans (if_pos (by simp));rw[hR];exact e4.out
theorem do_k5(B db:Nat)(vv ev dv mv:Value)(g:Gr)(vc:Value)(c:Ch)(w:World)(h:DrV w B db vv ev dv mv g)(hg:Ok g)(hk:c.kind=5)(hc:∀W,KD B w W->CV W vc c)(_hlen:c.ends.length<=1000000/\c.deps.length<=1000000):
  Calls Tryz.prog 61 #[.pointer (some ⟨db,0,none⟩),vc] w (ActPost B db w (actF g c)):=by
 have hvl:=hg.vlen;have hel:=hg.elen;obtain⟨mb,x5,x6,x9,rfl,hmb,hmap,c5,c6,c9⟩:=h.m;obtain⟨ah,bh,ac,bc,w1,rfl,hw1h,hB,hK1,hDr,hKD,hcell,hrx,hcr,hmapW,hbare⟩:=do_pre h hc hmap;obtain⟨q,rfl,hqB,q1,q2,q3⟩:=c5;have hact:=Hd (fun(W:World) (b0:Below w1.heap.size w1 W)=>((act5_any B db vv ev dv (.map (some mb)) g _ c W (hDr.out W b0) hg hk q (fun W2 K=>⟨((hK1.trans (hKD.out W b0)).trans K).keep _ _ q1 rfl,((hK1.trans (hKD.out W b0)).trans K).keep _ _ q2 rfl,((hK1.trans (hKD.out W b0)).trans K).keep _ _ q3 rfl⟩) (fun W2 K=>hc W2 ((hK1.trans (hKD.out W b0)).trans K)) _hlen).mono fun e W' p=>act_lift hB hK1 (hKD.out W b0) hrx.out p));have hlk:=Hd (fun(W:World) (b0:Below w1.heap.size w1 W)=>look_run 5 4 (.func (.func 131) #[] #[.pointer (some ⟨q+2,0,none⟩),.pointer (some ⟨q,0,none⟩),.pointer (some ⟨q+1,0,none⟩)]) (hmapW.out W b0) rfl);have hF:Hid (actF g c=if bareF c=true then act5 g c else none):=by
  show _=_;unfold actF actK;simp[hk]
 generalize actF g c=R at *
 generalize act5 g c=R2 at *
 generalize bareF c=x1 at *
 unfold chCells zCells chCells zC zV zE nilS at hw1h;unfold chCells;unfold chCells at hact hbare;rw[hk]at hw1h hcell hcr hact hbare ⊢;have d9:=hcell.out w1 (KD.refl _ _);clear hc h hmap;clear d9;clear hk;cases x1 with
 | false =>
  clear hact;go_enter Tryz.func61,Tryz.ntmps61;go_wp2_with fail;rw[<-hw1h.out];refine q_region (fun w':World=>Below w1.heap.size w1 w') (by kernel_rfl) (by kernel_rfl) ((Below.refl _ _).drew) ?_;repeat (refine q_take (v:=?_) (by rfl) ?_ ?_;rotate_left;(first|((intro w h;clear h;go_simp)<;>with_reducible rfl)|((intro w h;obtain⟨d3,d0⟩:=hcr.out w h;go_simp)<;>with_reducible rfl)|((intro w h;have hl:=hlk.out w h;go_simp)<;>with_reducible rfl));try simp only[Act.put,zT,z0,zS])
  refine q_nil ?_;intro wq hHeld;obtain⟨s0,s1,s2,s3,s4,s5,s6,s7,s8,s9,s10,s11,s12⟩:=hcell.out _ (hKD.out _ hHeld);go_wp2_with fail;with_reducible refine(hbare.out _ hHeld).mono ?_
  rintro e w3 ⟨rfl,b⟩;have h3:Below w1.heap.size w1 w3:=hHeld.trans (b.mono hHeld.size);have r3:=hrx.out _ (hKD.out _ h3)
  go_wp2_with (refine wpList_store_row rfl 33 (.tmp 4) (.tmp 25) rfl (w.heap.size+1) zCells rfl rfl 33 _ (r3) (info33 _ _ _) rfl z_all ?_)
  refine bodyPost_ret (results_cell_tmp_row (fn:=Tryz.f61) rfl _ _ (w.heap.size+1) 33 zCells (0,0) _ _ rfl rfl (setRow_heap _ _ _ _ _ _ r3) Tryz.underlying33 rfl (info33 _ _ _)) rfl ?_;exact fin_none hB hK1 (hKD.out _ h3) _ (hF.out.trans (by simp))
 | true =>
  go_enter Tryz.func61,Tryz.ntmps61;go_wp2_with fail;rw[<-hw1h.out];refine q_region (fun w':World=>Below w1.heap.size w1 w') (by kernel_rfl) (by kernel_rfl) ((Below.refl _ _).drew) ?_;repeat (refine q_take (v:=?_) (by rfl) ?_ ?_;rotate_left;(first|((intro w h;clear h;go_simp)<;>with_reducible rfl)|((intro w h;obtain⟨d3,d0⟩:=hcr.out w h;go_simp)<;>with_reducible rfl)|((intro w h;have hl:=hlk.out w h;go_simp)<;>with_reducible rfl));try simp only[Act.put,zT,z0,zS])
  refine q_nil ?_;intro wq hHeld;obtain⟨s0,s1,s2,s3,s4,s5,s6,s7,s8,s9,s10,s11,s12⟩:=hcell.out _ (hKD.out _ hHeld);go_wp2_with fail;with_reducible refine(hbare.out _ hHeld).mono ?_
  rintro e w3 ⟨rfl,b⟩;have h3:Below w1.heap.size w1 w3:=hHeld.trans (b.mono hHeld.size);clear b;obtain⟨s0,s1,s2,s3,s4,s5,s6,s7,s8,s9,s10,s11,s12⟩:=hcell.out _ (hKD.out _ h3);go_wp2_with fail;with_reducible refine(hact.out _ h3).mono ?_
  rintro e w5 ⟨cs,flag,rfl,e1,e2,e3,e4⟩;have r5:=e3.out
  go_wp2_with (refine wpList_store_row rfl 33 (.tmp 4) (.tmp 30) rfl (w.heap.size+1) cs rfl rfl 33 _ r5 (by rw[e1.out];exact size33) (by rw[e1.out];rfl) e2.out ?_)
  refine bodyPost_ret (results_cell_tmp_row (fn:=Tryz.f61) rfl _ _ (w.heap.size+1) 33 cs (0,0) _ _ rfl rfl (setRow_heap _ _ _ _ _ _ r5) Tryz.underlying33 rfl (by rw[e1.out];exact size33)) rfl ?_;have hR:R=R2:=hF.out.trans (if_pos (by simp));rw[hR];exact e4.out
theorem do_k6(B db:Nat)(vv ev dv mv:Value)(g:Gr)(vc:Value)(c:Ch)(w:World)(h:DrV w B db vv ev dv mv g)(hg:Ok g)(hk:c.kind=6)(hc:∀W,KD B w W->CV W vc c)(_hlen:c.ends.length<=1000000/\c.deps.length<=1000000):
  Calls Tryz.prog 61 #[.pointer (some ⟨db,0,none⟩),vc] w (ActPost B db w (actF g c)):=by
 have hvl:=hg.vlen;have hel:=hg.elen;obtain⟨mb,x5,x6,x9,rfl,hmb,hmap,c5,c6,c9⟩:=h.m;obtain⟨ah,bh,ac,bc,w1,rfl,hw1h,hB,hK1,hDr,hKD,hcell,hrx,hcr,hmapW,hbare⟩:=do_pre h hc hmap;obtain⟨q,rfl,hqB,q1,q2,q3⟩:=c6;have hact:=Hd (fun(W:World) (b0:Below w1.heap.size w1 W)=>((act6_any B db vv ev dv (.map (some mb)) g _ c W (hDr.out W b0) hg hk q (fun W2 K=>⟨((hK1.trans (hKD.out W b0)).trans K).keep _ _ q1 rfl,((hK1.trans (hKD.out W b0)).trans K).keep _ _ q2 rfl,((hK1.trans (hKD.out W b0)).trans K).keep _ _ q3 rfl⟩) (fun W2 K=>hc W2 ((hK1.trans (hKD.out W b0)).trans K)) _hlen).mono fun e W' p=>act_lift hB hK1 (hKD.out W b0) hrx.out p));have hlk:=Hd (fun(W:World) (b0:Below w1.heap.size w1 W)=>look_run 6 5 (.func (.func 131) #[] #[.pointer (some ⟨q+2,0,none⟩),.pointer (some ⟨q,0,none⟩),.pointer (some ⟨q+1,0,none⟩)]) (hmapW.out W b0) rfl);have hF:Hid (actF g c=if bareF c=true then act6 g c else none):=by
  show _=_;unfold actF actK;simp[hk]
 generalize actF g c=R at *
 generalize act6 g c=R2 at *
 generalize bareF c=x1 at *
 unfold chCells zCells chCells zC zV zE nilS at hw1h;unfold chCells;unfold chCells at hact hbare;rw[hk]at hw1h hcell hcr hact hbare ⊢;have d9:=hcell.out w1 (KD.refl _ _);clear hc h hmap;clear d9;clear hk;cases x1 with
 | false =>
  clear hact;go_enter Tryz.func61,Tryz.ntmps61;go_wp2_with fail;rw[<-hw1h.out];refine q_region (fun w':World=>Below w1.heap.size w1 w') (by kernel_rfl) (by kernel_rfl) ((Below.refl _ _).drew) ?_;repeat (refine q_take (v:=?_) (by rfl) ?_ ?_;rotate_left;(first|((intro w h;clear h;go_simp)<;>with_reducible rfl)|((intro w h;obtain⟨d3,d0⟩:=hcr.out w h;go_simp)<;>with_reducible rfl)|((intro w h;have hl:=hlk.out w h;go_simp)<;>with_reducible rfl));try simp only[Act.put,zT,z0,zS])
  refine q_nil ?_;intro wq hHeld;obtain⟨s0,s1,s2,s3,s4,s5,s6,s7,s8,s9,s10,s11,s12⟩:=hcell.out _ (hKD.out _ hHeld);go_wp2_with fail;with_reducible refine(hbare.out _ hHeld).mono ?_
  rintro e w3 ⟨rfl,b⟩;have h3:Below w1.heap.size w1 w3:=hHeld.trans (b.mono hHeld.size);have r3:=hrx.out _ (hKD.out _ h3)
  go_wp2_with (refine wpList_store_row rfl 33 (.tmp 4) (.tmp 25) rfl (w.heap.size+1) zCells rfl rfl 33 _ (r3) (info33 _ _ _) rfl z_all ?_)
  refine bodyPost_ret (results_cell_tmp_row (fn:=Tryz.f61) rfl _ _ (w.heap.size+1) 33 zCells (0,0) _ _ rfl rfl (setRow_heap _ _ _ _ _ _ r3) Tryz.underlying33 rfl (info33 _ _ _)) rfl ?_;exact fin_none hB hK1 (hKD.out _ h3) _ (hF.out.trans (by simp))
 | true =>
  go_enter Tryz.func61,Tryz.ntmps61;go_wp2_with fail;rw[<-hw1h.out];refine q_region (fun w':World=>Below w1.heap.size w1 w') (by kernel_rfl) (by kernel_rfl) ((Below.refl _ _).drew) ?_;repeat (refine q_take (v:=?_) (by rfl) ?_ ?_;rotate_left;(first|((intro w h;clear h;go_simp)<;>with_reducible rfl)|((intro w h;obtain⟨d3,d0⟩:=hcr.out w h;go_simp)<;>with_reducible rfl)|((intro w h;have hl:=hlk.out w h;go_simp)<;>with_reducible rfl));try simp only[Act.put,zT,z0,zS])
  refine q_nil ?_;intro wq hHeld;obtain⟨s0,s1,s2,s3,s4,s5,s6,s7,s8,s9,s10,s11,s12⟩:=hcell.out _ (hKD.out _ hHeld);go_wp2_with fail;with_reducible refine(hbare.out _ hHeld).mono ?_
  rintro e w3 ⟨rfl,b⟩;have h3:Below w1.heap.size w1 w3:=hHeld.trans (b.mono hHeld.size);clear b;obtain⟨s0,s1,s2,s3,s4,s5,s6,s7,s8,s9,s10,s11,s12⟩:=hcell.out _ (hKD.out _ h3);go_wp2_with fail;with_reducible refine(hact.out _ h3).mono ?_
  rintro e w5 ⟨cs,flag,rfl,e1,e2,e3,e4⟩;have r5:=e3.out
  go_wp2_with (refine wpList_store_row rfl 33 (.tmp 4) (.tmp 30) rfl (w.heap.size+1) cs rfl rfl 33 _ r5 (by rw[e1.out];exact size33) (by rw[e1.out];rfl) e2.out ?_)
  refine bodyPost_ret (results_cell_tmp_row (fn:=Tryz.f61) rfl _ _ (w.heap.size+1) 33 cs (0,0) _ _ rfl rfl (setRow_heap _ _ _ _ _ _ r5) Tryz.underlying33 rfl (by rw[e1.out];exact size33)) rfl ?_;have hR:R=R2:=hF.out.trans (if_pos (by simp));rw[hR];exact e4.out
theorem do_k7(B db:Nat)(vv ev dv mv:Value)(g:Gr)(vc:Value)(c:Ch)(w:World)(h:DrV w B db vv ev dv mv g)(hg:Ok g)(hk:c.kind=7)(hc:∀W,KD B w W->CV W vc c)(_hlen:c.ends.length<=1000000/\c.deps.length<=1000000):
  Calls Tryz.prog 61 #[.pointer (some ⟨db,0,none⟩),vc] w (ActPost B db w (actF g c)):=by
 have hvl:=hg.vlen;have hel:=hg.elen;obtain⟨mb,x5,x6,x9,rfl,hmb,hmap,c5,c6,c9⟩:=h.m;obtain⟨ah,bh,ac,bc,w1,rfl,hw1h,hB,hK1,hDr,hKD,hcell,hrx,hcr,hmapW,hbare⟩:=do_pre h hc hmap;have hact:=Hd (fun(W:World) (b0:Below w1.heap.size w1 W)=>((act7_any B db vv ev dv (.map (some mb)) g _ c W (hDr.out W b0) hg (fun W2 K=>hc W2 ((hK1.trans (hKD.out W b0)).trans K)) _hlen).mono fun e W' p=>act_lift hB hK1 (hKD.out W b0) hrx.out p));have hlk:=Hd (fun(W:World) (b0:Below w1.heap.size w1 W)=>look_run 7 6 (.func (.func 110) #[] #[]) (hmapW.out W b0) rfl);have hF:Hid (actF g c=if bareF c=true then act7 g c else none):=by
  show _=_;unfold actF actK;simp[hk]
 generalize actF g c=R at *
 generalize act7 g c=R2 at *
 generalize bareF c=x1 at *
 unfold chCells zCells chCells zC zV zE nilS at hw1h;unfold chCells;unfold chCells at hact hbare;rw[hk]at hw1h hcell hcr hact hbare ⊢;have d9:=hcell.out w1 (KD.refl _ _);clear hc h hmap;clear d9;clear hk;cases x1 with
 | false =>
  clear hact;go_enter Tryz.func61,Tryz.ntmps61;go_wp2_with fail;rw[<-hw1h.out];refine q_region (fun w':World=>Below w1.heap.size w1 w') (by kernel_rfl) (by kernel_rfl) ((Below.refl _ _).drew) ?_;repeat (refine q_take (v:=?_) (by rfl) ?_ ?_;rotate_left;(first|((intro w h;clear h;go_simp)<;>with_reducible rfl)|((intro w h;obtain⟨d3,d0⟩:=hcr.out w h;go_simp)<;>with_reducible rfl)|((intro w h;have hl:=hlk.out w h;go_simp)<;>with_reducible rfl));try simp only[Act.put,zT,z0,zS])
  refine q_nil ?_;intro wq hHeld;obtain⟨s0,s1,s2,s3,s4,s5,s6,s7,s8,s9,s10,s11,s12⟩:=hcell.out _ (hKD.out _ hHeld);go_wp2_with fail;with_reducible refine(hbare.out _ hHeld).mono ?_
  rintro e w3 ⟨rfl,b⟩;have h3:Below w1.heap.size w1 w3:=hHeld.trans (b.mono hHeld.size);have r3:=hrx.out _ (hKD.out _ h3)
  go_wp2_with (refine wpList_store_row rfl 33 (.tmp 4) (.tmp 25) rfl (w.heap.size+1) zCells rfl rfl 33 _ (r3) (info33 _ _ _) rfl z_all ?_)
  refine bodyPost_ret (results_cell_tmp_row (fn:=Tryz.f61) rfl _ _ (w.heap.size+1) 33 zCells (0,0) _ _ rfl rfl (setRow_heap _ _ _ _ _ _ r3) Tryz.underlying33 rfl (info33 _ _ _)) rfl ?_;exact fin_none hB hK1 (hKD.out _ h3) _ (hF.out.trans (by simp))
 | true =>
  go_enter Tryz.func61,Tryz.ntmps61;go_wp2_with fail;rw[<-hw1h.out];refine q_region (fun w':World=>Below w1.heap.size w1 w') (by kernel_rfl) (by kernel_rfl) ((Below.refl _ _).drew) ?_;repeat (refine q_take (v:=?_) (by rfl) ?_ ?_;rotate_left;(first|((intro w h;clear h;go_simp)<;>with_reducible rfl)|((intro w h;obtain⟨d3,d0⟩:=hcr.out w h;go_simp)<;>with_reducible rfl)|((intro w h;have hl:=hlk.out w h;go_simp)<;>with_reducible rfl));try simp only[Act.put,zT,z0,zS])
  refine q_nil ?_;intro wq hHeld;obtain⟨s0,s1,s2,s3,s4,s5,s6,s7,s8,s9,s10,s11,s12⟩:=hcell.out _ (hKD.out _ hHeld);go_wp2_with fail;with_reducible refine(hbare.out _ hHeld).mono ?_
  rintro e w3 ⟨rfl,b⟩;have h3:Below w1.heap.size w1 w3:=hHeld.trans (b.mono hHeld.size);clear b;obtain⟨s0,s1,s2,s3,s4,s5,s6,s7,s8,s9,s10,s11,s12⟩:=hcell.out _ (hKD.out _ h3);go_wp2_with fail;with_reducible refine(hact.out _ h3).mono ?_
  rintro e w5 ⟨cs,flag,rfl,e1,e2,e3,e4⟩;have r5:=e3.out
  go_wp2_with (refine wpList_store_row rfl 33 (.tmp 4) (.tmp 30) rfl (w.heap.size+1) cs rfl rfl 33 _ r5 (by rw[e1.out];exact size33) (by rw[e1.out];rfl) e2.out ?_)
  refine bodyPost_ret (results_cell_tmp_row (fn:=Tryz.f61) rfl _ _ (w.heap.size+1) 33 cs (0,0) _ _ rfl rfl (setRow_heap _ _ _ _ _ _ r5) Tryz.underlying33 rfl (by rw[e1.out];exact size33)) rfl ?_;have hR:R=R2:=hF.out.trans (if_pos (by simp));rw[hR];exact e4.out
theorem do_k8(B db:Nat)(vv ev dv mv:Value)(g:Gr)(vc:Value)(c:Ch)(w:World)(h:DrV w B db vv ev dv mv g)(hg:Ok g)(hk:c.kind=8)(hc:∀W,KD B w W->CV W vc c)(_hlen:c.ends.length<=1000000/\c.deps.length<=1000000):
  Calls Tryz.prog 61 #[.pointer (some ⟨db,0,none⟩),vc] w (ActPost B db w (actF g c)):=by
 have hvl:=hg.vlen;have hel:=hg.elen;obtain⟨mb,x5,x6,x9,rfl,hmb,hmap,c5,c6,c9⟩:=h.m;obtain⟨ah,bh,ac,bc,w1,rfl,hw1h,hB,hK1,hDr,hKD,hcell,hrx,hcr,hmapW,hbare⟩:=do_pre h hc hmap;have hact:=Hd (fun(W:World) (b0:Below w1.heap.size w1 W)=>((act8_any B db vv ev dv (.map (some mb)) g _ c W (hDr.out W b0) hg (fun W2 K=>hc W2 ((hK1.trans (hKD.out W b0)).trans K)) _hlen).mono fun e W' p=>act_lift hB hK1 (hKD.out W b0) hrx.out p));have hlk:=Hd (fun(W:World) (b0:Below w1.heap.size w1 W)=>look_run 8 7 (.func (.func 111) #[] #[]) (hmapW.out W b0) rfl);have hF:Hid (actF g c=if bareF c=true then act8 g c else none):=by
  show _=_;unfold actF actK;simp[hk]
 generalize actF g c=R at *
 generalize act8 g c=R2 at *
 generalize bareF c=x1 at *
 unfold chCells zCells chCells zC zV zE nilS at hw1h;unfold chCells;unfold chCells at hact hbare;rw[hk]at hw1h hcell hcr hact hbare ⊢;have d9:=hcell.out w1 (KD.refl _ _);clear hc h hmap;clear d9;clear hk;cases x1 with
 | false =>
  clear hact;go_enter Tryz.func61,Tryz.ntmps61;go_wp2_with fail;rw[<-hw1h.out];refine q_region (fun w':World=>Below w1.heap.size w1 w') (by kernel_rfl) (by kernel_rfl) ((Below.refl _ _).drew) ?_;repeat (refine q_take (v:=?_) (by rfl) ?_ ?_;rotate_left;(first|((intro w h;clear h;go_simp)<;>with_reducible rfl)|((intro w h;obtain⟨d3,d0⟩:=hcr.out w h;go_simp)<;>with_reducible rfl)|((intro w h;have hl:=hlk.out w h;go_simp)<;>with_reducible rfl));try simp only[Act.put,zT,z0,zS])
  refine q_nil ?_;intro wq hHeld;obtain⟨s0,s1,s2,s3,s4,s5,s6,s7,s8,s9,s10,s11,s12⟩:=hcell.out _ (hKD.out _ hHeld);go_wp2_with fail;with_reducible refine(hbare.out _ hHeld).mono ?_
  rintro e w3 ⟨rfl,b⟩;have h3:Below w1.heap.size w1 w3:=hHeld.trans (b.mono hHeld.size);have r3:=hrx.out _ (hKD.out _ h3)
  go_wp2_with (refine wpList_store_row rfl 33 (.tmp 4) (.tmp 25) rfl (w.heap.size+1) zCells rfl rfl 33 _ (r3) (info33 _ _ _) rfl z_all ?_)
  refine bodyPost_ret (results_cell_tmp_row (fn:=Tryz.f61) rfl _ _ (w.heap.size+1) 33 zCells (0,0) _ _ rfl rfl (setRow_heap _ _ _ _ _ _ r3) Tryz.underlying33 rfl (info33 _ _ _)) rfl ?_;exact fin_none hB hK1 (hKD.out _ h3) _ (hF.out.trans (by simp))
 | true =>
  go_enter Tryz.func61,Tryz.ntmps61;go_wp2_with fail;rw[<-hw1h.out];refine q_region (fun w':World=>Below w1.heap.size w1 w') (by kernel_rfl) (by kernel_rfl) ((Below.refl _ _).drew) ?_;repeat (refine q_take (v:=?_) (by rfl) ?_ ?_;rotate_left;(first|((intro w h;clear h;go_simp)<;>with_reducible rfl)|((intro w h;obtain⟨d3,d0⟩:=hcr.out w h;go_simp)<;>with_reducible rfl)|((intro w h;have hl:=hlk.out w h;go_simp)<;>with_reducible rfl));try simp only[Act.put,zT,z0,zS])
  refine q_nil ?_;intro wq hHeld;obtain⟨s0,s1,s2,s3,s4,s5,s6,s7,s8,s9,s10,s11,s12⟩:=hcell.out _ (hKD.out _ hHeld);go_wp2_with fail;with_reducible refine(hbare.out _ hHeld).mono ?_
  rintro e w3 ⟨rfl,b⟩;have h3:Below w1.heap.size w1 w3:=hHeld.trans (b.mono hHeld.size);clear b;obtain⟨s0,s1,s2,s3,s4,s5,s6,s7,s8,s9,s10,s11,s12⟩:=hcell.out _ (hKD.out _ h3);go_wp2_with fail;with_reducible refine(hact.out _ h3).mono ?_
  rintro e w5 ⟨cs,flag,rfl,e1,e2,e3,e4⟩;have r5:=e3.out
  go_wp2_with (refine wpList_store_row rfl 33 (.tmp 4) (.tmp 30) rfl (w.heap.size+1) cs rfl rfl 33 _ r5 (by rw[e1.out];exact size33) (by rw[e1.out];rfl) e2.out ?_)
  refine bodyPost_ret (results_cell_tmp_row (fn:=Tryz.f61) rfl _ _ (w.heap.size+1) 33 cs (0,0) _ _ rfl rfl (setRow_heap _ _ _ _ _ _ r5) Tryz.underlying33 rfl (by rw[e1.out];exact size33)) rfl ?_;have hR:R=R2:=hF.out.trans (if_pos (by simp));rw[hR];exact e4.out
theorem do_k9(B db:Nat)(vv ev dv mv:Value)(g:Gr)(vc:Value)(c:Ch)(w:World)(h:DrV w B db vv ev dv mv g)(hg:Ok g)(hk:c.kind=9)(hc:∀W,KD B w W->CV W vc c)(_hlen:c.ends.length<=1000000/\c.deps.length<=1000000):
  Calls Tryz.prog 61 #[.pointer (some ⟨db,0,none⟩),vc] w (ActPost B db w (actF g c)):=by
 have hvl:=hg.vlen;have hel:=hg.elen;obtain⟨mb,x5,x6,x9,rfl,hmb,hmap,c5,c6,c9⟩:=h.m;obtain⟨ah,bh,ac,bc,w1,rfl,hw1h,hB,hK1,hDr,hKD,hcell,hrx,hcr,hmapW,hbare⟩:=do_pre h hc hmap;obtain⟨q,rfl,hqB,q1,q2,q3⟩:=c9;have hact:=Hd (fun(W:World) (b0:Below w1.heap.size w1 W)=>((act9_any B db vv ev dv (.map (some mb)) g _ c W (hDr.out W b0) hg hk q (fun W2 K=>⟨((hK1.trans (hKD.out W b0)).trans K).keep _ _ q1 rfl,((hK1.trans (hKD.out W b0)).trans K).keep _ _ q2 rfl,((hK1.trans (hKD.out W b0)).trans K).keep _ _ q3 rfl⟩) (fun W2 K=>hc W2 ((hK1.trans (hKD.out W b0)).trans K)) _hlen).mono fun e W' p=>act_lift hB hK1 (hKD.out W b0) hrx.out p));have hlk:=Hd (fun(W:World) (b0:Below w1.heap.size w1 W)=>look_run 9 8 (.func (.func 131) #[] #[.pointer (some ⟨q+2,0,none⟩),.pointer (some ⟨q,0,none⟩),.pointer (some ⟨q+1,0,none⟩)]) (hmapW.out W b0) rfl);have hF:Hid (actF g c=if bareF c=true then act9 g c else none):=by
  show _=_;unfold actF actK;simp[hk]
 generalize actF g c=R at *
 generalize act9 g c=R2 at *
 generalize bareF c=x1 at *
 unfold chCells zCells chCells zC zV zE nilS at hw1h;unfold chCells;unfold chCells at hact hbare;rw[hk]at hw1h hcell hcr hact hbare ⊢;have d9:=hcell.out w1 (KD.refl _ _);clear hc h hmap;clear d9;clear hk;cases x1 with
 | false =>
  clear hact;go_enter Tryz.func61,Tryz.ntmps61;go_wp2_with fail;rw[<-hw1h.out];refine q_region (fun w':World=>Below w1.heap.size w1 w') (by kernel_rfl) (by kernel_rfl) ((Below.refl _ _).drew) ?_;repeat (refine q_take (v:=?_) (by rfl) ?_ ?_;rotate_left;(first|((intro w h;clear h;go_simp)<;>with_reducible rfl)|((intro w h;obtain⟨d3,d0⟩:=hcr.out w h;go_simp)<;>with_reducible rfl)|((intro w h;have hl:=hlk.out w h;go_simp)<;>with_reducible rfl));try simp only[Act.put,zT,z0,zS])
  refine q_nil ?_;intro wq hHeld;obtain⟨s0,s1,s2,s3,s4,s5,s6,s7,s8,s9,s10,s11,s12⟩:=hcell.out _ (hKD.out _ hHeld);go_wp2_with fail;with_reducible refine(hbare.out _ hHeld).mono ?_
  rintro e w3 ⟨rfl,b⟩;have h3:Below w1.heap.size w1 w3:=hHeld.trans (b.mono hHeld.size);have r3:=hrx.out _ (hKD.out _ h3)
  go_wp2_with (refine wpList_store_row rfl 33 (.tmp 4) (.tmp 25) rfl (w.heap.size+1) zCells rfl rfl 33 _ (r3) (info33 _ _ _) rfl z_all ?_)
  refine bodyPost_ret (results_cell_tmp_row (fn:=Tryz.f61) rfl _ _ (w.heap.size+1) 33 zCells (0,0) _ _ rfl rfl (setRow_heap _ _ _ _ _ _ r3) Tryz.underlying33 rfl (info33 _ _ _)) rfl ?_;exact fin_none hB hK1 (hKD.out _ h3) _ (hF.out.trans (by simp))
 | true =>
  go_enter Tryz.func61,Tryz.ntmps61;go_wp2_with fail;rw[<-hw1h.out];refine q_region (fun w':World=>Below w1.heap.size w1 w') (by kernel_rfl) (by kernel_rfl) ((Below.refl _ _).drew) ?_;repeat (refine q_take (v:=?_) (by rfl) ?_ ?_;rotate_left;(first|((intro w h;clear h;go_simp)<;>with_reducible rfl)|((intro w h;obtain⟨d3,d0⟩:=hcr.out w h;go_simp)<;>with_reducible rfl)|((intro w h;have hl:=hlk.out w h;go_simp)<;>with_reducible rfl));try simp only[Act.put,zT,z0,zS])
  refine q_nil ?_;intro wq hHeld;obtain⟨s0,s1,s2,s3,s4,s5,s6,s7,s8,s9,s10,s11,s12⟩:=hcell.out _ (hKD.out _ hHeld);go_wp2_with fail;with_reducible refine(hbare.out _ hHeld).mono ?_
  rintro e w3 ⟨rfl,b⟩;have h3:Below w1.heap.size w1 w3:=hHeld.trans (b.mono hHeld.size);clear b;obtain⟨s0,s1,s2,s3,s4,s5,s6,s7,s8,s9,s10,s11,s12⟩:=hcell.out _ (hKD.out _ h3);go_wp2_with fail;with_reducible refine(hact.out _ h3).mono ?_
  rintro e w5 ⟨cs,flag,rfl,e1,e2,e3,e4⟩;have r5:=e3.out
  go_wp2_with (refine wpList_store_row rfl 33 (.tmp 4) (.tmp 30) rfl (w.heap.size+1) cs rfl rfl 33 _ r5 (by rw[e1.out];exact size33) (by rw[e1.out];rfl) e2.out ?_)
  refine bodyPost_ret (results_cell_tmp_row (fn:=Tryz.f61) rfl _ _ (w.heap.size+1) 33 cs (0,0) _ _ rfl rfl (setRow_heap _ _ _ _ _ _ r5) Tryz.underlying33 rfl (by rw[e1.out];exact size33)) rfl ?_;have hR:R=R2:=hF.out.trans (if_pos (by simp));rw[hR];exact e4.out
theorem do_k10(B db:Nat)(vv ev dv mv:Value)(g:Gr)(vc:Value)(c:Ch)(w:World)(h:DrV w B db vv ev dv mv g)(hg:Ok g)(hk:c.kind=10)(hc:∀W,KD B w W->CV W vc c)(_hlen:c.ends.length<=1000000/\c.deps.length<=1000000):
  Calls Tryz.prog 61 #[.pointer (some ⟨db,0,none⟩),vc] w (ActPost B db w (actF g c)):=by
 have hvl:=hg.vlen;have hel:=hg.elen;obtain⟨mb,x5,x6,x9,rfl,hmb,hmap,c5,c6,c9⟩:=h.m;obtain⟨ah,bh,ac,bc,w1,rfl,hw1h,hB,hK1,hDr,hKD,hcell,hrx,hcr,hmapW,hbare⟩:=do_pre h hc hmap;have hact:=Hd (fun(W:World) (b0:Below w1.heap.size w1 W)=>((act10_any B db vv ev dv (.map (some mb)) g _ c W (hDr.out W b0) hg (fun W2 K=>hc W2 ((hK1.trans (hKD.out W b0)).trans K)) _hlen).mono fun e W' p=>act_lift hB hK1 (hKD.out W b0) hrx.out p));have hlk:=Hd (fun(W:World) (b0:Below w1.heap.size w1 W)=>look_run 10 9 (.func (.func 113) #[] #[]) (hmapW.out W b0) rfl);have hF:Hid (actF g c=if bareF c=true then act10 g c else none):=by
  show _=_;unfold actF actK;simp[hk]
 generalize actF g c=R at *
 generalize act10 g c=R2 at *
 generalize bareF c=x1 at *
 unfold chCells zCells chCells zC zV zE nilS at hw1h;unfold chCells;unfold chCells at hact hbare;rw[hk]at hw1h hcell hcr hact hbare ⊢;have d9:=hcell.out w1 (KD.refl _ _);clear hc h hmap;clear d9;clear hk;cases x1 with
 | false =>
  clear hact;go_enter Tryz.func61,Tryz.ntmps61;go_wp2_with fail;rw[<-hw1h.out];refine q_region (fun w':World=>Below w1.heap.size w1 w') (by kernel_rfl) (by kernel_rfl) ((Below.refl _ _).drew) ?_;repeat (refine q_take (v:=?_) (by rfl) ?_ ?_;rotate_left;(first|((intro w h;clear h;go_simp)<;>with_reducible rfl)|((intro w h;obtain⟨d3,d0⟩:=hcr.out w h;go_simp)<;>with_reducible rfl)|((intro w h;have hl:=hlk.out w h;go_simp)<;>with_reducible rfl));try simp only[Act.put,zT,z0,zS])
  refine q_nil ?_;intro wq hHeld;obtain⟨s0,s1,s2,s3,s4,s5,s6,s7,s8,s9,s10,s11,s12⟩:=hcell.out _ (hKD.out _ hHeld);go_wp2_with fail;with_reducible refine(hbare.out _ hHeld).mono ?_
  rintro e w3 ⟨rfl,b⟩;have h3:Below w1.heap.size w1 w3:=hHeld.trans (b.mono hHeld.size);have r3:=hrx.out _ (hKD.out _ h3)
  go_wp2_with (refine wpList_store_row rfl 33 (.tmp 4) (.tmp 25) rfl (w.heap.size+1) zCells rfl rfl 33 _ (r3) (info33 _ _ _) rfl z_all ?_)
  refine bodyPost_ret (results_cell_tmp_row (fn:=Tryz.f61) rfl _ _ (w.heap.size+1) 33 zCells (0,0) _ _ rfl rfl (setRow_heap _ _ _ _ _ _ r3) Tryz.underlying33 rfl (info33 _ _ _)) rfl ?_;exact fin_none hB hK1 (hKD.out _ h3) _ (hF.out.trans (by simp))
 | true =>
  go_enter Tryz.func61,Tryz.ntmps61;go_wp2_with fail;rw[<-hw1h.out];refine q_region (fun w':World=>Below w1.heap.size w1 w') (by kernel_rfl) (by kernel_rfl) ((Below.refl _ _).drew) ?_;repeat (refine q_take (v:=?_) (by rfl) ?_ ?_;rotate_left;(first|((intro w h;clear h;go_simp)<;>with_reducible rfl)|((intro w h;obtain⟨d3,d0⟩:=hcr.out w h;go_simp)<;>with_reducible rfl)|((intro w h;have hl:=hlk.out w h;go_simp)<;>with_reducible rfl));try simp only[Act.put,zT,z0,zS])
  refine q_nil ?_;intro wq hHeld;obtain⟨s0,s1,s2,s3,s4,s5,s6,s7,s8,s9,s10,s11,s12⟩:=hcell.out _ (hKD.out _ hHeld);go_wp2_with fail;with_reducible refine(hbare.out _ hHeld).mono ?_
  rintro e w3 ⟨rfl,b⟩;have h3:Below w1.heap.size w1 w3:=hHeld.trans (b.mono hHeld.size);clear b;obtain⟨s0,s1,s2,s3,s4,s5,s6,s7,s8,s9,s10,s11,s12⟩:=hcell.out _ (hKD.out _ h3);go_wp2_with fail;with_reducible refine(hact.out _ h3).mono ?_
  rintro e w5 ⟨cs,flag,rfl,e1,e2,e3,e4⟩;have r5:=e3.out
  go_wp2_with (refine wpList_store_row rfl 33 (.tmp 4) (.tmp 30) rfl (w.heap.size+1) cs rfl rfl 33 _ r5 (by rw[e1.out];exact size33) (by rw[e1.out];rfl) e2.out ?_)
  refine bodyPost_ret (results_cell_tmp_row (fn:=Tryz.f61) rfl _ _ (w.heap.size+1) 33 cs (0,0) _ _ rfl rfl (setRow_heap _ _ _ _ _ _ r5) Tryz.underlying33 rfl (by rw[e1.out];exact size33)) rfl ?_;have hR:R=R2:=hF.out.trans (if_pos (by simp));rw[hR];exact e4.out
theorem do_k0(B db:Nat)(vv ev dv mv:Value)(g:Gr)(vc:Value)(c:Ch)(w:World)(h:DrV w B db vv ev dv mv g)(hg:Ok g)(hk:¬(1<=c.kind/\c.kind<=10))(hc:∀W,KD B w W->CV W vc c)(_hlen:c.ends.length<=1000000/\c.deps.length<=1000000):
  Calls Tryz.prog 61 #[.pointer (some ⟨db,0,none⟩),vc] w (ActPost B db w (actF g c)):=by
 have hvl:=hg.vlen;have hel:=hg.elen;obtain⟨mb,x5,x6,x9,rfl,hmb,hmap,c5,c6,c9⟩:=h.m;obtain⟨ah,bh,ac,bc,w1,rfl,hw1h,hB,hK1,hDr,hKD,hcell,hrx,hcr,hmapW,hbare⟩:=do_pre h hc hmap;have hlk:=Hd (fun(W:World) (b0:Below w1.heap.size w1 W)=>look_none c.kind (hmapW.out W b0) (by
  have k1:(c.kind==1)=false:=by rw[beq_eq_false_iff_ne];omega
  have k2:(c.kind==2)=false:=by rw[beq_eq_false_iff_ne];omega
  have k3:(c.kind==3)=false:=by rw[beq_eq_false_iff_ne];omega
  have k4:(c.kind==4)=false:=by rw[beq_eq_false_iff_ne];omega
  have k5:(c.kind==5)=false:=by rw[beq_eq_false_iff_ne];omega
  have k6:(c.kind==6)=false:=by rw[beq_eq_false_iff_ne];omega
  have k7:(c.kind==7)=false:=by rw[beq_eq_false_iff_ne];omega
  have k8:(c.kind==8)=false:=by rw[beq_eq_false_iff_ne];omega
  have k9:(c.kind==9)=false:=by rw[beq_eq_false_iff_ne];omega
  have k10:(c.kind==10)=false:=by rw[beq_eq_false_iff_ne];omega
  simp[entries,Instr.findNow,Instr.sameNow,k1,k2,k3,k4,k5,k6,k7,k8,k9,k10]))
 have hF:Hid (actF g c=none):=by
  show _=_;have e:actK g c=none:=by
   unfold actK;rw[if_neg (by omega:¬c.kind=1),if_neg (by omega:¬c.kind=2),if_neg (by omega:¬c.kind=3),if_neg (by omega:¬c.kind=4),if_neg (by omega:¬c.kind=5),if_neg (by omega:¬c.kind=6),if_neg (by omega:¬c.kind=7),if_neg (by omega:¬c.kind=8),if_neg (by omega:¬c.kind=9),if_neg (by omega:¬c.kind=10)]
  unfold actF;rw[e];simp
 generalize actF g c=R at *
 generalize bareF c=x1 at *
 unfold chCells at hbare;unfold chCells zCells chCells zC zV zE nilS at hw1h;unfold chCells;have d9:=hcell.out w1 (KD.refl _ _);clear hc h hmap;clear d9;clear hbare;go_enter Tryz.func61,Tryz.ntmps61;go_wp2_with fail;rw[<-hw1h.out];refine q_region (fun w':World=>Below w1.heap.size w1 w') (by kernel_rfl) (by kernel_rfl) ((Below.refl _ _).drew) ?_;repeat (refine q_take (v:=?_) (by rfl) ?_ ?_;rotate_left;(first|((intro w h;clear h;go_simp)<;>with_reducible rfl)|((intro w h;obtain⟨d3,d0⟩:=hcr.out w h;go_simp)<;>with_reducible rfl)|((intro w h;have hl:=hlk.out w h;go_simp)<;>with_reducible rfl));try simp only[Act.put,zT,z0,zS])
 refine q_nil ?_;intro wq hHeld;have r2:=hrx.out _ (hKD.out _ hHeld)
 go_wp2_with (refine wpList_store_row rfl 33 (.tmp 4) (.tmp 25) rfl (w.heap.size+1) zCells rfl rfl 33 _ (r2) (info33 _ _ _) rfl z_all ?_)
 refine bodyPost_ret (results_cell_tmp_row (fn:=Tryz.f61) rfl _ _ (w.heap.size+1) 33 zCells (0,0) _ _ rfl rfl (setRow_heap _ _ _ _ _ _ r2) Tryz.underlying33 rfl (info33 _ _ _)) rfl ?_;exact fin_none hB hK1 (hKD.out _ hHeld) _ hF.out
theorem do_any(B db:Nat)(vv ev dv mv:Value)(g:Gr)(vc:Value)(c:Ch)(w:World)(h:DrV w B db vv ev dv mv g)(hg:Ok g)(hc:∀W,KD B w W->CV W vc c)(hl:c.ends.length<=1000000/\c.deps.length<=1000000):
  Calls Tryz.prog 61 #[.pointer (some ⟨db,0,none⟩),vc] w (ActPost B db w (actF g c)):=by
 rcases(by omega:c.kind=1\/c.kind=2\/c.kind=3\/c.kind=4\/c.kind=5\/c.kind=6\/c.kind=7\/c.kind=8\/c.kind=9\/c.kind=10\/ ¬(1<=c.kind/\c.kind<=10))with k|k|k|k|k|k|k|k|k|k|k
 ·exact do_k1 B db vv ev dv mv g vc c w h hg k hc hl
 ·exact do_k2 B db vv ev dv mv g vc c w h hg k hc hl
 ·exact do_k3 B db vv ev dv mv g vc c w h hg k hc hl
 ·exact do_k4 B db vv ev dv mv g vc c w h hg k hc hl
 ·exact do_k5 B db vv ev dv mv g vc c w h hg k hc hl
 ·exact do_k6 B db vv ev dv mv g vc c w h hg k hc hl
 ·exact do_k7 B db vv ev dv mv g vc c w h hg k hc hl
 ·exact do_k8 B db vv ev dv mv g vc c w h hg k hc hl
 ·exact do_k9 B db vv ev dv mv g vc c w h hg k hc hl
 ·exact do_k10 B db vv ev dv mv g vc c w h hg k hc hl
 ·exact do_k0 B db vv ev dv mv g vc c w h hg k hc hl
end Go.Proofs.YtlaldnlgapeckaaGreat
