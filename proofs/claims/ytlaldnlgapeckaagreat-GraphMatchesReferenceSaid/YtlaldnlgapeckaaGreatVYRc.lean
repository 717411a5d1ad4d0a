/- Facts. -/
import Derived.ArgAppend
import Derived.Test.YtlaldnlgapeckaaGreatVYMw
import Derived.Test.YtlaldnlgapeckaaGreatVYS
set_option linter.unusedSimpArgs false
set_option maxRecDepth 100000
set_option maxHeartbeats 4000000
namespace Go.Proofs.YtlaldnlgapeckaaGreat
open Go.RowKit
theorem app_gen(T e:TypeId)(i0:TypeInfo)(z:Value)(k by_:Nat)(hT:Tryz.prog.underlying T=some (.slice e))(hi:Tryz.prog.info? e=some i0)(hz:i0.zero=some z)(hk:i0.size=k)(hby:i0.bytes=by_)(hzs:z.cells.size=k)(h0:0<k)(hb:by_<=200)
  (W:World) (b:Addr) (n:Nat) (olds:List Value) (hlo:olds.length=n*k) (holds:∀j u,olds[j]?=some u->W.cell? (b.add j)=some u) (a:Option Addr) (m c:Nat) (news:List Value) (hl:news.length=m*k) (hnews:∀x,a=some x-> ∀j u,news[j]?=some u->W.cell? (x.add j)=some u) (ha:a=none->m=0) (hnm:n+m<=1000000) :
  (m=0/\(Builtin.append_ #[T,T] T #[.slice (some b) n n,.slice a m c]).run Tryz.prog W= .ok (.slice (some b) n n) W) \/
  (0<m/\ ∃v' W',(Builtin.append_ #[T,T] T #[.slice (some b) n n,.slice a m c]).run Tryz.prog W= .ok v' W'/\W'.ownsRow W.heap.size e k v' (n+m) (olds++news)/\Below W.heap.size W W'):=by
 by_cases hm:m=0
 ·refine .inl ⟨hm,?_⟩;subst hm;have hfn:=run_firstCells_none (P:=Tryz.prog) (w:=W) i0.size 0 0 c;have hfs:=fun a=>run_firstCells_some (P:=Tryz.prog) W i0.size 0 a 0 c [] (by simp) (by simp);cases a with
  | none=>simp[Builtin.append_,run_underlying hT,sizeOf,typeInfo,zeroValue,hi,hz,Builtin.lenOf,Question.forced,hfn,storeCells]
  | some x=>simp[Builtin.append_,run_underlying hT,sizeOf,typeInfo,zeroValue,hi,hz,Builtin.lenOf,Question.forced,hfs,storeCells]
 ·refine .inr ⟨by omega,?_⟩;cases a with
  | none=>exact absurd (ha rfl) hm
  | some x =>
   have hmul:(n+m)*by_<=1000000*200:=Nat.mul_le_mul hnm hb;obtain⟨v',w',hr,ho,hg⟩:=run_append_arg_grows (P:=Tryz.prog) (w:=W) T T e i0 z k by_ hT hi hz hk hby hzs h0 b n n olds hlo holds x m c news hl (hnews x rfl) (by omega) (by unfold maxLen;omega) (by omega);exact⟨v',w',hr,ho,(Below.refl _ W).grown hg (Nat.le_refl _) (fun j hj=>by cases hj)⟩
theorem app_emptyV(W:World)(B b:Nat)(hown:OwnV W B (.slice (some ⟨b,0,none⟩) 0 0) [])(src:Value)(l:List Vx)(hs:VL W src l)(hB:B<=W.heap.size)(hl:l.length<=1000000):
  ∃v' W',(Builtin.append_ #[22,22] 22 #[.slice (some ⟨b,0,none⟩) 0 0,src]).run Tryz.prog W= .ok v' W'/\OwnV W' B v' l/\Below W.heap.size W W':=by
 obtain⟨i0,hi,hz0,hz1,hz2⟩:=info_parts info29;obtain⟨a,c,rfl⟩:=hs.shape;rcases app_gen 22 29 i0 _ 2 16 Tryz.underlying22 hi hz0 hz1 hz2 rfl (by omega) (by omega) W ⟨b,0,none⟩ 0 [] rfl (by simp) a l.length c (cVx l) (cVx_len l) (fun x hx=>by
  rcases hs with⟨rfl,_⟩|⟨_,b',o',c',e,_,_,h4⟩
  ·simp[cVx]
  ·injection e with e _ _
   rw[e]at hx;injection hx with hx
   subst hx;exact lieV_cells h4) (fun hx=>by
  rcases hs with⟨rfl,_⟩|⟨_,b',o',c',e,_⟩
  ·rfl
  ·injection e with e _ _
   rw[e]at hx;cases hx) (by omega)with⟨h0,hr⟩|⟨h0,v',W',hr,ho,hb⟩
 ·have:l=[]:=List.length_eq_zero_iff.1 h0;subst this;exact⟨_,_,hr,hown,Below.refl _ _⟩
 ·refine⟨v',W',hr,?_,hb⟩;rw[Nat.zero_add,List.nil_append]at ho;exact own_low ho hB
theorem app_emptyE(W:World)(B b:Nat)(hown:OwnEd W B (.slice (some ⟨b,0,none⟩) 0 0) [])(src:Value)(l:List Ed)(hs:EL W src l)(hB:B<=W.heap.size)(hl:l.length<=1000000):
  ∃v' W',(Builtin.append_ #[23,23] 23 #[.slice (some ⟨b,0,none⟩) 0 0,src]).run Tryz.prog W= .ok v' W'/\OwnEd W' B v' l/\Below W.heap.size W W':=by
 obtain⟨i0,hi,hz0,hz1,hz2⟩:=info_parts info31;obtain⟨a,c,rfl⟩:=hs.shape;rcases app_gen 23 31 i0 _ 6 48 Tryz.underlying23 hi hz0 hz1 hz2 rfl (by omega) (by omega) W ⟨b,0,none⟩ 0 [] rfl (by simp) a l.length c (cEd l) (cEd_len l) (fun x hx=>by
  rcases hs with⟨rfl,_⟩|⟨_,b',o',c',e,_,_,h4⟩
  ·simp[cEd]
  ·injection e with e _ _
   rw[e]at hx;injection hx with hx
   subst hx;exact lieE_cells h4) (fun hx=>by
  rcases hs with⟨rfl,_⟩|⟨_,b',o',c',e,_⟩
  ·rfl
  ·injection e with e _ _
   rw[e]at hx;cases hx) (by omega)with⟨h0,hr⟩|⟨h0,v',W',hr,ho,hb⟩
 ·have:l=[]:=List.length_eq_zero_iff.1 h0;subst this;exact⟨_,_,hr,hown,Below.refl _ _⟩
 ·refine⟨v',W',hr,?_,hb⟩;rw[Nat.zero_add,List.nil_append]at ho;exact own_low ho hB
theorem app_emptyI(W:World)(B b:Nat)(hown:OwnI W B (.slice (some ⟨b,0,none⟩) 0 0) [])(src:Value)(l:List Int)(hs:DL W src l)(hB:B<=W.heap.size)(hl:l.length<=1000000):
  ∃v' W',(Builtin.append_ #[24,24] 24 #[.slice (some ⟨b,0,none⟩) 0 0,src]).run Tryz.prog W= .ok v' W'/\OwnI W' B v' l/\Below W.heap.size W W':=by
 obtain⟨i0,hi,hz0,hz1,hz2⟩:=info_parts info3;obtain⟨a,c,rfl⟩:=hs.shape;rcases app_gen 24 3 i0 _ 1 8 Tryz.underlying24 hi hz0 hz1 hz2 rfl (by omega) (by omega) W ⟨b,0,none⟩ 0 [] rfl (by simp) a l.length c (cI l) (cI_len l) (fun x hx=>by
  rcases hs with⟨rfl,_⟩|⟨_,b',o',c',e,_,_,h4⟩
  ·simp[cI]
  ·injection e with e _ _
   rw[e]at hx;injection hx with hx
   subst hx;exact lieD_cells h4) (fun hx=>by
  rcases hs with⟨rfl,_⟩|⟨_,b',o',c',e,_⟩
  ·rfl
  ·injection e with e _ _
   rw[e]at hx;cases hx) (by omega)with⟨h0,hr⟩|⟨h0,v',W',hr,ho,hb⟩
 ·have:l=[]:=List.length_eq_zero_iff.1 h0;subst this;exact⟨_,_,hr,hown,Below.refl _ _⟩
 ·refine⟨v',W',hr,?_,hb⟩;rw[Nat.zero_add,List.nil_append]at ho;exact own_low ho hB
theorem post_append{o:Oper}{a:Act}{w:World}{R:Value->World->Prop}(s x:Operand)(t:TypeId)(ho:o.op= .call {callee:= .builtin .append,args:= #[s,x],argTypes:= #[t,t]})(u v:Value)(hs:a.eval s=u)(hx:a.eval x=v)(v':Value)(w':World)
  (hr:(Builtin.append_ #[t,t] o.type #[u,v]).run Tryz.prog w= .ok v' w') (h:R v' w'):Rel.post Tryz.prog o a w R:=by
 unfold Rel.post execOp;simp only[ho,resolve,invoke,builtin,Sem.run_bind,Sem.run_pure,Result.andThen_ok,List.map_toArray,List.map_cons,List.map_nil,hs,hx,hr];exact h
theorem post_value{o:Oper}{a:Act}{w:World}{R:Value->World->Prop}(v:Value)(w':World)(hr:(execOp a.eval o).run Tryz.prog w= .ok (.value v) w')(h:R v w'):Rel.post Tryz.prog o a w R:=by
 unfold Rel.post;rw[hr];exact h
theorem post_store_row{o:Oper}{a:Act}{w:World}{R:Value->World->Prop}(ty:TypeId)(x y:Operand)(ho:o.op= .store ty x y)
  (g:Nat) (cells:Array Value) (hx:a.eval x= .pointer (some ⟨g,0,none⟩)) (hy:a.eval y= .agg cells)
  (t:TypeId) (old:Array Value) (hg:w.heap[g]?=some (.cells old t (0,0))) (hi:(Tryz.prog.info? ty).map (·.size)=some cells.size)
  (hold:old.size=cells.size) (h1:cells.all (·.oneCell')=true) (h:R undef (w.setRow g cells)):Rel.post Tryz.prog o a w R:=by
 unfold Rel.post execOp;simp only[ho,hx,hy,Instr.storeAt,Instr.sureAddr,Sem.run_bind,Sem.run_pure,Result.andThen_ok,run_storeVar_row w g t ty old cells hg hi hold h1];exact h
theorem CopyR_any(v:Value)(g:Gr)(w0:World)(hv:GV w0 v g)(hn:g.vs.length<=1000000/\g.es.length<=1000000/\g.ds.length<=1000000):
  Calls Tryz.prog 59 #[v] w0 fun e w'=>∃x y z,e= .returned (.agg #[x,y,z])/\OwnV w' w0.heap.size x g.vs/\OwnEd w' w0.heap.size y g.es/\OwnI w' w0.heap.size z g.ds/\Below w0.heap.size w0 w':=by
 obtain⟨a,b,c,rfl,h1,h2,h3⟩:=hv;obtain⟨a1,a2,rfl⟩:=h1.shape;obtain⟨b1,b2,rfl⟩:=h2.shape;obtain⟨c1,c2,rfl⟩:=h3.shape;obtain⟨n1,n2,n3⟩:=hn;obtain⟨N1,hN1⟩:∃N,Hid (N=g.vs.length):=⟨_,rfl⟩;obtain⟨N2,hN2⟩:∃N,Hid (N=g.es.length):=⟨_,rfl⟩;obtain⟨N3,hN3⟩:∃N,Hid (N=g.ds.length):=⟨_,rfl⟩;rw[<-hN1.out]at h1 ⊢;rw[<-hN2.out]at h2 ⊢;rw[<-hN3.out]at h3 ⊢;obtain⟨B,hB⟩:∃B,Hid (B=w0.heap.size):=⟨_,rfl⟩;obtain⟨w1,hw1⟩:∃W,W=(w0.alloc (.cells #[.slice a1 N1 a2,.slice b1 N2 b2,.slice c1 N3 c2] 26)).alloc (.cells #[.slice none 0 0,.slice none 0 0,.slice none 0 0] 26):=⟨_,rfl⟩;have hB0:=Hd (show Below B w0 w1 by rw[hB.out,hw1];exact((Below.refl _ w0).alloc (Nat.le_refl _) _).alloc (by simp) _);have hsz:w1.heap.size=B+2:=by rw[hw1,hB.out];simp
 have hbox:=Hd (show w1.heap[B]?=some (.cells #[.slice a1 N1 a2,.slice b1 N2 b2,.slice c1 N3 c2] 26 (0,0))by rw[hw1,hB.out];exact al_keep1 (heap_alloc_new w0 _));have hres:=Hd (show w1.heap[B+1]?=some (.cells #[.slice none 0 0,.slice none 0 0,.slice none 0 0] 26 (0,0))by rw[hw1,hB.out];have h:=heap_alloc_new (w0.alloc (.cells #[.slice a1 N1 a2,.slice b1 N2 b2,.slice c1 N3 c2] 26)) (.cells #[.slice none 0 0,.slice none 0 0,.slice none 0 0] 26);simpa using h);have hlt:B+1<w1.heap.size:=by omega
 have hlt0:B<w1.heap.size:=by omega
 rw[hB.out]at hB0;have hV:=Hd (fun W (BB:Below w1.heap.size w1 W)=>h1.below (hB0.out.trans (BB.mono hB0.out.size)));have hE:=Hd (fun W (BB:Below w1.heap.size w1 W)=>h2.below (hB0.out.trans (BB.mono hB0.out.size)));have hD:=Hd (fun W (BB:Below w1.heap.size w1 W)=>h3.below (hB0.out.trans (BB.mono hB0.out.size)));have hT:=Hd (fun W (BB:Below w1.heap.size w1 W)=>box3 ((BB.block _ hlt0).trans hbox.out));have hwh:=Hd hw1;rw[<-hB.out]at hB0;clear h1 h2 h3 hw1;go_enter Tryz.func59,Tryz.ntmps59;go_upto_region 1 with(fail);rw[<-hwh.out,<-hB.out];refine Rel.b_region w1 [none,some (.pointer (some ⟨B,0,none⟩)),some (.slice a1 N1 a2),none,none,some (.pointer (some ⟨B,1,none⟩)),some (.slice b1 N2 b2),none,none,some (.pointer (some ⟨B,2,none⟩)),some (.slice c1 N3 c2),none,none,none] (fun i v W=>match i with
  | 0=>∃b,v= .slice (some ⟨b,0,none⟩) 0 0/\OwnV W (B+2) v []
  | 3=>OwnV W (B+2) v g.vs
  | 4=>∃b,v= .slice (some ⟨b,0,none⟩) 0 0/\OwnEd W (B+2) v []
  | 7=>OwnEd W (B+2) v g.es
  | 8=>∃b,v= .slice (some ⟨b,0,none⟩) 0 0/\OwnI W (B+2) v []
  | 11=>OwnI W (B+2) v g.ds
  | 12=>∃x y z,v= .agg #[x,y,z]/\OwnV W (B+2) x g.vs/\OwnEd W (B+2) y g.es/\OwnI W (B+2) z g.ds
  | _=>True) (fun _ W=>∃x y z,W.heap[B+1]?=some (.cells #[x,y,z] 26 (0,0))/\OwnV W (B+2) x g.vs/\OwnEd W (B+2) y g.es/\OwnI W (B+2) z g.ds/\Below B w0 W) 13 (by kernel_rfl) (by kernel_rfl) rfl (fun i v W W' h Bl=>by split at h<;>first|exact trivial|exact own_below h Bl|(obtain⟨b,e,h⟩:=h;exact⟨b,e,own_below h Bl⟩)|(obtain⟨x,y,z,e,h1,h2,h3⟩:=h;exact⟨x,y,z,e,own_below h1 Bl,own_below h2 Bl,own_below h3 Bl⟩)) (fun _ _ _ _ h=>h) ((Below.refl _ w1).drew) (fun vals hO=>?_)
 refine Rel.b_rel rfl (by decide) (by rfl) (fun w hC hd=>?_) ?_
 ·refine post_value (.slice (some ⟨w.heap.size,0,none⟩) 0 0) (w.alloc (.cells #[] 29)) (by clear hd hO;go_simp) ⟨(Below.refl _ w).alloc (Nat.le_refl _) _,_,rfl,?_⟩;exact World.ownsRow_made w #[] 0 (by have:=hC.size;omega) (Nat.zero_le _) rfl
 try simp only[Act.put,zT,z0,zS]
 refine Rel.b_pure (.pointer (some ⟨B,0,none⟩)) rfl (by decide) (hO 1 _ rfl) (by rfl) (fun w hC hd=>?_) ?_
 ·clear hd hO;go_simp
 try simp only[Act.put,zT,z0,zS]
 refine Rel.b_pure (.slice a1 N1 a2) rfl (by decide) (hO 2 _ rfl) (by rfl) (fun w hC hd=>?_) ?_
 ·obtain⟨t0,t1,t2⟩:=hT.out w hC;clear hd hO;go_simp
 try simp only[Act.put,zT,z0,zS]
 refine Rel.b_rel rfl (by decide) (by rfl) (fun w hC hd=>?_) ?_
 ·have h0:=hd 0 (by decide);obtain⟨b,hb,ho⟩:=h0;rw[hb]at ho;obtain⟨v',w',hr,hv,hbel⟩:=app_emptyV w (B+2) b ho (.slice a1 N1 a2) g.vs (hV.out w hC) (by have:=hC.size;omega) (by omega);exact post_append (.tmp 3) (.tmp 5) 22 rfl _ _ hb rfl v' w' hr ⟨hbel,hv⟩
 try simp only[Act.put,zT,z0,zS]
 refine Rel.b_rel rfl (by decide) (by rfl) (fun w hC hd=>?_) ?_
 ·refine post_value (.slice (some ⟨w.heap.size,0,none⟩) 0 0) (w.alloc (.cells #[] 31)) (by clear hd hO;go_simp) ⟨(Below.refl _ w).alloc (Nat.le_refl _) _,_,rfl,?_⟩;exact World.ownsRow_made w #[] 0 (by have:=hC.size;omega) (Nat.zero_le _) rfl
 try simp only[Act.put,zT,z0,zS]
 refine Rel.b_pure (.pointer (some ⟨B,1,none⟩)) rfl (by decide) (hO 5 _ rfl) (by rfl) (fun w hC hd=>?_) ?_
 ·clear hd hO;go_simp
 try simp only[Act.put,zT,z0,zS]
 refine Rel.b_pure (.slice b1 N2 b2) rfl (by decide) (hO 6 _ rfl) (by rfl) (fun w hC hd=>?_) ?_
 ·obtain⟨t0,t1,t2⟩:=hT.out w hC;clear hd hO;go_simp
 try simp only[Act.put,zT,z0,zS]
 refine Rel.b_rel rfl (by decide) (by rfl) (fun w hC hd=>?_) ?_
 ·have h0:=hd 4 (by decide);obtain⟨b,hb,ho⟩:=h0;rw[hb]at ho;obtain⟨v',w',hr,hv,hbel⟩:=app_emptyE w (B+2) b ho (.slice b1 N2 b2) g.es (hE.out w hC) (by have:=hC.size;omega) (by omega);exact post_append (.tmp 7) (.tmp 9) 23 rfl _ _ hb rfl v' w' hr ⟨hbel,hv⟩
 try simp only[Act.put,zT,z0,zS]
 refine Rel.b_rel rfl (by decide) (by rfl) (fun w hC hd=>?_) ?_
 ·refine post_value (.slice (some ⟨w.heap.size,0,none⟩) 0 0) (w.alloc (.cells #[] 3)) (by clear hd hO;go_simp) ⟨(Below.refl _ w).alloc (Nat.le_refl _) _,_,rfl,?_⟩;exact World.ownsRow_made w #[] 0 (by have:=hC.size;omega) (Nat.zero_le _) rfl
 try simp only[Act.put,zT,z0,zS]
 refine Rel.b_pure (.pointer (some ⟨B,2,none⟩)) rfl (by decide) (hO 9 _ rfl) (by rfl) (fun w hC hd=>?_) ?_
 ·clear hd hO;go_simp
 try simp only[Act.put,zT,z0,zS]
 refine Rel.b_pure (.slice c1 N3 c2) rfl (by decide) (hO 10 _ rfl) (by rfl) (fun w hC hd=>?_) ?_
 ·obtain⟨t0,t1,t2⟩:=hT.out w hC;clear hd hO;go_simp
 try simp only[Act.put,zT,z0,zS]
 refine Rel.b_rel rfl (by decide) (by rfl) (fun w hC hd=>?_) ?_
 ·have h0:=hd 8 (by decide);obtain⟨b,hb,ho⟩:=h0;rw[hb]at ho;obtain⟨v',w',hr,hv,hbel⟩:=app_emptyI w (B+2) b ho (.slice c1 N3 c2) g.ds (hD.out w hC) (by have:=hC.size;omega) (by omega);exact post_append (.tmp 11) (.tmp 13) 24 rfl _ _ hb rfl v' w' hr ⟨hbel,hv⟩
 try simp only[Act.put,zT,z0,zS]
 refine Rel.b_rel rfl (by decide) (by rfl) (fun w hC hd=>?_) ?_
 ·have h1:=hd 3 (by decide);have h2:=hd 7 (by decide);have h3:=hd 11 (by decide);obtain⟨x1,x2,e1⟩:=OwnV.VL h1 |>.shape;obtain⟨y1,y2,e2⟩:=OwnEd.EL h2 |>.shape;obtain⟨z1,z2,e3⟩:=OwnI.DL h3 |>.shape;rw[e1]at h1;rw[e2]at h2;rw[e3]at h3;rw[e1,e2,e3];exact post_value _ w (by clear hd hO h1 h2 h3 e1 e2 e3;go_simp) ⟨Below.refl _ _,_,_,_,rfl,h1,h2,h3⟩
 try simp only[Act.put,zT,z0,zS]
 refine Rel.b_last rfl (by rfl) (fun w hC hd=>?_) ?_
 ·obtain⟨x,y,z,e1,h1,h2,h3⟩:=hd 12 (by decide);have r7:=(hC.block (B+1) hlt).trans hres.out;refine post_store_row 26 (.tmp 2) (.tmp 15) rfl (B+1) #[x,y,z] rfl e1 26 _ r7 (size26b _ _ _) rfl (by obtain⟨_,_,rfl⟩:=h1.VL.shape;obtain⟨_,_,rfl⟩:=h2.EL.shape;obtain⟨_,_,rfl⟩:=h3.DL.shape;simp[Value.oneCell']) ?_;exact⟨x,y,z,setRow_heap _ _ _ _ _ _ r7,own_setRowB h1 (by omega),own_setRowB h2 (by omega),own_setRowB h3 (by omega),below_row (hB0.out.trans (hC.mono (by omega))) (by omega) _⟩
 try simp only[Act.put,zT,z0,zS]
 refine Rel.b_end ?_;intro w' hfin;obtain⟨x,y,z,r7,h1,h2,h3,h4⟩:=hfin;have o1:=Hd h1;have o2:=Hd h2;have o3:=Hd h3;have o4:=Hd h4;have r8:=Hd r7;clear h1 h2 h3 h4 r7;go_wp2_with fail;refine bodyPost_ret (v:=_) (results_cell_row (fn:=Tryz.f59) rfl _ _ (B+1) 26 #[x,y,z] (0,0) _ rfl r8.out Tryz.underlying26 rfl (size26b _ _ _)) rfl ?_;exact⟨x,y,z,rfl,by rw[<-hB.out];exact own_low o1.out (by omega),by rw[<-hB.out];exact own_low o2.out (by omega),by rw[<-hB.out];exact own_low o3.out (by omega),by rw[<-hB.out];exact o4.out⟩
theorem post_skip{o:Oper}{a:Act}{w:World}{R:Value->World->Prop}(w':World)(hr:(execOp a.eval o).run Tryz.prog w= .ok .skip w')(h:R undef w'):Rel.post Tryz.prog o a w R:=by
 unfold Rel.post;rw[hr];exact h
theorem VL.tail{W:World}{b o n c i:Nat}{l:List Vx}(h:VL W (.slice (some ⟨b,o,none⟩) n c) l)(hn:n=l.length)(hi:i<=n):VL W (.slice (some ⟨b,o+i*2,none⟩) (n-i) (c-i)) (l.drop i):=by
 rcases h with⟨rfl,_⟩|⟨h0,b',o',c',e,h2,h3,h4⟩
 ·exact .inl ⟨by simp,some ⟨b,o+i*2,none⟩,c-i,by rw[hn];simp⟩
 ·injection e with e1 e2 e3
  injection e1 with e1
  injection e1 with e1 e4 _
  subst e1 e4 e3;by_cases hd:l.drop i=[]
  ·have:l.length<=i:=List.drop_eq_nil_iff.1 hd;exact .inl ⟨hd,_,_,by rw[show n-i=0 by omega]⟩
  ·refine .inr ⟨hd,_,_,_,by rw[List.length_drop,hn],by rw[List.length_drop];omega,h3,fun j x hx=>?_⟩;rw[List.getElem?_drop]at hx;have:=h4 (i+j) x hx;rw[show o+i*2+j*2=o+(i+j)*2 by omega];exact this
theorem VL.head{W:World}{b o n c i:Nat}{l:List Vx}(h:VL W (.slice (some ⟨b,o,none⟩) n c) l)(hi:i<=l.length):∀j u,(cVx (l.take i))[j]?=some u->W.cell? ((⟨b,o,none⟩:Addr).add j)=some u:=by
 rcases h with⟨rfl,_⟩|⟨h0,b',o',c',e,h2,h3,h4⟩
 ·intro j u hu;simp[cVx]at hu
 ·injection e with e1 e2 e3
  injection e1 with e1
  injection e1 with e1 e4 _
  subst e1 e4 e3;refine lieV_cells fun j x hx=>?_;have hj:j<i:=by
   have:=(List.getElem?_eq_some_iff.1 hx).1;rw[List.length_take]at this;omega
  rw[List.getElem?_take_of_lt hj]at hx;exact h4 j x hx
theorem app_V(W:World)(b o n c i:Nat)(l:List Vx)(h:VL W (.slice (some ⟨b,o,none⟩) n c) l)(_:b<W.heap.size)(hi:i<=l.length)(src:Value)(m:List Vx)(hs:VL W src m)(hl:l.length<=500000)(hm:m.length<=500000):
  ∃v' W',(Builtin.append_ #[22,22] 22 #[.slice (some ⟨b,o,none⟩) i i,src]).run Tryz.prog W= .ok v' W'/\VL W' v' (l.take i++m)/\(∀k,v'.ownBlock=some k->k=b\/W.heap.size<=k)/\Below W.heap.size W W':=by
 obtain⟨i0,hi2,hz0,hz1,hz2⟩:=info_parts info29;obtain⟨a,c',rfl⟩:=hs.shape;have hti:(l.take i).length=i:=by rw[List.length_take];omega
 rcases app_gen 22 29 i0 _ 2 16 Tryz.underlying22 hi2 hz0 hz1 hz2 rfl (by omega) (by omega) W ⟨b,o,none⟩ i (cVx (l.take i)) (by rw[cVx_len,hti]) (h.head hi) a m.length c' (cVx m) (cVx_len m) (fun x hx=>by
  rcases hs with⟨rfl,_⟩|⟨_,b',o',c'',e,_,_,h4⟩
  ·simp[cVx]
  ·injection e with e _ _
   rw[e]at hx;injection hx with hx
   subst hx;exact lieV_cells h4) (fun hx=>by
  rcases hs with⟨rfl,_⟩|⟨_,b',o',c'',e,_⟩
  ·rfl
  ·injection e with e _ _
   rw[e]at hx;cases hx) (by omega)with⟨h0,hr⟩|⟨h0,v',W',hr,ho,hbl⟩
 ·have:m=[]:=List.length_eq_zero_iff.1 h0;subst this;refine⟨_,_,hr,?_,fun k hk=> .inl (by simp[Value.ownBlock]at hk;exact hk.symm),Below.refl _ _⟩;rw[List.append_nil];by_cases hn:l.take i=[]
  ·exact .inl ⟨hn,_,_,by rw[show i=0 by rw[<-hti,hn];rfl]⟩
  ·rcases h with⟨rfl,_⟩|⟨_,b',o',c'',e,h2,h3,h4⟩
   ·simp at hn
   ·injection e with e1 e2 e3
    injection e1 with e1
    injection e1 with e1 e4 _
    subst e1 e4 e3;refine .inr ⟨hn,_,_,_,by rw[hti],by rw[hti];exact Nat.le_refl _,h3,fun j x hx=>?_⟩;have hj:j<i:=by
     have:=(List.getElem?_eq_some_iff.1 hx).1;rw[hti]at this;exact this
    rw[List.getElem?_take_of_lt hj]at hx;exact h4 j x hx
 ·refine⟨v',W',hr,?_,fun k hk=> .inr (own_row ho k hk).1,hbl⟩;rw[<-cVx_append]at ho;have:OwnV W' W.heap.size v' (l.take i++m):=by unfold OwnV;rw[List.length_append,hti];exact ho
  exact this.VL
theorem keep_cell{W W':World}{b i:Nat}(h:W'.heap[b]?=W.heap[b]?):W'.cell? ⟨b,i,none⟩=W.cell? ⟨b,i,none⟩:=World.cell?_of_block h
theorem VL.keep{W W':World}{v:Value}{l:List Vx}(h:VL W v l)(hk:∀k,v.ownBlock=some k->k<W.heap.size->W'.heap[k]?=W.heap[k]?)(hs:W.heap.size<=W'.heap.size):VL W' v l:=by
 rcases h with h|⟨h0,b,o,c,rfl,h2,h3,h4⟩
 ·exact .inl h
 ·have hb:=hk b rfl h3;exact .inr ⟨h0,b,o,c,rfl,h2,Nat.lt_of_lt_of_le h3 hs,fun j x hx=>by rw[keep_cell hb,keep_cell hb];exact h4 j x hx⟩
theorem pos_del(l:List Vx)(x:Int)(h:Asc (keysV l))(p:Nat)(hp:p<l.length)(hx:l[p].id=x):l.take p++l.drop (p+1)=delV l x:=by
 have hm:x∈keysV l:=mem_keysV.2 ⟨_,List.getElem_mem hp,hx⟩;obtain⟨hq,hqx⟩:=posV_lt l x h hm;have:posK (keysV l) x=p:=by
  apply Classical.byContradiction;intro hne;have hh:=List.pairwise_iff_getElem.1 h;have e1:∀j (h:j<l.length),(keysV l)[j]'(by simpa[keysV]using h)=l[j].id:=fun j h=>by simp[keysV]
  rcases Nat.lt_or_gt_of_ne hne with hlt|hlt
  ·have:=hh _ _ (by simpa[keysV]using hq) (by simpa[keysV]using hp) hlt;rw[e1 _ hq,e1 _ hp]at this;omega
  ·have:=hh _ _ (by simpa[keysV]using hp) (by simpa[keysV]using hq) hlt;rw[e1 _ hp,e1 _ hq]at this;omega
 rw[delV_eq l x h hm,this]
theorem withoutR_own(a b c:Value)(g:Gr)(i0:Nat)(w0:World)(h1:VL w0 a g.vs)(h2:EL w0 b g.es)(h3:DL w0 c g.ds)(hn:g.vs.length<=500000)(hi:i0<g.vs.length):
  Calls Tryz.prog 82 #[.agg #[a,b,c],.int .i64 (i0:Int)] w0 fun e w'=>∃x,e= .returned (.agg #[x,b,c])/\(VL w' x (g.vs.take i0++g.vs.drop (i0+1))/\EL w' b g.es/\DL w' c g.ds)/\(∀k,x.ownBlock=some k->a.ownBlock=some k\/w0.heap.size<=k)/\Below w0.heap.size w0 w':=by
 obtain⟨vb,vo,a2,rfl,hca0,hvb,_⟩:=h1.own (fun e=>by rw[e]at hi;simp at hi);obtain⟨b1,b2,rfl⟩:=h2.shape;obtain⟨c1,c2,rfl⟩:=h3.shape;obtain⟨N1,hN1⟩:∃N,Hid (N=g.vs.length):=⟨_,rfl⟩;obtain⟨N2,hN2⟩:∃N,Hid (N=g.es.length):=⟨_,rfl⟩;obtain⟨N3,hN3⟩:∃N,Hid (N=g.ds.length):=⟨_,rfl⟩;rw[<-hN1.out]at h1 ⊢ hi hn;rw[<-hN2.out]at h2 ⊢;rw[<-hN3.out]at h3 ⊢;obtain⟨B,hB⟩:∃B,Hid (B=w0.heap.size):=⟨_,rfl⟩;obtain⟨w1,hw1⟩:∃W,W=(w0.alloc (.cells #[.slice (some ⟨vb,vo,none⟩) N1 a2,.slice b1 N2 b2,.slice c1 N3 c2] 26)).alloc (.cells #[.slice none 0 0,.slice none 0 0,.slice none 0 0] 26):=⟨_,rfl⟩;have hB0:=Hd (show Below B w0 w1 by rw[hB.out,hw1];exact((Below.refl _ w0).alloc (Nat.le_refl _) _).alloc (by simp) _);have hsz:w1.heap.size=B+2:=by rw[hw1,hB.out];simp
 have hbox:=Hd (show w1.heap[B]?=some (.cells #[.slice (some ⟨vb,vo,none⟩) N1 a2,.slice b1 N2 b2,.slice c1 N3 c2] 26 (0,0))by rw[hw1,hB.out];exact al_keep1 (heap_alloc_new w0 _));have hres:=Hd (show w1.heap[B+1]?=some (.cells #[.slice none 0 0,.slice none 0 0,.slice none 0 0] 26 (0,0))by rw[hw1,hB.out];have h:=heap_alloc_new (w0.alloc (.cells #[.slice (some ⟨vb,vo,none⟩) N1 a2,.slice b1 N2 b2,.slice c1 N3 c2] 26)) (.cells #[.slice none 0 0,.slice none 0 0,.slice none 0 0] 26);simpa using h);have hlt:B+1<w1.heap.size:=by omega
 have hlt0:B<w1.heap.size:=by omega
 have hca:N1<=a2:=by rw[hN1.out];exact hca0
 rw[hB.out]at hB0;have hV:=Hd (fun W (BB:Below w1.heap.size w1 W)=>h1.below (hB0.out.trans (BB.mono hB0.out.size)));have hh1:=Hd h1;have hh2:=Hd h2;have hh3:=Hd h3;have hT:=Hd (fun W (BB:Below w1.heap.size w1 W)=>box3 ((BB.block _ hlt0).trans hbox.out));have hwh:=Hd hw1;rw[<-hB.out]at hB0 hvb;have m1:IntKind.i64.wrap ((i0:Int)+1)=(i0:Int)+1:=IntWalk.i64_in _ (by omega);have j0:(0:Int)<=(i0:Int):=by omega
 have j1:(i0:Int)<(N1:Int):=by omega
 have j2:(i0:Int)<=(a2:Int):=by omega
 have j3:(i0:Int)+1<=(N1:Int):=by omega
 have j4:(0:Int)<=(i0:Int)+1:=by omega
 clear h1 h2 h3 hw1;go_enter Tryz.func82,Tryz.ntmps82;go_upto_region 1 with(fail);rw[<-hwh.out,<-hB.out];refine Rel.b_region w1 [some (.pointer (some ⟨B,0,none⟩)),some (.slice (some ⟨vb,vo,none⟩) N1 a2),some (.int .i64 (i0:Int)),some (.int .i64 (i0:Int)),some (.slice (some ⟨vb,vo,none⟩) i0 i0),some (.pointer (some ⟨B,0,none⟩)),some (.slice (some ⟨vb,vo,none⟩) N1 a2),some (.int .i64 (i0:Int)),some (.int .i64 ((i0:Int)+1)),none,none,some (.pointer (some ⟨B,0,none⟩)),none] (fun i v W=>match i with
  | 9=>VL W v (g.vs.drop (i0+1))
  | 10=>VL W v (g.vs.take i0++g.vs.drop (i0+1))/\ ∀k,v.ownBlock=some k->k=vb\/B+2<=k
  | _=>True) (fun _ W=>∃x,W.heap[B]?=some (.cells #[x,.slice b1 N2 b2,.slice c1 N3 c2] 26 (0,0))/\W.heap[B+1]?=some (.cells #[.slice none 0 0,.slice none 0 0,.slice none 0 0] 26 (0,0))/\VL W x (g.vs.take i0++g.vs.drop (i0+1))/\(∀k,x.ownBlock=some k->k=vb\/B+2<=k)/\Below B w0 W) 12 (by kernel_rfl) (by kernel_rfl) rfl (fun i v W W' h Bl=>by split at h<;>first|exact trivial|exact VL.below h Bl|exact⟨VL.below h.1 Bl,h.2⟩) (fun _ _ _ i h=>by have:=i 10 (by decide);exact h) ((Below.refl _ w1).drew) (fun vals hO=>?_)
 refine Rel.b_pure (.pointer (some ⟨B,0,none⟩)) rfl (by decide) (hO 0 _ rfl) (by rfl) (fun w hC hd=>?_) ?_
 ·clear hd hO;go_simp
 try simp only[Act.put,zT,z0,zS]
 refine Rel.b_pure (.slice (some ⟨vb,vo,none⟩) N1 a2) rfl (by decide) (hO 1 _ rfl) (by rfl) (fun w hC hd=>?_) ?_
 ·obtain⟨t0,t1,t2⟩:=hT.out w hC;clear hd hO;go_simp
 try simp only[Act.put,zT,z0,zS]
 refine Rel.b_pure (.int .i64 (i0:Int)) rfl (by decide) (hO 2 _ rfl) (by rfl) (fun w hC hd=>?_) ?_
 ·clear hd hO;go_simp
 try simp only[Act.put,zT,z0,zS]
 refine Rel.b_pure (.int .i64 (i0:Int)) rfl (by decide) (hO 3 _ rfl) (by rfl) (fun w hC hd=>?_) ?_
 ·clear hd hO;go_simp
 try simp only[Act.put,zT,z0,zS]
 refine Rel.b_pure (.slice (some ⟨vb,vo,none⟩) i0 i0) rfl (by decide) (hO 4 _ rfl) (by rfl) (fun w hC hd=>?_) ?_
 ·clear hd hO;go_simp
 try simp only[Act.put,zT,z0,zS]
 refine Rel.b_pure (.pointer (some ⟨B,0,none⟩)) rfl (by decide) (hO 5 _ rfl) (by rfl) (fun w hC hd=>?_) ?_
 ·clear hd hO;go_simp
 try simp only[Act.put,zT,z0,zS]
 refine Rel.b_pure (.slice (some ⟨vb,vo,none⟩) N1 a2) rfl (by decide) (hO 6 _ rfl) (by rfl) (fun w hC hd=>?_) ?_
 ·obtain⟨t0,t1,t2⟩:=hT.out w hC;clear hd hO;go_simp
 try simp only[Act.put,zT,z0,zS]
 refine Rel.b_pure (.int .i64 (i0:Int)) rfl (by decide) (hO 7 _ rfl) (by rfl) (fun w hC hd=>?_) ?_
 ·clear hd hO;go_simp
 try simp only[Act.put,zT,z0,zS]
 refine Rel.b_pure (.int .i64 ((i0:Int)+1)) rfl (by decide) (hO 8 _ rfl) (by rfl) (fun w hC hd=>?_) ?_
 ·clear hd hO;go_simp
 try simp only[Act.put,zT,z0,zS]
 refine Rel.b_rel rfl (by decide) (by rfl) (fun w hC hd=>?_) ?_
 ·have hv:=hV.out w hC;have hT2:=(hv.tail (i:=i0+1) hN1.out (by omega));clear hd hO;by_cases hc:a2=i0+1
  ·have hnil:g.vs.drop (i0+1)=[]:=List.drop_eq_nil_iff.2 (by rw[<-hN1.out];omega);rw[hnil];refine post_value (.slice (some ⟨vb,vo,none⟩) (N1-(i0+1)) 0) w (by go_simp) ⟨Below.refl _ _,?_⟩;exact .inl ⟨rfl,_,_,by rw[show N1-(i0+1)=0 by omega]⟩
  ·refine post_value (.slice (some ⟨vb,vo+(i0+1)*2,none⟩) (N1-(i0+1)) (a2-(i0+1))) w (by go_simp) ⟨Below.refl _ _,hT2⟩
 try simp only[Act.put,zT,z0,zS]
 refine Rel.b_rel rfl (by decide) (by rfl) (fun w hC hd=>?_) ?_
 ·have h1:=hd 9 (by decide);obtain⟨v',w',hr,hv,hob,hbel⟩:=app_V w vb vo N1 a2 i0 g.vs (hV.out w hC) (by have:=hC.size;omega) (by rw[<-hN1.out];omega) (vals 9) _ h1 (by rw[<-hN1.out];omega) (by rw[List.length_drop,<-hN1.out];omega);exact post_append (.tmp 9) (.tmp 14) 22 rfl _ _ rfl rfl v' w' hr ⟨hbel,hv,fun k hk=>(hob k hk).imp_right fun h=>by have:=hC.size;omega⟩
 try simp only[Act.put,zT,z0,zS]
 refine Rel.b_pure (.pointer (some ⟨B,0,none⟩)) rfl (by decide) (hO 11 _ rfl) (by rfl) (fun w hC hd=>?_) ?_
 ·clear hd hO;go_simp
 try simp only[Act.put,zT,z0,zS]
 refine Rel.b_last rfl (by rfl) (fun w hC hd=>?_) ?_
 ·obtain⟨h1,h2⟩:=hd 10 (by decide);obtain⟨x1,x2,ex⟩:=h1.shape;obtain⟨M,hM⟩:∃M,Hid (M=(g.vs.take i0++g.vs.drop (i0+1)).length):=⟨_,rfl⟩;rw[<-hM.out]at ex;rw[ex]at h1 h2;rw[ex];have r7:=(hC.block B hlt0).trans hbox.out;have r8:=(hC.block (B+1) hlt).trans hres.out;have fr:=free_of_block (i:=0) r7;obtain⟨c7,_,_⟩:=box3 r7;have hb0:=hB0.out.trans (hC.mono (by omega));refine post_skip (w.setCell ⟨B,0,none⟩ (.slice x1 M x2)) (by clear hd hO h1 h2 r7 r8 hb0 ex;go_simp) ?_;exact⟨_,heap_setCell_same w B 0 _ 26 _ r7,(heap_setCell_other w _ (B+1) _ (by simp)).trans r8,VL.keep h1 (fun k hk _=>heap_setCell_other w _ k _ (by have:=h2 k hk;simp;omega)) (by simp),h2,hb0.setCell (by exact Nat.le_refl B) _⟩
 try simp only[Act.put,zT,z0,zS]
 refine Rel.b_end ?_;intro w' hfin;obtain⟨x,r7,r8,h1,h2,h4⟩:=hfin;obtain⟨x1,x2,rfl⟩:=h1.shape;obtain⟨M,hM⟩:∃M,Hid (M=(g.vs.take i0++g.vs.drop (i0+1)).length):=⟨_,rfl⟩;rw[<-hM.out]at r7 h1 h2;have o1:=Hd h1;have o2:=Hd h2;have o4:=Hd h4;have q7:=Hd r7;have q8:=Hd r8;obtain⟨t0,t1,t2⟩:=box3 r7;clear h1 h2 h4 r7 r8
 go_wp2_with (refine wpList_store_row rfl 26 (.tmp 4) (.tmp 17) rfl (B+1) #[.slice x1 M x2,.slice b1 N2 b2,.slice c1 N3 c2] rfl rfl 26 _ q8.out (size26b _ _ _) rfl (by simp[Value.oneCell']) ?_)
 refine bodyPost_ret (v:=_) (results_cell_row (fn:=Tryz.f82) rfl _ _ (B+1) 26 #[.slice x1 M x2,.slice b1 N2 b2,.slice c1 N3 c2] (0,0) _ rfl (setRow_heap _ _ _ _ _ _ q8.out) Tryz.underlying26 rfl (size26b _ _ _)) rfl ?_;have hbl:=below_row o4.out (show B<=B+1 by omega) #[.slice x1 M x2,.slice b1 N2 b2,.slice c1 N3 c2];rw[hB.out]at hbl;refine⟨_,rfl,⟨VL.keep o1.out (fun k hk _=>setRow_other _ _ _ _ (by have:=o2.out k hk;omega)) (by simp),hh2.out.below (by rw[<-hB.out]at hbl ⊢;exact hbl),hh3.out.below (by rw[<-hB.out]at hbl ⊢;exact hbl)⟩,fun k hk=>(o2.out k hk).imp (fun e=>by rw[e];rfl) (fun h=>by have:=hB.out;omega),by rw[<-hB.out]at hbl ⊢;exact hbl⟩
set_option maxHeartbeats 1000000 in
theorem hasR_any(v:Value)(l:List Int)(x:Int)(w:World)(hv:DL w v l)(hn:l.length<=1000000):
  Calls Tryz.prog 81 #[v,.int .i64 x] w fun e w'=>e= .returned (.bool (decide (x∈l)))/\w=w':=by
 obtain⟨a1,a2,rfl⟩:=hv.shape;have hv1:=Hd hv;have cellD:=Hd (show ∀(k:Nat) (hk:k<l.length),∃b o,a1=some ⟨b,o,none⟩/\w.cell? ⟨b,o+k,none⟩=some (.int .i64 l[k])from fun k hk=>by
  rcases hv1.out with⟨h0,_⟩|⟨_,b,o,c2,e1,_,_,e3⟩
  ·rw[h0]at hk;simp at hk
  ·injection e1 with e1 _ _
   exact⟨b,o,e1,e3 k _ (List.getElem?_eq_getElem hk)⟩)
 obtain⟨N,hN⟩:∃N,Hid (N=l.length):=⟨_,rfl⟩;rw[<-hN.out]at hn ⊢;obtain⟨R,hR⟩:∃R:Bool,Hid (R=decide (x∈l)):=⟨_,rfl⟩;rw[<-hR.out];clear hv hv1;go_enter Tryz.func81,Tryz.ntmps81;go_wp2_with fail
 go_loop [5] (fun i=>∃k:Nat,k<=N/\i= .int .i64 k/\Hid (x∉l.take k)) (fun i=>N-(intOf i).toNat)
 case atStart=>exact⟨0,by omega,rfl,Hd (by simp)⟩
 case round =>
  obtain⟨k,hk,rfl,hno⟩:=hrel;have i0:(0:Int)<=(k:Int):=by omega
  by_cases hlt:k<N
  ·have i1:(k:Int)<(N:Int):=by omega
   have hkl:k<l.length:=by rw[<-hN.out];exact hlt
   obtain⟨b,o,rfl,c0⟩:=cellD.out k hkl;have hsn:Hid (l.take (k+1)=l.take k++[l[k]]):=List.take_succ_eq_append_getElem hkl;have hmem:Hid (l[k]∈l):=List.getElem_mem hkl;generalize l[k]=y at *
   by_cases hy:y=x
   ·have q1:(y==x)=true:=by simpa using hy
    have hf:Hid (R=true):=by show _=_;rw[hR.out,<-hy];exact decide_eq_true hmem.out
    clear hy hsn hmem hno;go_wp2_with fail;go_ret;exact⟨by rw[hf.out];rfl,rfl⟩
   ·have q1:(y==x)=false:=by simpa using hy
    have hf:Hid (x∉l.take (k+1)):=by
     show _;rw[hsn.out];intro h;rcases List.mem_append.1 h with h|h
     ·exact hno.out h
     ·exact hy (List.mem_singleton.1 h).symm
    clear hy hsn hmem hno;go_wp2_with fail
    go_round
    case rel=>exact⟨k+1,by omega,by go_num,hf⟩
    case measure=>simp[intOf];omega
  ·have i1:¬(k:Int)<(N:Int):=by omega
   have hf:Hid (R=false):=by
    show _=_;have h:=hno.out;rw[List.take_of_length_le (by rw[<-hN.out];omega)]at h;rw[hR.out];exact decide_eq_false h
   clear hno;go_wp2_with fail;go_ret;exact⟨by rw[hf.out];rfl,rfl⟩
end Go.Proofs.YtlaldnlgapeckaaGreat
