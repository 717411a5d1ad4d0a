/- Facts. -/
import Derived.ArgAppend
import Derived.Defers
import Derived.Laws.Pointers
import Derived.Lib.AppendStr
import Derived.Lib.Builder
import Derived.Recover
import Derived.Shelf.RegionOpenPlain
import Derived.Test.YthmkmjkbfjhffaaVNVYMw
import Derived.Test.YthmkmjkbfjhffaaVNVYQt
set_option linter.unusedSimpArgs false
set_option maxRecDepth 100000
set_option maxHeartbeats 4000000
namespace Go.Proofs.Ythmkmjkbfjhffaa
open Go.RowKit
theorem app_gen(T e:TypeId)(i0:TypeInfo)(z:Value)(k by_:Nat)(hT:Try.prog.underlying T=some (.slice e))(hi:Try.prog.info? e=some i0)(hz:i0.zero=some z)(hk:i0.size=k)(hby:i0.bytes=by_)(hzs:z.cells.size=k)(h0:0<k)(hb:by_<=200)
  (W:World) (b:Addr) (n:Nat) (olds:List Value) (hlo:olds.length=n*k) (holds:∀j u,olds[j]?=some u->W.cell? (b.add j)=some u) (a:Option Addr) (m c:Nat) (news:List Value) (hl:news.length=m*k) (hnews:∀x,a=some x->∀j u,news[j]?=some u->W.cell? (x.add j)=some u) (ha:a=none->m=0) (hnm:n+m<=1000000) :
  (m=0/\(Builtin.append_ #[T,T] T #[.slice (some b) n n,.slice a m c]).run Try.prog W= .ok (.slice (some b) n n) W) \/
  (0<m/\ ∃v' W',(Builtin.append_ #[T,T] T #[.slice (some b) n n,.slice a m c]).run Try.prog W= .ok v' W'/\W'.ownsRow W.heap.size e k v' (n+m) (olds++news)/\Below W.heap.size W W'):=by
 by_cases hm:m=0
 ·refine .inl ⟨hm,?_⟩;subst hm;have hfn:=run_firstCells_none (P:=Try.prog) (w:=W) i0.size 0 0 c;have hfs:=fun a=>run_firstCells_some (P:=Try.prog) W i0.size 0 a 0 c [] (by simp) (by simp);cases a with
  | none=>simp[Builtin.append_,run_underlying hT,sizeOf,typeInfo,zeroValue,hi,hz,Builtin.lenOf,Question.forced,hfn,storeCells]
  | some x=>simp[Builtin.append_,run_underlying hT,sizeOf,typeInfo,zeroValue,hi,hz,Builtin.lenOf,Question.forced,hfs,storeCells]
 ·refine .inr ⟨by omega,?_⟩;cases a with
  | none=>exact absurd (ha rfl) hm
  | some x =>
   have hmul:(n+m)*by_<=1000000*200:=Nat.mul_le_mul hnm hb;obtain⟨v',w',hr,ho,hg⟩:=run_append_arg_grows (P:=Try.prog) (w:=W) T T e i0 z k by_ hT hi hz hk hby hzs h0 b n n olds hlo holds x m c news hl (hnews x rfl) (by omega) (by unfold maxLen;omega) (by omega);exact⟨v',w',hr,ho,(Below.refl _ W).grown hg (Nat.le_refl _) (fun j hj=>by cases hj)⟩
theorem app_emptyI(W:World)(B b:Nat)(hown:OwnI W B (.slice (some ⟨b,0,none⟩) 0 0) [])(src:Value)(l:List Int)(hs:DL W src l)(hB:B<=W.heap.size)(hl:l.length<=1000000):
  ∃v' W',(Builtin.append_ #[26,26] 26 #[.slice (some ⟨b,0,none⟩) 0 0,src]).run Try.prog W= .ok v' W'/\OwnI W' B v' l/\Below W.heap.size W W':=by
 obtain⟨i0,hi,hz0,hz1,hz2⟩:=info_parts info3;obtain⟨a,c,rfl⟩:=hs.shape;rcases app_gen 26 3 i0 _ 1 8 Try.underlying26 hi hz0 hz1 hz2 rfl (by omega) (by omega) W ⟨b,0,none⟩ 0 [] rfl (by simp) a l.length c (cI l) (cI_len l) (fun x hx=>by
  rcases hs with⟨rfl,_⟩|⟨_,b',o',c',e,_,_,h4⟩
  ·simp[cI]
  ·injection e with e _ _
   rw[e]at hx;injection hx with hx
   subst hx;exact lieD_cells h4) (fun hx=>by
  rcases hs with⟨rfl,_⟩|⟨_,b',o',c',e,_⟩
  ·rfl
  ·injection e with e _ _
   rw[e]at hx;cases hx) (by omega)with⟨h0,hr⟩|⟨h0,v',W',hr,ho,hb⟩
 ·have:l=[]:=List.length_eq_zero_iff.1 h0;subst this;exact⟨_,_,hr,hown,Below.refl _ _⟩
 ·refine⟨v',W',hr,?_,hb⟩;rw[Nat.zero_add,List.nil_append]at ho;exact own_low ho hB
theorem post_append{o:Oper}{a:Act}{w:World}{R:Value->World->Prop}(s x:Operand)(t:TypeId)(ho:o.op= .call {callee:= .builtin .append,args:= #[s,x],argTypes:= #[t,t]})(u v:Value)(hs:a.eval s=u)(hx:a.eval x=v)(v':Value)(w':World)
  (hr:(Builtin.append_ #[t,t] o.type #[u,v]).run Try.prog w= .ok v' w') (h:R v' w'):Rel.post Try.prog o a w R:=by
 unfold Rel.post execOp;simp only[ho,resolve,invoke,builtin,Sem.run_bind,Sem.run_pure,Result.andThen_ok,List.map_toArray,List.map_cons,List.map_nil,hs,hx,hr];exact h
theorem post_value{o:Oper}{a:Act}{w:World}{R:Value->World->Prop}(v:Value)(w':World)(hr:(execOp a.eval o).run Try.prog w= .ok (.value v) w')(h:R v w'):Rel.post Try.prog o a w R:=by
 unfold Rel.post;rw[hr];exact h
theorem post_store_row{o:Oper}{a:Act}{w:World}{R:Value->World->Prop}(ty:TypeId)(x y:Operand)(ho:o.op= .store ty x y)
  (g:Nat) (cells:Array Value) (hx:a.eval x= .pointer (some ⟨g,0,none⟩)) (hy:a.eval y= .agg cells)
  (t:TypeId) (old:Array Value) (hg:w.heap[g]?=some (.cells old t (0,0))) (hi:(Try.prog.info? ty).map (·.size)=some cells.size)
  (hold:old.size=cells.size) (h1:cells.all (·.oneCell')=true) (h:R undef (w.setRow g cells)):Rel.post Try.prog o a w R:=by
 unfold Rel.post execOp;simp only[ho,hx,hy,Instr.storeAt,Instr.sureAddr,Sem.run_bind,Sem.run_pure,Result.andThen_ok,run_storeVar_row w g t ty old cells hg hi hold h1];exact h
theorem keep_cell{W W':World}{b i:Nat}(h:W'.heap[b]?=W.heap[b]?):W'.cell? ⟨b,i,none⟩=W.cell? ⟨b,i,none⟩:=World.cell?_of_block h
theorem VL.keep{W W':World}{v:Value}{l:List Vx}(h:VL W v l)(hk:∀k,v.ownBlock=some k->k<W.heap.size->W'.heap[k]?=W.heap[k]?)(hs:W.heap.size<=W'.heap.size):VL W' v l:=by
 rcases h with h|⟨h0,b,o,c,rfl,h2,h3,h4⟩
 ·exact .inl h
 ·have hb:=hk b rfl h3;exact .inr ⟨h0,b,o,c,rfl,h2,Nat.lt_of_lt_of_le h3 hs,fun j x hx=>by rw[keep_cell hb,keep_cell hb];exact h4 j x hx⟩
end Go.Proofs.Ythmkmjkbfjhffaa
