/- Facts. -/
import Derived.Deep.RegionLaw
import Derived.Laws.CopyRow
import Derived.Laws.Externs
import Derived.Lib.AppendZerosOnto
import Derived.Lib.Overlaps
import Derived.Test.YtlnbobclbaieoaaUNVYP
set_option maxRecDepth 100000
set_option maxHeartbeats 4000000
namespace Go.Proofs.Ytlnbobclbaieoaa
open Go.RowKit
section
variable {P:Program}
theorem wpList_copy_runI(w:World){ops:Array Oper}{rest:List Oper}{o:Oper}{a:Act}{Q:Exit->Act->World->Prop}(hgd:o.guard=none)(d s:Operand)(t t':TypeId)
  (ho:o.op= .call {callee:= .builtin .copy,args:= #[d,s],argTypes:= #[t,t']}) (v u:Value) (hd:a.eval d=v) (hs:a.eval s=u) {v':Value} {w':World}
  (hr:(Builtin.copy_ #[t,t'] o.type #[v,u]).run P w= .ok v' w') (h:wpList P ops Q rest (a.put o.dst v') w'):wpList P ops Q (o::rest) a w:=by
 refine wpList_plain hgd fun K hK=>?_;unfold Oper.wp execOp;simp only[ho,resolve,invoke,builtin,Sem.run_bind,Sem.run_pure,Result.andThen_ok,List.map_toArray,List.map_cons,List.map_nil,hd,hs,hr];exact hK _ _ h
theorem step_copy_runI{ops:Array Oper}{o:Oper}{a:Act}{w:World}{K:Act->World->Prop}{Q:Exit->Act->World->Prop}{E:Prop}
  (hg:o.guard=none) (d x:Operand) (dT sT:TypeId) (hop:o.op=Op.call {callee:= .builtin .copy,args:= #[d,x],argTypes:= #[dT,sT]})
  (v u:Value) (hd:a.eval d=v) (hx:a.eval x=u) {v':Value} {w':World} (hr:(Builtin.copy_ #[dT,sT] o.type #[v,u]).run P w= .ok v' w') (hK:K (a.put o.dst v') w') :
  if Region.wanted o (yielded ops a.tmps)=true then Oper.wp P o a w K Q else E:=by
 have hw:Region.wanted o (yielded ops a.tmps)=true:=by simp[Region.wanted,hg]
 rw[if_pos hw];unfold Oper.wp;simp[execOp,hop,resolve,invoke,builtin,hd,hx,hr,Result.andThen];exact hK
theorem step_append_runI{ops:Array Oper}{o:Oper}{a:Act}{w:World}{K:Act->World->Prop}{Q:Exit->Act->World->Prop}{E:Prop}
  (hg:o.guard=none) (d x:Operand) (dT sT:TypeId) (hop:o.op=Op.call {callee:= .builtin .append,args:= #[d,x],argTypes:= #[dT,sT]})
  (v u:Value) (hd:a.eval d=v) (hx:a.eval x=u) {v':Value} {w':World} (hr:(Builtin.append_ #[dT,sT] o.type #[v,u]).run P w= .ok v' w') (hK:K (a.put o.dst v') w') :
  if Region.wanted o (yielded ops a.tmps)=true then Oper.wp P o a w K Q else E:=by
 have hw:Region.wanted o (yielded ops a.tmps)=true:=by simp[Region.wanted,hg]
 rw[if_pos hw];unfold Oper.wp;simp[execOp,hop,resolve,invoke,builtin,hd,hx,hr,Result.andThen];exact hK
end
def vxCells(v:Vx):Array Value:= #[.int .i64 v.id,.int .i64 v.side]
theorem info29:(Try.prog.info? 31).map (fun i=>(i.zero,i.size,i.bytes))=some (some (.agg #[.int .i64 0,.int .i64 0]),2,16):=by kernel_rfl
def cVx(l:List Vx):List Value:=l.flatMap fun e=>(vxCells e).toList
theorem cVx_at(l:List Vx):∀(j:Nat) (e:Vx) (i:Nat),l[j]?=some e->i<2->(cVx l)[j*2+i]?=(vxCells e).toList[i]?:=by
 induction l with
 | nil=>intro j e i h;simp at h
 | cons x t ih =>
  intro j e i h hi;have hx:(vxCells x).toList.length=2:=rfl;cases j with
  | zero =>
   simp at h;subst h;show((vxCells x).toList++cVx t)[0*2+i]?=_;rw[List.getElem?_append_left (by omega)]
   simp
  | succ j =>
   show((vxCells x).toList++cVx t)[(j+1)*2+i]?=_;rw[List.getElem?_append_right (by omega),hx,show(j+1)*2+i-2=j*2+i by omega];exact ih j e i (by simpa using h) hi
def OwnV(W:World)(base:Nat)(v:Value)(l:List Vx):Prop:=W.ownsRow base 31 2 v l.length (cVx l)
theorem OwnV.VL{W:World}{base:Nat}{v:Value}{l:List Vx}(h:OwnV W base v l):VL W v l:=by
 unfold OwnV at h;rcases h.2 with⟨rfl,h0⟩|⟨g,cap,cur,rfl,hb,hg,hc,hm,hs,ht⟩
 ·exact .inl ⟨List.length_eq_zero_iff.1 h0,_,_,rfl⟩
 ·by_cases hl:l=[]
  ·subst hl;exact .inl ⟨rfl,_,_,rfl⟩
  ·refine .inr ⟨hl,g,0,cap,rfl,hc,(Array.getElem?_eq_some_iff.1 hg).1,fun j e he=>?_⟩;have hj:j<l.length:=(List.getElem?_eq_some_iff.1 he).1;have key:∀i,i<2->W.cell? ⟨g,0+j*2+i,none⟩=(vxCells e).toList[i]?:=fun i hi=>by
    rw[cell_of_row _ _ _ _ _ _ hg,<-cVx_at l j e i he hi,<-ht,List.getElem?_take_of_lt (by omega)]
    simp
   exact⟨key 0 (by omega),key 1 (by omega)⟩
theorem info3:(Try.prog.info? 3).map (fun i=>(i.zero,i.size,i.bytes))=some (some (.int .i64 0),1,8):=by kernel_rfl
def cI(l:List Int):List Value:=l.map (Value.int .i64)
def OwnI(W:World)(base:Nat)(v:Value)(l:List Int):Prop:=W.ownsRow base 3 1 v l.length (cI l)
theorem OwnI.DL{W:World}{base:Nat}{v:Value}{l:List Int}(h:OwnI W base v l):DL W v l:=by
 unfold OwnI at h;rcases h.2 with⟨rfl,h0⟩|⟨g,cap,cur,rfl,hb,hg,hc,hm,hs,ht⟩
 ·exact .inl ⟨List.length_eq_zero_iff.1 h0,_,_,rfl⟩
 ·by_cases hl:l=[]
  ·subst hl;exact .inl ⟨rfl,_,_,rfl⟩
  ·refine .inr ⟨hl,g,0,cap,rfl,hc,(Array.getElem?_eq_some_iff.1 hg).1,fun j x hx=>?_⟩;have hj:j<l.length:=(List.getElem?_eq_some_iff.1 hx).1;rw[cell_of_row _ _ _ _ _ _ hg];have h2:(cI l)[0+j]?=some (.int .i64 x):=by simp[cI,hx]
   rw[<-h2,<-ht,List.getElem?_take_of_lt (by omega)]
   simp
theorem OwnI.base{W:World}{base:Nat}{v:Value}{l:List Int}(h:OwnI W base v l)(k:Nat)(hk:v.ownBlock=some k):base<=k/\k<W.heap.size:=by
 unfold OwnI at h;rcases h.2 with⟨rfl,_⟩|⟨g,cap,cur,rfl,hg,hh,_⟩
 ·simp[Value.ownBlock]at hk
 ·simp[Value.ownBlock]at hk;subst hk;exact⟨hg,(Array.getElem?_eq_some_iff.1 hh).1⟩
theorem lieD_cells{W:World}{b o:Nat}{l:List Int}(h:LieD W b o l)(j:Nat)(u:Value)(hj:(cI l)[j]?=some u):W.cell? ((⟨b,o,none⟩:Addr).add j)=some u:=by
 unfold cI at hj;rw[List.getElem?_map]at hj;cases hl:l[j]? with
 | none=>rw[hl]at hj;cases hj
 | some x=>rw[hl]at hj;cases hj;rw[Addr.add_lit];exact h j x hl
theorem cI_len(l:List Int):(cI l).length=l.length*1:=by simp[cI]
end Go.Proofs.Ytlnbobclbaieoaa
