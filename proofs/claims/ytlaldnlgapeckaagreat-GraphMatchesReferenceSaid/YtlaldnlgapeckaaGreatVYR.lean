/- Facts. -/
import Derived.Deep.RegionLaw
import Derived.Laws.CopyRow
import Derived.Laws.Externs
import Derived.Lib.AppendZerosOnto
import Derived.Lib.Overlaps
import Derived.Test.YtlaldnlgapeckaaGreatVYP
set_option maxRecDepth 100000
set_option maxHeartbeats 4000000
namespace Go.Proofs.YtlaldnlgapeckaaGreat
open Go.RowKit
section
variable {P:Program}
theorem run_copy_rowK(w:World)(dT sT ty elem:TypeId)(k g o dLen dCap:Nat)(a:Addr)(sLen sCap:Nat)(cur:Array Value)(t:TypeId)(cs:List Value)
  (hu:P.underlying dT=some (.slice elem)) (hz:∀w,(Go.sizeOf elem).run P w= .ok k w)
  (hg:w.heap[g]?=some (.cells cur t (0,0))) (hn:cs.length=Nat.min sLen dLen*k)
  (hsrc:∀j v,cs[j]?=some v->w.cell? (a.add j)=some v) (hfit:o+cs.length<=cur.size) (h1:∀v∈cs,v.oneCell'=true) :
  (Builtin.copy_ #[dT,sT] ty #[.slice (some ⟨g,o,none⟩) dLen dCap,.slice (some a) sLen sCap]).run P w =
   .ok (goInt (Nat.min sLen dLen)) (w.setRow g (cur.toList.take o++cs++cur.toList.drop (o+cs.length)).toArray):=by
 have hl:=run_loadCells_list (P:=P) w a cs hsrc;have hst:=run_storeCells_at P g o t cs 0 cur w hg (by simpa using hfit) h1;simp only[Nat.add_zero]at hst;rw[hn]at hl;simp[Builtin.copy_,run_underlying hu,Builtin.lenOf,Builtin.firstCells,hz,hl,hst]
theorem run_clear_rowK(w:World)(t elem ty:TypeId)(z:Value)(hu:P.underlying t=some (.slice elem))(hv:∀w,(zeroValue elem).run P w= .ok z w)(g o n c:Nat)(cur:Array Value)(t':TypeId)(hn:0<n)
  (hg:w.heap[g]?=some (.cells cur t' (0,0))) (hfit:o+n*z.cells.size<=cur.size) (h1:∀v∈(Builtin.zeroCells z.cells n).toList,v.oneCell'=true) :
  (Builtin.clear_ #[t] ty #[.slice (some ⟨g,o,none⟩) n c]).run P w= .ok (.tuple #[]) (w.setRow g (cur.toList.take o++(Builtin.zeroCells z.cells n).toList++cur.toList.drop (o+n*z.cells.size)).toArray):=by
 have hl:(Builtin.zeroCells z.cells n).toList.length=n*z.cells.size:=by rw[Array.length_toList,size_zeroCells]
 have hst:=run_storeCells_at P g o t' (Builtin.zeroCells z.cells n).toList 0 cur w hg (by rw[hl];simpa using hfit) h1;simp only[Nat.add_zero,hl]at hst;obtain⟨m,rfl⟩:∃m,n=m+1:=⟨n-1,by omega⟩;simp[Builtin.clear_,run_underlying hu,hv,hst]
theorem wpList_copy_runI(w:World){ops:Array Oper}{rest:List Oper}{o:Oper}{a:Act}{Q:Exit->Act->World->Prop}(hgd:o.guard=none)(d s:Operand)(t t':TypeId)
  (ho:o.op= .call {callee:= .builtin .copy,args:= #[d,s],argTypes:= #[t,t']}) (v u:Value) (hd:a.eval d=v) (hs:a.eval s=u) {v':Value} {w':World}
  (hr:(Builtin.copy_ #[t,t'] o.type #[v,u]).run P w= .ok v' w') (h:wpList P ops Q rest (a.put o.dst v') w'):wpList P ops Q (o::rest) a w:=by
 refine wpList_plain hgd fun K hK=>?_;unfold Oper.wp execOp;simp only[ho,resolve,invoke,builtin,Sem.run_bind,Sem.run_pure,Result.andThen_ok,List.map_toArray,List.map_cons,List.map_nil,hd,hs,hr];exact hK _ _ h
theorem step_copy_runI{ops:Array Oper}{o:Oper}{a:Act}{w:World}{K:Act->World->Prop}{Q:Exit->Act->World->Prop}{E:Prop}
  (hg:o.guard=none) (d x:Operand) (dT sT:TypeId) (hop:o.op=Op.call {callee:= .builtin .copy,args:= #[d,x],argTypes:= #[dT,sT]})
  (v u:Value) (hd:a.eval d=v) (hx:a.eval x=u) {v':Value} {w':World} (hr:(Builtin.copy_ #[dT,sT] o.type #[v,u]).run P w= .ok v' w') (hK:K (a.put o.dst v') w') :
  if Region.wanted o (yielded ops a.tmps)=true then Oper.wp P o a w K Q else E:=by
 have hw:Region.wanted o (yielded ops a.tmps)=true:=by simp[Region.wanted,hg]
 rw[if_pos hw];unfold Oper.wp;simp[execOp,hop,resolve,invoke,builtin,hd,hx,hr,Result.andThen];exact hK
theorem step_append_runI{ops:Array Oper}{o:Oper}{a:Act}{w:World}{K:Act->World->Prop}{Q:Exit->Act->World->Prop}{E:Prop}
  (hg:o.guard=none) (d x:Operand) (dT sT:TypeId) (hop:o.op=Op.call {callee:= .builtin .append,args:= #[d,x],argTypes:= #[dT,sT]})
  (v u:Value) (hd:a.eval d=v) (hx:a.eval x=u) {v':Value} {w':World} (hr:(Builtin.append_ #[dT,sT] o.type #[v,u]).run P w= .ok v' w') (hK:K (a.put o.dst v') w') :
  if Region.wanted o (yielded ops a.tmps)=true then Oper.wp P o a w K Q else E:=by
 have hw:Region.wanted o (yielded ops a.tmps)=true:=by simp[Region.wanted,hg]
 rw[if_pos hw];unfold Oper.wp;simp[execOp,hop,resolve,invoke,builtin,hd,hx,hr,Result.andThen];exact hK
end
theorem grownBy_setRow(w w':World)(g:Nat)(cs:Array Value)(h:w.grownBy w' (some g)):w.grownBy (w'.setRow g cs) (some g) :=
 ⟨h.os,h.tape,h.output,by simp;exact h.size,fun k hk hne=>(setRow_other w' g k cs (fun e=>hne (by rw[e]))).trans (h.block k hk hne)⟩
theorem grownBy_drew(w w':World)(r:Option Nat)(h:w.grownBy w' r):w.grownBy w'.drew r:=⟨h.os,h.tape,h.output,h.size,h.block⟩
def vxCells(v:Vx):Array Value:= #[.int .i64 v.id,.int .i64 v.side]
theorem info29:(Tryz.prog.info? 29).map (fun i=>(i.zero,i.size,i.bytes))=some (some (.agg #[.int .i64 0,.int .i64 0]),2,16):=by kernel_rfl
def cVx(l:List Vx):List Value:=l.flatMap fun e=>(vxCells e).toList
theorem cVx_len(l:List Vx):(cVx l).length=l.length*2:=by
 induction l with
 | nil=>rfl
 | cons e t ih=>simp only[cVx,List.flatMap_cons,List.length_append,List.length_cons]at ih ⊢;rw[ih];simp[vxCells];omega
theorem cVx_at(l:List Vx):∀(j:Nat) (e:Vx) (i:Nat),l[j]?=some e->i<2->(cVx l)[j*2+i]?=(vxCells e).toList[i]?:=by
 induction l with
 | nil=>intro j e i h;simp at h
 | cons x t ih =>
  intro j e i h hi;have hx:(vxCells x).toList.length=2:=rfl;cases j with
  | zero =>
   simp at h;subst h;show((vxCells x).toList++cVx t)[0*2+i]?=_;rw[List.getElem?_append_left (by omega)]
   simp
  | succ j =>
   show((vxCells x).toList++cVx t)[(j+1)*2+i]?=_;rw[List.getElem?_append_right (by omega),hx,show(j+1)*2+i-2=j*2+i by omega];exact ih j e i (by simpa using h) hi
def OwnV(W:World)(base:Nat)(v:Value)(l:List Vx):Prop:=W.ownsRow base 29 2 v l.length (cVx l)
theorem OwnV.VL{W:World}{base:Nat}{v:Value}{l:List Vx}(h:OwnV W base v l):VL W v l:=by
 unfold OwnV at h;rcases h.2 with⟨rfl,h0⟩|⟨g,cap,cur,rfl,hb,hg,hc,hm,hs,ht⟩
 ·exact .inl ⟨List.length_eq_zero_iff.1 h0,_,_,rfl⟩
 ·by_cases hl:l=[]
  ·subst hl;exact .inl ⟨rfl,_,_,rfl⟩
  ·refine .inr ⟨hl,g,0,cap,rfl,hc,(Array.getElem?_eq_some_iff.1 hg).1,fun j e he=>?_⟩;have hj:j<l.length:=(List.getElem?_eq_some_iff.1 he).1;have key:∀i,i<2->W.cell? ⟨g,0+j*2+i,none⟩=(vxCells e).toList[i]?:=fun i hi=>by
    rw[cell_of_row _ _ _ _ _ _ hg,<-cVx_at l j e i he hi,<-ht,List.getElem?_take_of_lt (by omega)]
    simp
   exact⟨key 0 (by omega),key 1 (by omega)⟩
theorem cVx_take(l:List Vx)(i:Nat):(cVx l).take (i*2)=cVx (l.take i):=by
 induction l generalizing i with
 | nil=>simp[cVx]
 | cons e t ih =>
  cases i with
  | zero=>simp[cVx]
  | succ i =>
   have h:(vxCells e).toList.length=2:=rfl;rw[List.take_succ_cons,show cVx (e::t)=(vxCells e).toList++cVx t from rfl,show cVx (e::t.take i)=(vxCells e).toList++cVx (t.take i)from rfl,<-ih,
    List.take_append,h,List.take_of_length_le (by rw[h];omega),show(i+1)*2-2=i*2 by omega]
theorem cVx_drop(l:List Vx)(i:Nat):(cVx l).drop (i*2)=cVx (l.drop i):=by
 induction l generalizing i with
 | nil=>simp[cVx]
 | cons e t ih =>
  cases i with
  | zero=>simp[cVx]
  | succ i =>
   have h:(vxCells e).toList.length=2:=rfl;rw[List.drop_succ_cons,show cVx (e::t)=(vxCells e).toList++cVx t from rfl,<-ih,
    List.drop_append,h,List.drop_of_length_le (by rw[h];omega),show(i+1)*2-2=i*2 by omega,List.nil_append]
theorem cVx_append(a b:List Vx):cVx (a++b)=cVx a++cVx b:=by simp[cVx]
theorem cVx_one(l:List Vx):∀v∈cVx l,v.oneCell'=true:=by
 intro v hv;unfold cVx at hv;obtain⟨e,_,he⟩:=List.mem_flatMap.1 hv;have:∀v∈(vxCells e).toList,v.oneCell'=true:=by simp[vxCells,Value.oneCell']
 exact this v he
theorem sizeV:∀w,(Go.sizeOf 29).run Tryz.prog w= .ok 2 w:=fun _=>by kernel_rfl
def zeroV:Value:= .agg #[.int .i64 0,.int .i64 0]
theorem zeroV_run:∀w,(zeroValue 29).run Tryz.prog w= .ok zeroV w:=fun _=>by kernel_rfl
theorem zeroV_one(n:Nat):∀v∈(Builtin.zeroCells zeroV.cells n).toList,v.oneCell'=true:=by
 intro v hv;unfold Builtin.zeroCells at hv;simp only[Array.toList_map,List.mem_map]at hv;obtain⟨i,_,rfl⟩:=hv;have key:∀j,j<2->(zeroV.cells[j]!).oneCell'=true:=by decide +kernel
 exact key _ (Nat.mod_lt _ (by decide))
theorem DeleteV_any(g cap:Nat)(cur:Array Value)(l:List Vx)(i:Nat)(w:World)(hg:w.heap[g]?=some (.cells cur 29 (0,0)))(hi:i<l.length)(hc:l.length<=cap)(hl:l.length<=1000000)(hs:cur.size=cap*2)
  (ht:cur.toList.take (l.length*2)=cVx l) :
  Calls Tryz.prog 141 #[.slice (some ⟨g,0,none⟩) l.length cap,.int .i64 i,.int .i64 ((i:Int)+1)] w fun e w'=>e= .returned (.slice (some ⟨g,0,none⟩) (l.length-1) cap) /\
   ∃cur':Array Value,w'.heap[g]?=some (.cells cur' 29 (0,0))/\cur'.size=cap*2/\cur'.toList.take ((l.length-1)*2)=cVx (l.take i++l.drop (i+1))/\w.grownBy w' (some g):=by
 obtain⟨N,hN⟩:∃N,Hid (N=l.length):=⟨_,rfl⟩;obtain⟨news,hnews⟩:∃news,news=cVx (l.drop (i+1)):=⟨_,rfl⟩;have hnl:news.length=(N-(i+1))*2:=by rw[hnews,cVx_len,List.length_drop,hN.out]
 have hget:∀t u,news[t]?=some u->cur[(i+1)*2+t]?=some u:=fun t u hu=>by
  rw[hnews,<-cVx_drop,List.getElem?_drop,<-ht]at hu;rw[List.getElem?_take]at hu
  split at hu
  ·simpa using hu
  ·cases hu
 rw[<-hN.out]at hi hc hl ht ⊢;obtain⟨A,hA,hsrc⟩:∃A:Addr,(if cap=i+1 then some (⟨g,0,none⟩:Addr)else some ⟨g,(i+1)*2,none⟩)=some A/\Hid (∀t u,news[t]?=some u->w.drew.cell? (A.add t)=some u):=by
  by_cases h:cap=i+1
  ·refine⟨⟨g,0,none⟩,by simp[h],fun t u hu=>?_⟩;have h0:news.length=0:=by rw[hnl,show N-(i+1)=0 by omega,Nat.zero_mul]
   rw[List.length_eq_zero_iff.1 h0]at hu;simp at hu
  ·refine⟨⟨g,(i+1)*2,none⟩,by simp[h],fun t u hu=>?_⟩;rw[Addr.add_lit];show w.cell? _=_;rw[cell_of_row w g _ cur 29 (0,0) hg];exact hget t u hu
 have h1n:∀u∈news,u.oneCell'=true:=by rw[hnews];exact cVx_one _
 obtain⟨i0,hi0,hz0,hz1,hz2⟩:=info_parts info29;have hfit:i*2+news.length<=cur.size:=by rw[hnl,hs];omega
 have hap:∀ty c,(Builtin.append_ #[22,22] ty #[.slice (some ⟨g,0,none⟩) i cap,.slice (some A) (N-(i+1)) c]).run Tryz.prog w.drew= .ok (.slice (some ⟨g,0,none⟩) (i+(N-(i+1))) cap) (w.drew.setRow g (cur.toList.take (i*2)++news++cur.toList.drop (i*2+news.length)).toArray):=fun ty c=>by
  have:=run_append_room (P:=Tryz.prog) w.drew 22 ty 29 i0 Tryz.underlying22 hi0 g i cap cur hg A (N-(i+1)) c news (by rw[hz1];exact hnl) hsrc.out h1n (by omega) (by rw[hz1];exact hfit);rw[hz1]at this;exact this
 obtain⟨cur1,hcur1⟩:∃cur1:Array Value,cur1=(cur.toList.take (i*2)++news++cur.toList.drop (i*2+news.length)).toArray:=⟨_,rfl⟩;rw[<-hcur1]at hap;have hs1:cur1.size=cap*2:=by
  rw[hcur1];simp only[List.size_toArray,List.length_append,List.length_take,List.length_drop,Array.length_toList];omega
 obtain⟨W1,hW1⟩:∃W1,W1=w.drew.setRow g cur1:=⟨_,rfl⟩;have hg1:W1.heap[g]?=some (.cells cur1 29 (0,0)):=by rw[hW1];exact setRow_heap w.drew g cur _ 29 _ hg
 have hk:i+(N-(i+1))=N-1:=by omega
 rw[hk]at hap;have hcl:∀ty c,(Builtin.clear_ #[22] ty #[.slice (some ⟨g,(N-1)*2,none⟩) 1 c]).run Tryz.prog W1= .ok (.tuple #[]) (W1.setRow g (cur1.toList.take ((N-1)*2)++(Builtin.zeroCells zeroV.cells 1).toList++cur1.toList.drop ((N-1)*2+1*zeroV.cells.size)).toArray):=fun ty c =>
  run_clear_rowK W1 22 29 ty zeroV Tryz.underlying22 zeroV_run g ((N-1)*2) 1 c cur1 29 (by omega) hg1 (by rw[hs1,show zeroV.cells.size=2 from rfl];omega) (zeroV_one 1)
 obtain⟨cur2,hcur2⟩:∃cur2:Array Value,cur2=(cur1.toList.take ((N-1)*2)++(Builtin.zeroCells zeroV.cells 1).toList++cur1.toList.drop ((N-1)*2+1*zeroV.cells.size)).toArray:=⟨_,rfl⟩;rw[<-hcur2]at hcl;have hs2:cur2.size=cap*2:=by
  rw[hcur2];have hl:(Builtin.zeroCells zeroV.cells 1).toList.length=1*2:=by rw[Array.length_toList,size_zeroCells];rfl
  simp only[List.size_toArray,List.length_append,List.length_take,List.length_drop,Array.length_toList]at hl ⊢;rw[hl,show zeroV.cells.size=2 from rfl];omega
 have hfin:Hid (cur2.toList.take ((N-1)*2)=cVx (l.take i++l.drop (i+1))/\w.grownBy (W1.setRow g cur2) (some g)/\(W1.setRow g cur2).heap[g]?=some (.cells cur2 29 (0,0))):=by
  refine⟨?_,?_,setRow_heap W1 g cur1 _ 29 _ hg1⟩
  ·have e1:cur2.toList.take ((N-1)*2)=cur1.toList.take ((N-1)*2):=by
    rw[hcur2];simp only[List.append_assoc];rw[List.take_append_of_le_length (by simp only[List.length_take,Array.length_toList];omega),List.take_of_length_le (by simp only[List.length_take];omega)]
   have hlt:(cur.toList.take (i*2)).length=i*2:=by simp only[List.length_take,Array.length_toList];omega
   rw[e1,hcur1];simp only[];rw[List.take_append_of_le_length (by rw[List.length_append,hlt,hnl];omega),List.take_of_length_le (by rw[List.length_append,hlt,hnl];omega),cVx_append,<-cVx_take,<-ht,hnews,List.take_take,Nat.min_eq_left (by omega)]
  ·rw[hW1];exact grownBy_setRow _ _ _ _ (grownBy_setRow _ _ _ _ (grownBy_drew _ _ _ (World.grownBy.refl w (some g))))
 have hW:Hid (W1=w.drew.setRow g cur1):=hW1;have hs2h:=Hd hs2;have e0:IntKind.i64.wrap ((i:Int)+1)=(i:Int)+1:=IntWalk.i64_in _ (by omega);have e1:(0:Int)<=(i:Int)+1:=by omega
 have e2:(i:Int)+1<=(N:Int):=by omega
 have e3:¬((i:Int)=(i:Int)+1):=by omega
 have e4:((i:Int)==(i:Int)+1)=false:=by rw[beq_eq_false_iff_ne];exact e3
 have e5:((i:Int)+1).toNat=i+1:=by omega
 have e6:N-(N-1)=1:=by omega
 have e7:¬(cap=N-1):=by omega
 have e8:(i:Int)<=(N:Int):=by omega
 have e9:(N:Int)<=(cap:Int):=by omega
 have e10:((N:Int)-1)=((N-1:Nat):Int):=by omega
 have e11:i<=cap:=by omega
 have e12:N-1<=cap:=by omega
 have e13:N-1<=N:=by omega
 clear hcur1 hcur2 hs1 hs2 hg1 hW1 hnews hnl hget hg hs ht h1n hfit hi0 hz0 hz1 hz2 hk;go_enter Tryz.func141,Tryz.ntmps141;go_wp2_with fail
 go_region_law (refine step_append_runI rfl (.tmp 22) (.tmp 25) 22 22 rfl _ _ (by simp[Act.eval,Act.put]) (by simp[Act.eval,Act.put];rfl) (hap _ _) ?_)
 rw[<-hW.out];go_wp2_with fail;go_ret;exact⟨rfl,cur2,hfin.out.2.2,hs2h.out,hfin.out.1,hfin.out.2.1⟩
set_option maxHeartbeats 1000000 in
theorem InsertV_end(base:Nat)(v:Value)(l:List Vx)(u:Vx)(vb:Nat)(w:World)(h:OwnV w base v l)(hl:l.length<=1000000)(hb:base<=w.heap.size)(hvb:w.heap[vb]?=some (.cells (vxCells u) 29 (0,0))):
  Calls Tryz.prog 139 #[v,.int .i64 l.length,.slice (some ⟨vb,0,none⟩) 1 1] w fun e w'=>∃v',e= .returned v'/\OwnV w' base v' (l++[u])/\w.grownBy w' v.ownBlock:=by
 obtain⟨i0,hi,hz0,hz1,hz2⟩:=info_parts info29;obtain⟨v',w',hr,ho,hg,_⟩:=run_append_own (P:=Tryz.prog) w base 22 22 29 i0 _ 2 16 Tryz.underlying22 hi hz0 hz1 hz2 rfl (by omega) v l.length (cVx l) h ⟨vb,0,none⟩ 1 1 (vxCells u).toList rfl
  (World.news_of_block hvb) (by simp[vxCells,Value.oneCell']) (by unfold maxLen;omega) (by omega) hb
 have ho2:Hid (OwnV w' base v' (l++[u])):=by
  show OwnV w' base v' (l++[u]);unfold OwnV;rw[List.length_append,cVx_append];exact ho
 obtain⟨a,c,rfl⟩:=h.VL.shape;obtain⟨N,hN⟩:∃N,Hid (N=l.length):=⟨_,rfl⟩;rw[<-hN.out]at hr hl ⊢;have hgh:Hid (∀n c,w.grownBy w' (Value.slice a n c).ownBlock):=fun _ _=>by cases a<;>exact hg
 clear h ho hg hvb hi hz0 hz1 hz2;go_enter Tryz.func139,Tryz.ntmps139
 go_wp2_with (at_builtin;refine wpList_append_runB rfl (.tmp 23) (.tmp 24) 22 rfl _ _ rfl rfl _ _ hr ?_)
 all_goals
  go_ret;exact⟨_,rfl,ho2.out,hgh.out _ _⟩
theorem InsertV_shift(g cap:Nat)(cur:Array Value)(l:List Vx)(i:Nat)(u:Vx)(vb:Nat)(w:World)(hg:w.heap[g]?=some (.cells cur 29 (0,0)))(hi:i<l.length)(hc:l.length+1<=cap)(hl:l.length<=1000000)(hs:cur.size=cap*2)
  (ht:cur.toList.take (l.length*2)=cVx l) (hvb:w.heap[vb]?=some (.cells (vxCells u) 29 (0,0))) (hne:vb≠g) :
  Calls Tryz.prog 139 #[.slice (some ⟨g,0,none⟩) l.length cap,.int .i64 i,.slice (some ⟨vb,0,none⟩) 1 1] w fun e w'=>e= .returned (.slice (some ⟨g,0,none⟩) (l.length+1) cap) /\
   ∃cur':Array Value,w'.heap[g]?=some (.cells cur' 29 (0,0))/\cur'.size=cap*2/\cur'.toList.take ((l.length+1)*2)=cVx (l.take i++u::l.drop i)/\w.grownBy w' (some g):=by
 obtain⟨N,hN⟩:∃N,Hid (N=l.length):=⟨_,rfl⟩;obtain⟨cs,hcs⟩:∃cs,cs=cVx (l.drop i):=⟨_,rfl⟩;have hcl:cs.length=(N-i)*2:=by rw[hcs,cVx_len,List.length_drop,hN.out]
 have hget:∀t u,cs[t]?=some u->cur[i*2+t]?=some u:=fun t u hu=>by
  rw[hcs,<-cVx_drop,List.getElem?_drop,<-ht]at hu;rw[List.getElem?_take]at hu
  split at hu
  ·simpa using hu
  ·cases hu
 rw[<-hN.out]at hi hc hl ht ⊢;have h1c:∀u∈cs,u.oneCell'=true:=by rw[hcs];exact cVx_one _
 have hov:∀lb cb,(callFunc 147 #[.slice (some ⟨vb,0,none⟩) 1 1,.slice (some ⟨g,(i+1)*2,none⟩) lb cb]).run Tryz.prog w= .ok (.value (.bool false)) w:=fun lb cb=>by
  rw[run_callFunc_extern Tryz.func147 (by kernel_rfl) (by kernel_rfl) (by kernel_rfl) (e:=Extern.SlicesOverlaps.overlaps #[22,22] #[4]) (by kernel_rfl),
   Lib.run_overlaps_apart w 22 4 29 Tryz.underlying22 2 sizeV ⟨vb,0,none⟩ ⟨g,(i+1)*2,none⟩ 1 1 lb cb hne 29 29 2 (cap*2) (by simp[World.shape?,hvb,vxCells]) (by simp[World.shape?,hg,hs]) (by omega) (frozen_of_row w vb 0 _ _ hvb) (frozen_of_row w vb 2 _ _ hvb)]
  rfl
 have hcp1:∀ty dc sc,(Builtin.copy_ #[22,22] ty #[.slice (some ⟨g,(i+1)*2,none⟩) (N-i) dc,.slice (some ⟨g,i*2,none⟩) (N+1-i) sc]).run Tryz.prog w.drew= .ok (goInt (Nat.min (N+1-i) (N-i))) (w.drew.setRow g (cur.toList.take ((i+1)*2)++cs++cur.toList.drop ((i+1)*2+cs.length)).toArray):=fun ty dc sc =>
  run_copy_rowK w.drew 22 22 ty 29 2 g ((i+1)*2) (N-i) dc ⟨g,i*2,none⟩ (N+1-i) sc cur 29 cs Tryz.underlying22 sizeV hg (by rw[hcl];congr 1;simp only[Nat.min_def];split<;>omega)
   (fun j v hj=>by rw[Addr.add_lit];show w.cell? _=_;rw[cell_of_row w g _ cur 29 (0,0) hg];exact hget j v hj) (by rw[hcl,hs];omega) h1c
 obtain⟨cur1,hcur1⟩:∃cur1:Array Value,cur1=(cur.toList.take ((i+1)*2)++cs++cur.toList.drop ((i+1)*2+cs.length)).toArray:=⟨_,rfl⟩;rw[<-hcur1]at hcp1;have hs1:cur1.size=cap*2:=by
  rw[hcur1];simp only[List.size_toArray,List.length_append,List.length_take,List.length_drop,Array.length_toList];omega
 obtain⟨W1,hW1⟩:∃W1,W1=w.drew.setRow g cur1:=⟨_,rfl⟩;have hg1:W1.heap[g]?=some (.cells cur1 29 (0,0)):=by rw[hW1];exact setRow_heap w.drew g cur _ 29 _ hg
 have hv1:W1.heap[vb]?=some (.cells (vxCells u) 29 (0,0)):=by rw[hW1,setRow_other _ _ _ _ hne];exact hvb
 have hcp2:∀ty dc,(Builtin.copy_ #[22,22] ty #[.slice (some ⟨g,i*2,none⟩) (N+1-i) dc,.slice (some ⟨vb,0,none⟩) 1 1]).run Tryz.prog W1= .ok (goInt (Nat.min 1 (N+1-i))) (W1.setRow g (cur1.toList.take (i*2)++(vxCells u).toList++cur1.toList.drop (i*2+(vxCells u).toList.length)).toArray):=fun ty dc =>
  run_copy_rowK W1 22 22 ty 29 2 g (i*2) (N+1-i) dc ⟨vb,0,none⟩ 1 1 cur1 29 (vxCells u).toList Tryz.underlying22 sizeV hg1 (by show 2=_;rw[show Nat.min 1 (N+1-i)=1 from Nat.min_eq_left (by omega)])
   (World.news_of_block hv1) (by rw[hs1,show(vxCells u).toList.length=2 from rfl];omega) (by simp[vxCells,Value.oneCell'])
 obtain⟨cur2,hcur2⟩:∃cur2:Array Value,cur2=(cur1.toList.take (i*2)++(vxCells u).toList++cur1.toList.drop (i*2+(vxCells u).toList.length)).toArray:=⟨_,rfl⟩;rw[<-hcur2]at hcp2;have hxl:(vxCells u).toList.length=2:=rfl;have hs2:cur2.size=cap*2:=by
  rw[hcur2];simp only[List.size_toArray,List.length_append,List.length_take,List.length_drop,Array.length_toList]at hxl ⊢;rw[hxl];omega
 have hfin:Hid (cur2.toList.take ((N+1)*2)=cVx (l.take i++u::l.drop i)/\w.grownBy (W1.setRow g cur2) (some g)/\(W1.setRow g cur2).heap[g]?=some (.cells cur2 29 (0,0))):=by
  refine⟨?_,?_,setRow_heap W1 g cur1 _ 29 _ hg1⟩
  ·have q1:(cur.toList.take ((i+1)*2)).length=(i+1)*2:=by simp only[List.length_take,Array.length_toList];omega
   have q2:cur1.toList.drop (i*2+2)=cs++cur.toList.drop ((i+1)*2+cs.length):=by
    rw[hcur1];simp only[List.append_assoc];rw[List.drop_append,q1,List.drop_of_length_le (by rw[q1];omega),show i*2+2-(i+1)*2=0 by omega];simp
   have q3:cur1.toList.take (i*2)=cVx (l.take i):=by
    rw[hcur1];simp only[List.append_assoc];rw[List.take_append_of_le_length (by rw[q1];omega),List.take_take,Nat.min_eq_left (by omega),<-cVx_take,<-ht,List.take_take,Nat.min_eq_left (by omega)]
   have q4:(cVx (l.take i)).length=i*2:=by rw[cVx_len,List.length_take,<-hN.out,Nat.min_eq_left (by omega)]
   rw[hcur2];simp only[hxl,q2,q3];rw[cVx_append,show cVx (u::l.drop i)=(vxCells u).toList++cVx (l.drop i)from rfl,<-hcs,<-List.append_assoc,List.take_append_of_le_length (by simp only[List.length_append,q4,hxl,hcl];omega),List.take_of_length_le (by simp only[List.length_append,q4,hxl,hcl];omega),List.append_assoc]
  ·rw[hW1];exact grownBy_setRow _ _ _ _ (grownBy_setRow _ _ _ _ (grownBy_drew _ _ _ (World.grownBy.refl w (some g))))
 have hW:Hid (W1=w.drew.setRow g cur1):=hW1;have hs2h:=Hd hs2;have e0:IntKind.i64.wrap ((i:Int)+1)=(i:Int)+1:=IntWalk.i64_in _ (by omega);have e1:(0:Int)<=(i:Int)+1:=by omega
 have e2:(i:Int)+1<=(N:Int)+1:=by omega
 have e3:¬((i:Int)=(N:Int)):=by omega
 have e5:((i:Int)+1).toNat=i+1:=by omega
 have e6:¬(cap=i+1):=by omega
 have e7:¬(cap=i):=by omega
 have e8:(i:Int)<=(N:Int)+1:=by omega
 have e9:(i:Int)<=(N:Int):=by omega
 have e10:i<=N:=by omega
 have e11:i<=cap:=by omega
 have e12:N+1<=cap:=by omega
 have e13:i<=N+1:=by omega
 have e14:i+1<=N+1:=by omega
 clear hcur1 hcur2 hs1 hs2 hg1 hv1 hW1 hcs hcl hget hg hs ht h1c hxl hvb;go_enter Tryz.func139,Tryz.ntmps139
 go_wp2_with (simp only[hov])
 go_region_law (refine step_copy_runI rfl _ _ 22 22 rfl _ _ (by simp[Act.eval,Act.put]) (by simp[Act.eval,Act.put]) (hcp1 _ _ _) ?_)
 rw[<-hW.out]
 go_wp2_with (at_builtin;refine wpList_copy_runI _ rfl _ _ 22 22 rfl _ _ rfl rfl (hcp2 _ _) ?_)
 go_ret;exact⟨rfl,cur2,hfin.out.2.2,hs2h.out,hfin.out.1,hfin.out.2.1⟩
theorem InsertV_grow(base:Nat)(g cap:Nat)(cur:Array Value)(l:List Vx)(i:Nat)(u:Vx)(vb:Nat)(w:World)(hg:w.heap[g]?=some (.cells cur 29 (0,0)))(hi:i<l.length)(hlc:l.length<=cap)(hc:cap<l.length+1)(hl:l.length<=1000000)(hb:base<=w.heap.size)
  (ht:cur.toList.take (l.length*2)=cVx l) (hvb:w.heap[vb]?=some (.cells (vxCells u) 29 (0,0))) :
  Calls Tryz.prog 139 #[.slice (some ⟨g,0,none⟩) l.length cap,.int .i64 i,.slice (some ⟨vb,0,none⟩) 1 1] w fun e w'=>∃v',e= .returned v'/\OwnV w' base v' (l.take i++u::l.drop i)/\w.grownBy w' none:=by
 obtain⟨N,hN⟩:∃N,Hid (N=l.length):=⟨_,rfl⟩;obtain⟨i0,hi0,hz0,hz1,hz2⟩:=info_parts info29;obtain⟨cs,hcs⟩:∃cs,cs=cVx (l.drop i):=⟨_,rfl⟩;obtain⟨ca,hca⟩:∃ca,ca=cVx (l.take i):=⟨_,rfl⟩;have hcl:cs.length=(N-i)*2:=by rw[hcs,cVx_len,List.length_drop,hN.out]
 have hal:ca.length=i*2:=by rw[hca,cVx_len,List.length_take,Nat.min_eq_left (by omega)]
 have hget:∀t u,cs[t]?=some u->cur[i*2+t]?=some u:=fun t u hu=>by
  rw[hcs,<-cVx_drop,List.getElem?_drop,<-ht]at hu;rw[List.getElem?_take]at hu
  split at hu
  ·simpa using hu
  ·cases hu
 have hgeta:∀t u,ca[t]?=some u->cur[t]?=some u:=fun t u hu=>by
  rw[hca,<-cVx_take,<-ht,List.take_take,List.getElem?_take]at hu
  split at hu
  ·simpa using hu
  ·cases hu
 rw[<-hN.out]at hi hlc hc hl ht ⊢;have h1c:∀u∈cs,u.oneCell'=true:=by rw[hcs];exact cVx_one _
 have hbw:g<w.heap.size:=(Array.getElem?_eq_some_iff.1 hg).1;have hvw:vb<w.heap.size:=(Array.getElem?_eq_some_iff.1 hvb).1;have hkk:(N:Int)+1-(i:Int)=((N+1-i:Nat):Int):=by omega
 have hik:i+(N+1-i)=N+1:=by omega
 have hold:(Builtin.firstCells i0.size i (.slice (some ⟨g,0,none⟩) i cap)).run Tryz.prog w.drew= .ok ca.toArray w.drew:=by
  rw[hz1];exact run_firstCells_some w.drew 2 i ⟨g,0,none⟩ i cap ca hal (fun j v hj=>by
   rw[Addr.add_lit,Nat.zero_add];show w.cell? _=_;rw[cell_of_row w g _ cur 29 (0,0) hg];exact hgeta j v hj)
 have hrz:∀ty,(Builtin.append_ #[22,3] ty #[.slice (some ⟨g,0,none⟩) i cap,.int .i64 ((N:Int)+1-(i:Int))]).run Tryz.prog w =
   .ok (.slice (some ⟨w.heap.size,0,none⟩) (N+1) (grownCap w (N+1) cap 29)) (w.drew.alloc (.cells (ca.toArray++Builtin.zeroCells zeroV.cells (N+1-i)++Builtin.zeroCells zeroV.cells (grownCap w (N+1) cap 29-(N+1))) 29)):=fun ty=>by
  have h:=Lib.run_append_grow_zeros w 22 3 ty 29 i0 zeroV .i64 .i64 Tryz.underlying22 Tryz.underlying3 hi0 hz0 (some ⟨g,0,none⟩) i cap ca hold (N+1-i) (by omega) (by rw[hz1];omega) (by omega) (by omega) (by rw[hz2];omega) (by rw[hz2,hik];exact growslice_fits hc (by omega));rw[hik]at h;rw[hkk];exact h
 obtain⟨G,hG⟩:∃G,G=grownCap w (N+1) cap 29:=⟨_,rfl⟩;obtain⟨ROW,hROW⟩:∃ROW:Array Value,ROW=ca.toArray++Builtin.zeroCells zeroV.cells (N+1-i)++Builtin.zeroCells zeroV.cells (G-(N+1)):=⟨_,rfl⟩;rw[<-hG]at hrz;rw[<-hROW]at hrz;have hGn:N+1<=G:=by rw[hG];exact grownCap_ge w _ _ _
 have hG63:G<=maxLen:=by rw[hG];exact grownCap_le_maxLen w (N+1) cap 29 (by unfold maxLen;omega)
 have hRl:ROW.size=G*2:=by
  have z1:=size_zeroCells zeroV.cells (N+1-i);have z2:=size_zeroCells zeroV.cells (G-(N+1));rw[show zeroV.cells.size=2 from rfl]at z1 z2;rw[hROW,Array.size_append,Array.size_append,z1,z2,List.size_toArray,hal];omega
 have hRt:ROW.toList.take (i*2)=ca:=by
  rw[hROW];simp only[Array.toList_append,List.append_assoc];rw[<-hal,List.take_left]
 obtain⟨W1,hW1⟩:∃W1,W1=w.drew.alloc (.cells ROW 29):=⟨_,rfl⟩;rw[<-hW1]at hrz;have hg1:W1.heap[w.heap.size]?=some (.cells ROW 29 (0,0)):=by rw[hW1];exact heap_alloc_new w.drew _
 have hb1:∀k,k<w.heap.size->W1.heap[k]?=w.heap[k]?:=fun k hk=>by rw[hW1];exact Below.heap_alloc w.drew _ k hk
 have hxl:(vxCells u).toList.length=2:=rfl;have hcpA:∀ty dc,(Builtin.copy_ #[22,22] ty #[.slice (some ⟨w.heap.size,i*2,none⟩) (N+1-i) dc,.slice (some ⟨vb,0,none⟩) 1 1]).run Tryz.prog W1= .ok (goInt (Nat.min 1 (N+1-i))) (W1.setRow w.heap.size (ROW.toList.take (i*2)++(vxCells u).toList++ROW.toList.drop (i*2+(vxCells u).toList.length)).toArray):=fun ty dc =>
  run_copy_rowK W1 22 22 ty 29 2 w.heap.size (i*2) (N+1-i) dc ⟨vb,0,none⟩ 1 1 ROW 29 (vxCells u).toList Tryz.underlying22 sizeV hg1 (by show 2=_;rw[show Nat.min 1 (N+1-i)=1 from Nat.min_eq_left (by omega)])
   (World.news_of_block ((hb1 vb hvw).trans hvb)) (by rw[hRl,hxl];omega) (by simp[vxCells,Value.oneCell'])
 obtain⟨R2,hR2⟩:∃R2:Array Value,R2=(ROW.toList.take (i*2)++(vxCells u).toList++ROW.toList.drop (i*2+(vxCells u).toList.length)).toArray:=⟨_,rfl⟩;rw[<-hR2]at hcpA;have hR2l:R2.size=G*2:=by
  rw[hR2];simp only[List.size_toArray,List.length_append,List.length_take,List.length_drop,Array.length_toList]at hxl ⊢;rw[hxl];omega
 obtain⟨W2,hW2⟩:∃W2,W2=W1.setRow w.heap.size R2:=⟨_,rfl⟩;have hg2:W2.heap[w.heap.size]?=some (.cells R2 29 (0,0)):=by rw[hW2];exact setRow_heap W1 _ ROW _ 29 _ hg1
 have hb2:W2.heap[g]?=some (.cells cur 29 (0,0)):=by rw[hW2,setRow_other _ _ _ _ (by omega),hb1 g hbw];exact hg
 rw[<-hW2]at hcpA;have hcpB:∀ty dc sc,(Builtin.copy_ #[22,22] ty #[.slice (some ⟨w.heap.size,(i+1)*2,none⟩) (N-i) dc,.slice (some ⟨g,i*2,none⟩) (N-i) sc]).run Tryz.prog W2.drew= .ok (goInt (Nat.min (N-i) (N-i))) (W2.drew.setRow w.heap.size (R2.toList.take ((i+1)*2)++cs++R2.toList.drop ((i+1)*2+cs.length)).toArray):=fun ty dc sc =>
  run_copy_rowK W2.drew 22 22 ty 29 2 w.heap.size ((i+1)*2) (N-i) dc ⟨g,i*2,none⟩ (N-i) sc R2 29 cs Tryz.underlying22 sizeV hg2 (by rw[hcl,show Nat.min (N-i) (N-i)=N-i from Nat.min_self _])
   (fun j v hj=>by rw[Addr.add_lit];show W2.cell? _=_;rw[cell_of_row W2 g _ cur 29 (0,0) hb2];exact hget j v hj) (by rw[hcl,hR2l];omega) h1c
 obtain⟨R3,hR3⟩:∃R3:Array Value,R3=(R2.toList.take ((i+1)*2)++cs++R2.toList.drop ((i+1)*2+cs.length)).toArray:=⟨_,rfl⟩;rw[<-hR3]at hcpB;have hR3l:R3.size=G*2:=by
  rw[hR3];simp only[List.size_toArray,List.length_append,List.length_take,List.length_drop,Array.length_toList];omega
 obtain⟨W3,hW3⟩:∃W3,W3=W2.drew.setRow w.heap.size R3:=⟨_,rfl⟩;rw[<-hW3]at hcpB;have hfin:Hid (OwnV W3 base (.slice (some ⟨w.heap.size,0,none⟩) (N+1) G) (l.take i++u::l.drop i)/\w.grownBy W3 none):=by
  have hlen:(l.take i++u::l.drop i).length=N+1:=by simp only[List.length_append,List.length_take,List.length_cons,List.length_drop,<-hN.out];omega
  have hcells:cVx (l.take i++u::l.drop i)=ca++((vxCells u).toList++cs):=by rw[cVx_append,hca,hcs];rfl
  refine⟨?_,?_⟩
  ·unfold OwnV;rw[hlen,hcells];refine⟨by simp only[List.length_append,hal,hxl,hcl];omega,.inr ⟨_,_,R3,rfl,hb,by rw[hW3];exact setRow_heap W2.drew _ R2 _ 29 _ hg2,hGn,hG63,hR3l,?_⟩⟩;have q1:R2.toList.take ((i+1)*2)=ca++(vxCells u).toList:=by
    rw[hR2];simp only[hRt];rw[List.take_append_of_le_length (by rw[List.length_append,hal,hxl];omega),List.take_of_length_le (by rw[List.length_append,hal,hxl];omega)]
   rw[hR3];simp only[q1];rw[List.take_append_of_le_length (by simp only[List.length_append,hal,hxl,hcl];omega),List.take_of_length_le (by simp only[List.length_append,hal,hxl,hcl];omega),List.append_assoc]
  ·rw[hW3,hW2];refine⟨?_,?_,?_,?_,fun k hk _=>?_⟩
   ·rw[hW1];rfl
   ·rw[hW1];rfl
   ·rw[hW1];rfl
   ·rw[hW1];simp
   ·rw[setRow_other _ _ _ _ (by omega),heap_drew,setRow_other _ _ _ _ (by omega),hb1 k hk]
 have hW1h:=Hd hW1;have hW2h:=Hd hW2;have hW3h:=Hd hW3;unfold maxLen at hG63;have e0:IntKind.i64.wrap ((i:Int)+1)=(i:Int)+1:=IntWalk.i64_in _ (by omega);have e1:(0:Int)<=(i:Int)+1:=by omega
 have e3:¬((i:Int)=(N:Int)):=by omega
 have e4:(cap:Int)<(N:Int)+1:=by omega
 have e5:((i:Int)+1).toNat=i+1:=by omega
 have e6:¬(G=i+1):=by omega
 have e7:¬(G=i):=by omega
 have e8:(i:Int)<=(N:Int)+1:=by omega
 have e9:(i:Int)<=(N:Int):=by omega
 have e10:i<=N:=by omega
 have e11:i<=cap:=by omega
 have e12:¬(cap=i):=by omega
 have e13:i<=N+1:=by omega
 have e14:i+1<=N+1:=by omega
 have e15:(i:Int)+1<=(N:Int)+1:=by omega
 clear hW1 hW2 hW3 hR3 hR2 hR3l hR2l hRt hRl hROW hG hold hkk hik hg hg1 hg2 hb1 hb2 hget hgeta hcs hca hcl hal ht hvb h1c hxl hi0 hz0 hz1 hz2;go_enter Tryz.func139,Tryz.ntmps139
 go_wp2_with (first
  | (at_builtin;refine Lib.wpList_append_run _ rfl _ _ _ _ rfl _ _ rfl rfl _ _ (hrz _) ?_)
  | (at_builtin;refine wpList_copy_runI _ rfl _ _ 22 22 rfl _ _ rfl rfl (hcpA _ _) ?_))
 go_region_law (refine step_copy_runI rfl _ _ 22 22 rfl _ _ (by simp[Act.eval,Act.put]) (by simp[Act.eval,Act.put]) (hcpB _ _ _) ?_)
 go_wp2_with fail;go_ret;exact⟨_,rfl,hfin.out.1,hfin.out.2⟩
theorem InsertV_any(base:Nat)(v:Value)(l:List Vx)(i:Nat)(u:Vx)(vb:Nat)(w:World)(h:OwnV w base v l)(hi:i<=l.length)(hl:l.length<=1000000)(hb:base<=w.heap.size)(hvb:w.heap[vb]?=some (.cells (vxCells u) 29 (0,0)))
  (hne:v.ownBlock≠some vb):Calls Tryz.prog 139 #[v,.int .i64 i,.slice (some ⟨vb,0,none⟩) 1 1] w fun e w'=>∃v',e= .returned v'/\OwnV w' base v' (l.take i++u::l.drop i)/\w.grownBy w' v.ownBlock:=by
 by_cases he:i=l.length
 ·subst he;rw[List.take_length,List.drop_length];exact InsertV_end base v l u vb w h hl hb hvb
 ·have hlt:i<l.length:=by omega
  have h':=h;unfold OwnV at h';rcases h'.2 with⟨rfl,h0⟩|⟨g,cap,cur,rfl,hbg,hg,hc,hm,hs,ht⟩
  ·omega
  ·by_cases hr:l.length+1<=cap
   ·refine(InsertV_shift g cap cur l i u vb w hg hlt hr hl hs ht hvb (fun e=>hne (by rw[e];rfl))).mono ?_;rintro e w' ⟨rfl,cur',h1,h2,h3,h4⟩;have hlen:(l.take i++u::l.drop i).length=l.length+1:=by simp only[List.length_append,List.length_take,List.length_cons,List.length_drop];omega
    refine⟨_,rfl,?_,h4⟩;unfold OwnV;rw[hlen];exact⟨by rw[cVx_len,hlen],.inr ⟨g,cap,cur',rfl,hbg,h1,hr,hm,h2,h3⟩⟩
   ·refine(InsertV_grow base g cap cur l i u vb w hg hlt hc (by omega) hl hb ht hvb).mono ?_;rintro e w' ⟨v',rfl,h1,h2⟩;exact⟨_,rfl,h1,⟨h2.os,h2.tape,h2.output,h2.size,fun k hk _=>h2.block k hk (by simp)⟩⟩
theorem DeleteV_own(base:Nat)(v:Value)(l:List Vx)(i:Nat)(w:World)(h:OwnV w base v l)(hi:i<l.length)(hl:l.length<=1000000):
  Calls Tryz.prog 141 #[v,.int .i64 i,.int .i64 ((i:Int)+1)] w fun e w'=>∃v',e= .returned v'/\OwnV w' base v' (l.take i++l.drop (i+1))/\w.grownBy w' v.ownBlock/\v'.ownBlock=v.ownBlock:=by
 have h':=h;unfold OwnV at h';rcases h'.2 with⟨rfl,h0⟩|⟨g,cap,cur,rfl,hbg,hg,hc,hm,hs,ht⟩
 ·omega
 ·refine(DeleteV_any g cap cur l i w hg hi hc hl hs ht).mono ?_;rintro e w' ⟨rfl,cur',h1,h2,h3,h4⟩;have hlen:(l.take i++l.drop (i+1)).length=l.length-1:=by simp only[List.length_append,List.length_take,List.length_drop];omega
  refine⟨_,rfl,?_,h4,rfl⟩;unfold OwnV;rw[hlen];exact⟨by rw[cVx_len,hlen],.inr ⟨g,cap,cur',rfl,hbg,h1,by omega,hm,h2,h3⟩⟩
theorem cEd_take(l:List Ed)(i:Nat):(cEd l).take (i*6)=cEd (l.take i):=by
 induction l generalizing i with
 | nil=>simp[cEd]
 | cons e t ih =>
  cases i with
  | zero=>simp[cEd]
  | succ i =>
   have h:(edCells e).toList.length=6:=rfl;rw[List.take_succ_cons,show cEd (e::t)=(edCells e).toList++cEd t from rfl,show cEd (e::t.take i)=(edCells e).toList++cEd (t.take i)from rfl,<-ih,
    List.take_append,h,List.take_of_length_le (by rw[h];omega),show(i+1)*6-6=i*6 by omega]
theorem cEd_drop(l:List Ed)(i:Nat):(cEd l).drop (i*6)=cEd (l.drop i):=by
 induction l generalizing i with
 | nil=>simp[cEd]
 | cons e t ih =>
  cases i with
  | zero=>simp[cEd]
  | succ i =>
   have h:(edCells e).toList.length=6:=rfl;rw[List.drop_succ_cons,show cEd (e::t)=(edCells e).toList++cEd t from rfl,<-ih,
    List.drop_append,h,List.drop_of_length_le (by rw[h];omega),show(i+1)*6-6=i*6 by omega,List.nil_append]
theorem cEd_append(a b:List Ed):cEd (a++b)=cEd a++cEd b:=by simp[cEd]
theorem cEd_one(l:List Ed):∀v∈cEd l,v.oneCell'=true:=by
 intro v hv;unfold cEd at hv;obtain⟨e,_,he⟩:=List.mem_flatMap.1 hv;have:∀v∈(edCells e).toList,v.oneCell'=true:=by simp[edCells,Value.oneCell']
 exact this v he
theorem sizeE:∀w,(Go.sizeOf 31).run Tryz.prog w= .ok 6 w:=fun _=>by kernel_rfl
def zeroE:Value:= .agg #[.int .i64 0,.int .i64 0,.int .i64 0,.bool false,.int .i64 0,.int .i64 0]
theorem zeroE_run:∀w,(zeroValue 31).run Tryz.prog w= .ok zeroE w:=fun _=>by kernel_rfl
theorem zeroE_one(n:Nat):∀v∈(Builtin.zeroCells zeroE.cells n).toList,v.oneCell'=true:=by
 intro v hv;unfold Builtin.zeroCells at hv;simp only[Array.toList_map,List.mem_map]at hv;obtain⟨i,_,rfl⟩:=hv;have key:∀j,j<6->(zeroE.cells[j]!).oneCell'=true:=by decide +kernel
 exact key _ (Nat.mod_lt _ (by decide))
theorem DeleteE_any(g cap:Nat)(cur:Array Value)(l:List Ed)(i:Nat)(w:World)(hg:w.heap[g]?=some (.cells cur 31 (0,0)))(hi:i<l.length)(hc:l.length<=cap)(hl:l.length<=1000000)(hs:cur.size=cap*6)
  (ht:cur.toList.take (l.length*6)=cEd l) :
  Calls Tryz.prog 130 #[.slice (some ⟨g,0,none⟩) l.length cap,.int .i64 i,.int .i64 ((i:Int)+1)] w fun e w'=>e= .returned (.slice (some ⟨g,0,none⟩) (l.length-1) cap) /\
   ∃cur':Array Value,w'.heap[g]?=some (.cells cur' 31 (0,0))/\cur'.size=cap*6/\cur'.toList.take ((l.length-1)*6)=cEd (l.take i++l.drop (i+1))/\w.grownBy w' (some g):=by
 obtain⟨N,hN⟩:∃N,Hid (N=l.length):=⟨_,rfl⟩;obtain⟨news,hnews⟩:∃news,news=cEd (l.drop (i+1)):=⟨_,rfl⟩;have hnl:news.length=(N-(i+1))*6:=by rw[hnews,cEd_len,List.length_drop,hN.out]
 have hget:∀t u,news[t]?=some u->cur[(i+1)*6+t]?=some u:=fun t u hu=>by
  rw[hnews,<-cEd_drop,List.getElem?_drop,<-ht]at hu;rw[List.getElem?_take]at hu
  split at hu
  ·simpa using hu
  ·cases hu
 rw[<-hN.out]at hi hc hl ht ⊢;obtain⟨A,hA,hsrc⟩:∃A:Addr,(if cap=i+1 then some (⟨g,0,none⟩:Addr)else some ⟨g,(i+1)*6,none⟩)=some A/\Hid (∀t u,news[t]?=some u->w.drew.cell? (A.add t)=some u):=by
  by_cases h:cap=i+1
  ·refine⟨⟨g,0,none⟩,by simp[h],fun t u hu=>?_⟩;have h0:news.length=0:=by rw[hnl,show N-(i+1)=0 by omega,Nat.zero_mul]
   rw[List.length_eq_zero_iff.1 h0]at hu;simp at hu
  ·refine⟨⟨g,(i+1)*6,none⟩,by simp[h],fun t u hu=>?_⟩;rw[Addr.add_lit];show w.cell? _=_;rw[cell_of_row w g _ cur 31 (0,0) hg];exact hget t u hu
 have h1n:∀u∈news,u.oneCell'=true:=by rw[hnews];exact cEd_one _
 obtain⟨i0,hi0,hz0,hz1,hz2⟩:=info_parts info31;have hfit:i*6+news.length<=cur.size:=by rw[hnl,hs];omega
 have hap:∀ty c,(Builtin.append_ #[23,23] ty #[.slice (some ⟨g,0,none⟩) i cap,.slice (some A) (N-(i+1)) c]).run Tryz.prog w.drew= .ok (.slice (some ⟨g,0,none⟩) (i+(N-(i+1))) cap) (w.drew.setRow g (cur.toList.take (i*6)++news++cur.toList.drop (i*6+news.length)).toArray):=fun ty c=>by
  have:=run_append_room (P:=Tryz.prog) w.drew 23 ty 31 i0 Tryz.underlying23 hi0 g i cap cur hg A (N-(i+1)) c news (by rw[hz1];exact hnl) hsrc.out h1n (by omega) (by rw[hz1];exact hfit);rw[hz1]at this;exact this
 obtain⟨cur1,hcur1⟩:∃cur1:Array Value,cur1=(cur.toList.take (i*6)++news++cur.toList.drop (i*6+news.length)).toArray:=⟨_,rfl⟩;rw[<-hcur1]at hap;have hs1:cur1.size=cap*6:=by
  rw[hcur1];simp only[List.size_toArray,List.length_append,List.length_take,List.length_drop,Array.length_toList];omega
 obtain⟨W1,hW1⟩:∃W1,W1=w.drew.setRow g cur1:=⟨_,rfl⟩;have hg1:W1.heap[g]?=some (.cells cur1 31 (0,0)):=by rw[hW1];exact setRow_heap w.drew g cur _ 31 _ hg
 have hk:i+(N-(i+1))=N-1:=by omega
 rw[hk]at hap;have hcl:∀ty c,(Builtin.clear_ #[23] ty #[.slice (some ⟨g,(N-1)*6,none⟩) 1 c]).run Tryz.prog W1= .ok (.tuple #[]) (W1.setRow g (cur1.toList.take ((N-1)*6)++(Builtin.zeroCells zeroE.cells 1).toList++cur1.toList.drop ((N-1)*6+1*zeroE.cells.size)).toArray):=fun ty c =>
  run_clear_rowK W1 23 31 ty zeroE Tryz.underlying23 zeroE_run g ((N-1)*6) 1 c cur1 31 (by omega) hg1 (by rw[hs1,show zeroE.cells.size=6 from rfl];omega) (zeroE_one 1)
 obtain⟨cur2,hcur2⟩:∃cur2:Array Value,cur2=(cur1.toList.take ((N-1)*6)++(Builtin.zeroCells zeroE.cells 1).toList++cur1.toList.drop ((N-1)*6+1*zeroE.cells.size)).toArray:=⟨_,rfl⟩;rw[<-hcur2]at hcl;have hs2:cur2.size=cap*6:=by
  rw[hcur2];have hl:(Builtin.zeroCells zeroE.cells 1).toList.length=1*6:=by rw[Array.length_toList,size_zeroCells];rfl
  simp only[List.size_toArray,List.length_append,List.length_take,List.length_drop,Array.length_toList]at hl ⊢;rw[hl,show zeroE.cells.size=6 from rfl];omega
 have hfin:Hid (cur2.toList.take ((N-1)*6)=cEd (l.take i++l.drop (i+1))/\w.grownBy (W1.setRow g cur2) (some g)/\(W1.setRow g cur2).heap[g]?=some (.cells cur2 31 (0,0))):=by
  refine⟨?_,?_,setRow_heap W1 g cur1 _ 31 _ hg1⟩
  ·have e1:cur2.toList.take ((N-1)*6)=cur1.toList.take ((N-1)*6):=by
    rw[hcur2];simp only[List.append_assoc];rw[List.take_append_of_le_length (by simp only[List.length_take,Array.length_toList];omega),List.take_of_length_le (by simp only[List.length_take];omega)]
   have hlt:(cur.toList.take (i*6)).length=i*6:=by simp only[List.length_take,Array.length_toList];omega
   rw[e1,hcur1];simp only[];rw[List.take_append_of_le_length (by rw[List.length_append,hlt,hnl];omega),List.take_of_length_le (by rw[List.length_append,hlt,hnl];omega),cEd_append,<-cEd_take,<-ht,hnews,List.take_take,Nat.min_eq_left (by omega)]
  ·rw[hW1];exact grownBy_setRow _ _ _ _ (grownBy_setRow _ _ _ _ (grownBy_drew _ _ _ (World.grownBy.refl w (some g))))
 have hW:Hid (W1=w.drew.setRow g cur1):=hW1;have hs2h:=Hd hs2;have e0:IntKind.i64.wrap ((i:Int)+1)=(i:Int)+1:=IntWalk.i64_in _ (by omega);have e1:(0:Int)<=(i:Int)+1:=by omega
 have e2:(i:Int)+1<=(N:Int):=by omega
 have e3:¬((i:Int)=(i:Int)+1):=by omega
 have e4:((i:Int)==(i:Int)+1)=false:=by rw[beq_eq_false_iff_ne];exact e3
 have e5:((i:Int)+1).toNat=i+1:=by omega
 have e6:N-(N-1)=1:=by omega
 have e7:¬(cap=N-1):=by omega
 have e8:(i:Int)<=(N:Int):=by omega
 have e9:(N:Int)<=(cap:Int):=by omega
 have e10:((N:Int)-1)=((N-1:Nat):Int):=by omega
 have e11:i<=cap:=by omega
 have e12:N-1<=cap:=by omega
 have e13:N-1<=N:=by omega
 clear hcur1 hcur2 hs1 hs2 hg1 hW1 hnews hnl hget hg hs ht h1n hfit hi0 hz0 hz1 hz2 hk;go_enter Tryz.func130,Tryz.ntmps130;go_wp2_with fail
 go_region_law (refine step_append_runI rfl (.tmp 22) (.tmp 25) 23 23 rfl _ _ (by simp[Act.eval,Act.put]) (by simp[Act.eval,Act.put];rfl) (hap _ _) ?_)
 rw[<-hW.out];go_wp2_with fail;go_ret;exact⟨rfl,cur2,hfin.out.2.2,hs2h.out,hfin.out.1,hfin.out.2.1⟩
set_option maxHeartbeats 1000000 in
theorem InsertE_end(base:Nat)(v:Value)(l:List Ed)(u:Ed)(vb:Nat)(w:World)(h:OwnEd w base v l)(hl:l.length<=1000000)(hb:base<=w.heap.size)(hvb:w.heap[vb]?=some (.cells (edCells u) 31 (0,0))):
  Calls Tryz.prog 129 #[v,.int .i64 l.length,.slice (some ⟨vb,0,none⟩) 1 1] w fun e w'=>∃v',e= .returned v'/\OwnEd w' base v' (l++[u])/\w.grownBy w' v.ownBlock:=by
 obtain⟨i0,hi,hz0,hz1,hz2⟩:=info_parts info31;obtain⟨v',w',hr,ho,hg,_⟩:=run_append_own (P:=Tryz.prog) w base 23 23 31 i0 _ 6 48 Tryz.underlying23 hi hz0 hz1 hz2 rfl (by omega) v l.length (cEd l) h ⟨vb,0,none⟩ 1 1 (edCells u).toList rfl
  (World.news_of_block hvb) (by simp[edCells,Value.oneCell']) (by unfold maxLen;omega) (by omega) hb
 have ho2:Hid (OwnEd w' base v' (l++[u])):=by
  show OwnEd w' base v' (l++[u]);unfold OwnEd;rw[List.length_append,cEd_append];exact ho
 obtain⟨a,c,rfl⟩:=h.EL.shape;obtain⟨N,hN⟩:∃N,Hid (N=l.length):=⟨_,rfl⟩;rw[<-hN.out]at hr hl ⊢;have hgh:Hid (∀n c,w.grownBy w' (Value.slice a n c).ownBlock):=fun _ _=>by cases a<;>exact hg
 clear h ho hg hvb hi hz0 hz1 hz2;go_enter Tryz.func129,Tryz.ntmps129
 go_wp2_with (at_builtin;refine wpList_append_runB rfl (.tmp 23) (.tmp 24) 23 rfl _ _ rfl rfl _ _ hr ?_)
 all_goals
  go_ret;exact⟨_,rfl,ho2.out,hgh.out _ _⟩
theorem InsertE_shift(g cap:Nat)(cur:Array Value)(l:List Ed)(i:Nat)(u:Ed)(vb:Nat)(w:World)(hg:w.heap[g]?=some (.cells cur 31 (0,0)))(hi:i<l.length)(hc:l.length+1<=cap)(hl:l.length<=1000000)(hs:cur.size=cap*6)
  (ht:cur.toList.take (l.length*6)=cEd l) (hvb:w.heap[vb]?=some (.cells (edCells u) 31 (0,0))) (hne:vb≠g) :
  Calls Tryz.prog 129 #[.slice (some ⟨g,0,none⟩) l.length cap,.int .i64 i,.slice (some ⟨vb,0,none⟩) 1 1] w fun e w'=>e= .returned (.slice (some ⟨g,0,none⟩) (l.length+1) cap) /\
   ∃cur':Array Value,w'.heap[g]?=some (.cells cur' 31 (0,0))/\cur'.size=cap*6/\cur'.toList.take ((l.length+1)*6)=cEd (l.take i++u::l.drop i)/\w.grownBy w' (some g):=by
 obtain⟨N,hN⟩:∃N,Hid (N=l.length):=⟨_,rfl⟩;obtain⟨cs,hcs⟩:∃cs,cs=cEd (l.drop i):=⟨_,rfl⟩;have hcl:cs.length=(N-i)*6:=by rw[hcs,cEd_len,List.length_drop,hN.out]
 have hget:∀t u,cs[t]?=some u->cur[i*6+t]?=some u:=fun t u hu=>by
  rw[hcs,<-cEd_drop,List.getElem?_drop,<-ht]at hu;rw[List.getElem?_take]at hu
  split at hu
  ·simpa using hu
  ·cases hu
 rw[<-hN.out]at hi hc hl ht ⊢;have h1c:∀u∈cs,u.oneCell'=true:=by rw[hcs];exact cEd_one _
 have hov:∀lb cb,(callFunc 144 #[.slice (some ⟨vb,0,none⟩) 1 1,.slice (some ⟨g,(i+1)*6,none⟩) lb cb]).run Tryz.prog w= .ok (.value (.bool false)) w:=fun lb cb=>by
  rw[run_callFunc_extern Tryz.func144 (by kernel_rfl) (by kernel_rfl) (by kernel_rfl) (e:=Extern.SlicesOverlaps.overlaps #[23,23] #[4]) (by kernel_rfl),
   Lib.run_overlaps_apart w 23 4 31 Tryz.underlying23 6 sizeE ⟨vb,0,none⟩ ⟨g,(i+1)*6,none⟩ 1 1 lb cb hne 31 31 6 (cap*6) (by simp[World.shape?,hvb,edCells]) (by simp[World.shape?,hg,hs]) (by omega) (frozen_of_row w vb 0 _ _ hvb) (frozen_of_row w vb 6 _ _ hvb)]
  rfl
 have hcp1:∀ty dc sc,(Builtin.copy_ #[23,23] ty #[.slice (some ⟨g,(i+1)*6,none⟩) (N-i) dc,.slice (some ⟨g,i*6,none⟩) (N+1-i) sc]).run Tryz.prog w.drew= .ok (goInt (Nat.min (N+1-i) (N-i))) (w.drew.setRow g (cur.toList.take ((i+1)*6)++cs++cur.toList.drop ((i+1)*6+cs.length)).toArray):=fun ty dc sc =>
  run_copy_rowK w.drew 23 23 ty 31 6 g ((i+1)*6) (N-i) dc ⟨g,i*6,none⟩ (N+1-i) sc cur 31 cs Tryz.underlying23 sizeE hg (by rw[hcl];congr 1;simp only[Nat.min_def];split<;>omega)
   (fun j v hj=>by rw[Addr.add_lit];show w.cell? _=_;rw[cell_of_row w g _ cur 31 (0,0) hg];exact hget j v hj) (by rw[hcl,hs];omega) h1c
 obtain⟨cur1,hcur1⟩:∃cur1:Array Value,cur1=(cur.toList.take ((i+1)*6)++cs++cur.toList.drop ((i+1)*6+cs.length)).toArray:=⟨_,rfl⟩;rw[<-hcur1]at hcp1;have hs1:cur1.size=cap*6:=by
  rw[hcur1];simp only[List.size_toArray,List.length_append,List.length_take,List.length_drop,Array.length_toList];omega
 obtain⟨W1,hW1⟩:∃W1,W1=w.drew.setRow g cur1:=⟨_,rfl⟩;have hg1:W1.heap[g]?=some (.cells cur1 31 (0,0)):=by rw[hW1];exact setRow_heap w.drew g cur _ 31 _ hg
 have hv1:W1.heap[vb]?=some (.cells (edCells u) 31 (0,0)):=by rw[hW1,setRow_other _ _ _ _ hne];exact hvb
 have hcp2:∀ty dc,(Builtin.copy_ #[23,23] ty #[.slice (some ⟨g,i*6,none⟩) (N+1-i) dc,.slice (some ⟨vb,0,none⟩) 1 1]).run Tryz.prog W1= .ok (goInt (Nat.min 1 (N+1-i))) (W1.setRow g (cur1.toList.take (i*6)++(edCells u).toList++cur1.toList.drop (i*6+(edCells u).toList.length)).toArray):=fun ty dc =>
  run_copy_rowK W1 23 23 ty 31 6 g (i*6) (N+1-i) dc ⟨vb,0,none⟩ 1 1 cur1 31 (edCells u).toList Tryz.underlying23 sizeE hg1 (by show 6=_;rw[show Nat.min 1 (N+1-i)=1 from Nat.min_eq_left (by omega)])
   (World.news_of_block hv1) (by rw[hs1,show(edCells u).toList.length=6 from rfl];omega) (by simp[edCells,Value.oneCell'])
 obtain⟨cur2,hcur2⟩:∃cur2:Array Value,cur2=(cur1.toList.take (i*6)++(edCells u).toList++cur1.toList.drop (i*6+(edCells u).toList.length)).toArray:=⟨_,rfl⟩;rw[<-hcur2]at hcp2;have hxl:(edCells u).toList.length=6:=rfl;have hs2:cur2.size=cap*6:=by
  rw[hcur2];simp only[List.size_toArray,List.length_append,List.length_take,List.length_drop,Array.length_toList]at hxl ⊢;rw[hxl];omega
 have hfin:Hid (cur2.toList.take ((N+1)*6)=cEd (l.take i++u::l.drop i)/\w.grownBy (W1.setRow g cur2) (some g)/\(W1.setRow g cur2).heap[g]?=some (.cells cur2 31 (0,0))):=by
  refine⟨?_,?_,setRow_heap W1 g cur1 _ 31 _ hg1⟩
  ·have q1:(cur.toList.take ((i+1)*6)).length=(i+1)*6:=by simp only[List.length_take,Array.length_toList];omega
   have q2:cur1.toList.drop (i*6+6)=cs++cur.toList.drop ((i+1)*6+cs.length):=by
    rw[hcur1];simp only[List.append_assoc];rw[List.drop_append,q1,List.drop_of_length_le (by rw[q1];omega),show i*6+6-(i+1)*6=0 by omega];simp
   have q3:cur1.toList.take (i*6)=cEd (l.take i):=by
    rw[hcur1];simp only[List.append_assoc];rw[List.take_append_of_le_length (by rw[q1];omega),List.take_take,Nat.min_eq_left (by omega),<-cEd_take,<-ht,List.take_take,Nat.min_eq_left (by omega)]
   have q4:(cEd (l.take i)).length=i*6:=by rw[cEd_len,List.length_take,<-hN.out,Nat.min_eq_left (by omega)]
   rw[hcur2];simp only[hxl,q2,q3];rw[cEd_append,show cEd (u::l.drop i)=(edCells u).toList++cEd (l.drop i)from rfl,<-hcs,<-List.append_assoc,List.take_append_of_le_length (by simp only[List.length_append,q4,hxl,hcl];omega),List.take_of_length_le (by simp only[List.length_append,q4,hxl,hcl];omega),List.append_assoc]
  ·rw[hW1];exact grownBy_setRow _ _ _ _ (grownBy_setRow _ _ _ _ (grownBy_drew _ _ _ (World.grownBy.refl w (some g))))
 have hW:Hid (W1=w.drew.setRow g cur1):=hW1;have hs2h:=Hd hs2;have e0:IntKind.i64.wrap ((i:Int)+1)=(i:Int)+1:=IntWalk.i64_in _ (by omega);have e1:(0:Int)<=(i:Int)+1:=by omega
 have e2:(i:Int)+1<=(N:Int)+1:=by omega
 have e3:¬((i:Int)=(N:Int)):=by omega
 have e5:((i:Int)+1).toNat=i+1:=by omega
 have e6:¬(cap=i+1):=by omega
 have e7:¬(cap=i):=by omega
 have e8:(i:Int)<=(N:Int)+1:=by omega
 have e9:(i:Int)<=(N:Int):=by omega
 have e10:i<=N:=by omega
 have e11:i<=cap:=by omega
 have e12:N+1<=cap:=by omega
 have e13:i<=N+1:=by omega
 have e14:i+1<=N+1:=by omega
 clear hcur1 hcur2 hs1 hs2 hg1 hv1 hW1 hcs hcl hget hg hs ht h1c hxl hvb;go_enter Tryz.func129,Tryz.ntmps129
 go_wp2_with (simp only[hov])
 go_region_law (refine step_copy_runI rfl _ _ 23 23 rfl _ _ (by simp[Act.eval,Act.put]) (by simp[Act.eval,Act.put]) (hcp1 _ _ _) ?_)
 rw[<-hW.out]
 go_wp2_with (at_builtin;refine wpList_copy_runI _ rfl _ _ 23 23 rfl _ _ rfl rfl (hcp2 _ _) ?_)
 go_ret;exact⟨rfl,cur2,hfin.out.2.2,hs2h.out,hfin.out.1,hfin.out.2.1⟩
theorem InsertE_grow(base:Nat)(g cap:Nat)(cur:Array Value)(l:List Ed)(i:Nat)(u:Ed)(vb:Nat)(w:World)(hg:w.heap[g]?=some (.cells cur 31 (0,0)))(hi:i<l.length)(hlc:l.length<=cap)(hc:cap<l.length+1)(hl:l.length<=1000000)(hb:base<=w.heap.size)
  (ht:cur.toList.take (l.length*6)=cEd l) (hvb:w.heap[vb]?=some (.cells (edCells u) 31 (0,0))) :
  Calls Tryz.prog 129 #[.slice (some ⟨g,0,none⟩) l.length cap,.int .i64 i,.slice (some ⟨vb,0,none⟩) 1 1] w fun e w'=>∃v',e= .returned v'/\OwnEd w' base v' (l.take i++u::l.drop i)/\w.grownBy w' none:=by
 obtain⟨N,hN⟩:∃N,Hid (N=l.length):=⟨_,rfl⟩;obtain⟨i0,hi0,hz0,hz1,hz2⟩:=info_parts info31;obtain⟨cs,hcs⟩:∃cs,cs=cEd (l.drop i):=⟨_,rfl⟩;obtain⟨ca,hca⟩:∃ca,ca=cEd (l.take i):=⟨_,rfl⟩;have hcl:cs.length=(N-i)*6:=by rw[hcs,cEd_len,List.length_drop,hN.out]
 have hal:ca.length=i*6:=by rw[hca,cEd_len,List.length_take,Nat.min_eq_left (by omega)]
 have hget:∀t u,cs[t]?=some u->cur[i*6+t]?=some u:=fun t u hu=>by
  rw[hcs,<-cEd_drop,List.getElem?_drop,<-ht]at hu;rw[List.getElem?_take]at hu
  split at hu
  ·simpa using hu
  ·cases hu
 have hgeta:∀t u,ca[t]?=some u->cur[t]?=some u:=fun t u hu=>by
  rw[hca,<-cEd_take,<-ht,List.take_take,List.getElem?_take]at hu
  split at hu
  ·simpa using hu
  ·cases hu
 rw[<-hN.out]at hi hlc hc hl ht ⊢;have h1c:∀u∈cs,u.oneCell'=true:=by rw[hcs];exact cEd_one _
 have hbw:g<w.heap.size:=(Array.getElem?_eq_some_iff.1 hg).1;have hvw:vb<w.heap.size:=(Array.getElem?_eq_some_iff.1 hvb).1;have hkk:(N:Int)+1-(i:Int)=((N+1-i:Nat):Int):=by omega
 have hik:i+(N+1-i)=N+1:=by omega
 have hold:(Builtin.firstCells i0.size i (.slice (some ⟨g,0,none⟩) i cap)).run Tryz.prog w.drew= .ok ca.toArray w.drew:=by
  rw[hz1];exact run_firstCells_some w.drew 6 i ⟨g,0,none⟩ i cap ca hal (fun j v hj=>by
   rw[Addr.add_lit,Nat.zero_add];show w.cell? _=_;rw[cell_of_row w g _ cur 31 (0,0) hg];exact hgeta j v hj)
 have hrz:∀ty,(Builtin.append_ #[23,3] ty #[.slice (some ⟨g,0,none⟩) i cap,.int .i64 ((N:Int)+1-(i:Int))]).run Tryz.prog w =
   .ok (.slice (some ⟨w.heap.size,0,none⟩) (N+1) (grownCap w (N+1) cap 31)) (w.drew.alloc (.cells (ca.toArray++Builtin.zeroCells zeroE.cells (N+1-i)++Builtin.zeroCells zeroE.cells (grownCap w (N+1) cap 31-(N+1))) 31)):=fun ty=>by
  have h:=Lib.run_append_grow_zeros w 23 3 ty 31 i0 zeroE .i64 .i64 Tryz.underlying23 Tryz.underlying3 hi0 hz0 (some ⟨g,0,none⟩) i cap ca hold (N+1-i) (by omega) (by rw[hz1];omega) (by omega) (by omega) (by rw[hz2];omega) (by rw[hz2,hik];exact growslice_fits hc (by omega));rw[hik]at h;rw[hkk];exact h
 obtain⟨G,hG⟩:∃G,G=grownCap w (N+1) cap 31:=⟨_,rfl⟩;obtain⟨ROW,hROW⟩:∃ROW:Array Value,ROW=ca.toArray++Builtin.zeroCells zeroE.cells (N+1-i)++Builtin.zeroCells zeroE.cells (G-(N+1)):=⟨_,rfl⟩;rw[<-hG]at hrz;rw[<-hROW]at hrz;have hGn:N+1<=G:=by rw[hG];exact grownCap_ge w _ _ _
 have hG63:G<=maxLen:=by rw[hG];exact grownCap_le_maxLen w (N+1) cap 31 (by unfold maxLen;omega)
 have hRl:ROW.size=G*6:=by
  have z1:=size_zeroCells zeroE.cells (N+1-i);have z2:=size_zeroCells zeroE.cells (G-(N+1));rw[show zeroE.cells.size=6 from rfl]at z1 z2;rw[hROW,Array.size_append,Array.size_append,z1,z2,List.size_toArray,hal];omega
 have hRt:ROW.toList.take (i*6)=ca:=by
  rw[hROW];simp only[Array.toList_append,List.append_assoc];rw[<-hal,List.take_left]
 obtain⟨W1,hW1⟩:∃W1,W1=w.drew.alloc (.cells ROW 31):=⟨_,rfl⟩;rw[<-hW1]at hrz;have hg1:W1.heap[w.heap.size]?=some (.cells ROW 31 (0,0)):=by rw[hW1];exact heap_alloc_new w.drew _
 have hb1:∀k,k<w.heap.size->W1.heap[k]?=w.heap[k]?:=fun k hk=>by rw[hW1];exact Below.heap_alloc w.drew _ k hk
 have hxl:(edCells u).toList.length=6:=rfl;have hcpA:∀ty dc,(Builtin.copy_ #[23,23] ty #[.slice (some ⟨w.heap.size,i*6,none⟩) (N+1-i) dc,.slice (some ⟨vb,0,none⟩) 1 1]).run Tryz.prog W1= .ok (goInt (Nat.min 1 (N+1-i))) (W1.setRow w.heap.size (ROW.toList.take (i*6)++(edCells u).toList++ROW.toList.drop (i*6+(edCells u).toList.length)).toArray):=fun ty dc =>
  run_copy_rowK W1 23 23 ty 31 6 w.heap.size (i*6) (N+1-i) dc ⟨vb,0,none⟩ 1 1 ROW 31 (edCells u).toList Tryz.underlying23 sizeE hg1 (by show 6=_;rw[show Nat.min 1 (N+1-i)=1 from Nat.min_eq_left (by omega)])
   (World.news_of_block ((hb1 vb hvw).trans hvb)) (by rw[hRl,hxl];omega) (by simp[edCells,Value.oneCell'])
 obtain⟨R2,hR2⟩:∃R2:Array Value,R2=(ROW.toList.take (i*6)++(edCells u).toList++ROW.toList.drop (i*6+(edCells u).toList.length)).toArray:=⟨_,rfl⟩;rw[<-hR2]at hcpA;have hR2l:R2.size=G*6:=by
  rw[hR2];simp only[List.size_toArray,List.length_append,List.length_take,List.length_drop,Array.length_toList]at hxl ⊢;rw[hxl];omega
 obtain⟨W2,hW2⟩:∃W2,W2=W1.setRow w.heap.size R2:=⟨_,rfl⟩;have hg2:W2.heap[w.heap.size]?=some (.cells R2 31 (0,0)):=by rw[hW2];exact setRow_heap W1 _ ROW _ 31 _ hg1
 have hb2:W2.heap[g]?=some (.cells cur 31 (0,0)):=by rw[hW2,setRow_other _ _ _ _ (by omega),hb1 g hbw];exact hg
 rw[<-hW2]at hcpA;have hcpB:∀ty dc sc,(Builtin.copy_ #[23,23] ty #[.slice (some ⟨w.heap.size,(i+1)*6,none⟩) (N-i) dc,.slice (some ⟨g,i*6,none⟩) (N-i) sc]).run Tryz.prog W2.drew= .ok (goInt (Nat.min (N-i) (N-i))) (W2.drew.setRow w.heap.size (R2.toList.take ((i+1)*6)++cs++R2.toList.drop ((i+1)*6+cs.length)).toArray):=fun ty dc sc =>
  run_copy_rowK W2.drew 23 23 ty 31 6 w.heap.size ((i+1)*6) (N-i) dc ⟨g,i*6,none⟩ (N-i) sc R2 31 cs Tryz.underlying23 sizeE hg2 (by rw[hcl,show Nat.min (N-i) (N-i)=N-i from Nat.min_self _])
   (fun j v hj=>by rw[Addr.add_lit];show W2.cell? _=_;rw[cell_of_row W2 g _ cur 31 (0,0) hb2];exact hget j v hj) (by rw[hcl,hR2l];omega) h1c
 obtain⟨R3,hR3⟩:∃R3:Array Value,R3=(R2.toList.take ((i+1)*6)++cs++R2.toList.drop ((i+1)*6+cs.length)).toArray:=⟨_,rfl⟩;rw[<-hR3]at hcpB;have hR3l:R3.size=G*6:=by
  rw[hR3];simp only[List.size_toArray,List.length_append,List.length_take,List.length_drop,Array.length_toList];omega
 obtain⟨W3,hW3⟩:∃W3,W3=W2.drew.setRow w.heap.size R3:=⟨_,rfl⟩;rw[<-hW3]at hcpB;have hfin:Hid (OwnEd W3 base (.slice (some ⟨w.heap.size,0,none⟩) (N+1) G) (l.take i++u::l.drop i)/\w.grownBy W3 none):=by
  have hlen:(l.take i++u::l.drop i).length=N+1:=by simp only[List.length_append,List.length_take,List.length_cons,List.length_drop,<-hN.out];omega
  have hcells:cEd (l.take i++u::l.drop i)=ca++((edCells u).toList++cs):=by rw[cEd_append,hca,hcs];rfl
  refine⟨?_,?_⟩
  ·unfold OwnEd;rw[hlen,hcells];refine⟨by simp only[List.length_append,hal,hxl,hcl];omega,.inr ⟨_,_,R3,rfl,hb,by rw[hW3];exact setRow_heap W2.drew _ R2 _ 31 _ hg2,hGn,hG63,hR3l,?_⟩⟩;have q1:R2.toList.take ((i+1)*6)=ca++(edCells u).toList:=by
    rw[hR2];simp only[hRt];rw[List.take_append_of_le_length (by rw[List.length_append,hal,hxl];omega),List.take_of_length_le (by rw[List.length_append,hal,hxl];omega)]
   rw[hR3];simp only[q1];rw[List.take_append_of_le_length (by simp only[List.length_append,hal,hxl,hcl];omega),List.take_of_length_le (by simp only[List.length_append,hal,hxl,hcl];omega),List.append_assoc]
  ·rw[hW3,hW2];refine⟨?_,?_,?_,?_,fun k hk _=>?_⟩
   ·rw[hW1];rfl
   ·rw[hW1];rfl
   ·rw[hW1];rfl
   ·rw[hW1];simp
   ·rw[setRow_other _ _ _ _ (by omega),heap_drew,setRow_other _ _ _ _ (by omega),hb1 k hk]
 have hW1h:=Hd hW1;have hW2h:=Hd hW2;have hW3h:=Hd hW3;unfold maxLen at hG63;have e0:IntKind.i64.wrap ((i:Int)+1)=(i:Int)+1:=IntWalk.i64_in _ (by omega);have e1:(0:Int)<=(i:Int)+1:=by omega
 have e3:¬((i:Int)=(N:Int)):=by omega
 have e4:(cap:Int)<(N:Int)+1:=by omega
 have e5:((i:Int)+1).toNat=i+1:=by omega
 have e6:¬(G=i+1):=by omega
 have e7:¬(G=i):=by omega
 have e8:(i:Int)<=(N:Int)+1:=by omega
 have e9:(i:Int)<=(N:Int):=by omega
 have e10:i<=N:=by omega
 have e11:i<=cap:=by omega
 have e12:¬(cap=i):=by omega
 have e13:i<=N+1:=by omega
 have e14:i+1<=N+1:=by omega
 have e15:(i:Int)+1<=(N:Int)+1:=by omega
 clear hW1 hW2 hW3 hR3 hR2 hR3l hR2l hRt hRl hROW hG hold hkk hik hg hg1 hg2 hb1 hb2 hget hgeta hcs hca hcl hal ht hvb h1c hxl hi0 hz0 hz1 hz2;go_enter Tryz.func129,Tryz.ntmps129
 go_wp2_with (first
  | (at_builtin;refine Lib.wpList_append_run _ rfl _ _ _ _ rfl _ _ rfl rfl _ _ (hrz _) ?_)
  | (at_builtin;refine wpList_copy_runI _ rfl _ _ 23 23 rfl _ _ rfl rfl (hcpA _ _) ?_))
 go_region_law (refine step_copy_runI rfl _ _ 23 23 rfl _ _ (by simp[Act.eval,Act.put]) (by simp[Act.eval,Act.put]) (hcpB _ _ _) ?_)
 go_wp2_with fail;go_ret;exact⟨_,rfl,hfin.out.1,hfin.out.2⟩
theorem InsertE_any(base:Nat)(v:Value)(l:List Ed)(i:Nat)(u:Ed)(vb:Nat)(w:World)(h:OwnEd w base v l)(hi:i<=l.length)(hl:l.length<=1000000)(hb:base<=w.heap.size)(hvb:w.heap[vb]?=some (.cells (edCells u) 31 (0,0)))
  (hne:v.ownBlock≠some vb):Calls Tryz.prog 129 #[v,.int .i64 i,.slice (some ⟨vb,0,none⟩) 1 1] w fun e w'=>∃v',e= .returned v'/\OwnEd w' base v' (l.take i++u::l.drop i)/\w.grownBy w' v.ownBlock:=by
 by_cases he:i=l.length
 ·subst he;rw[List.take_length,List.drop_length];exact InsertE_end base v l u vb w h hl hb hvb
 ·have hlt:i<l.length:=by omega
  have h':=h;unfold OwnEd at h';rcases h'.2 with⟨rfl,h0⟩|⟨g,cap,cur,rfl,hbg,hg,hc,hm,hs,ht⟩
  ·omega
  ·by_cases hr:l.length+1<=cap
   ·refine(InsertE_shift g cap cur l i u vb w hg hlt hr hl hs ht hvb (fun e=>hne (by rw[e];rfl))).mono ?_;rintro e w' ⟨rfl,cur',h1,h2,h3,h4⟩;have hlen:(l.take i++u::l.drop i).length=l.length+1:=by simp only[List.length_append,List.length_take,List.length_cons,List.length_drop];omega
    refine⟨_,rfl,?_,h4⟩;unfold OwnEd;rw[hlen];exact⟨by rw[cEd_len,hlen],.inr ⟨g,cap,cur',rfl,hbg,h1,hr,hm,h2,h3⟩⟩
   ·refine(InsertE_grow base g cap cur l i u vb w hg hlt hc (by omega) hl hb ht hvb).mono ?_;rintro e w' ⟨v',rfl,h1,h2⟩;exact⟨_,rfl,h1,⟨h2.os,h2.tape,h2.output,h2.size,fun k hk _=>h2.block k hk (by simp)⟩⟩
theorem DeleteE_own(base:Nat)(v:Value)(l:List Ed)(i:Nat)(w:World)(h:OwnEd w base v l)(hi:i<l.length)(hl:l.length<=1000000):
  Calls Tryz.prog 130 #[v,.int .i64 i,.int .i64 ((i:Int)+1)] w fun e w'=>∃v',e= .returned v'/\OwnEd w' base v' (l.take i++l.drop (i+1))/\w.grownBy w' v.ownBlock/\v'.ownBlock=v.ownBlock:=by
 have h':=h;unfold OwnEd at h';rcases h'.2 with⟨rfl,h0⟩|⟨g,cap,cur,rfl,hbg,hg,hc,hm,hs,ht⟩
 ·omega
 ·refine(DeleteE_any g cap cur l i w hg hi hc hl hs ht).mono ?_;rintro e w' ⟨rfl,cur',h1,h2,h3,h4⟩;have hlen:(l.take i++l.drop (i+1)).length=l.length-1:=by simp only[List.length_append,List.length_take,List.length_drop];omega
  refine⟨_,rfl,?_,h4,rfl⟩;unfold OwnEd;rw[hlen];exact⟨by rw[cEd_len,hlen],.inr ⟨g,cap,cur',rfl,hbg,h1,by omega,hm,h2,h3⟩⟩
theorem info3:(Tryz.prog.info? 3).map (fun i=>(i.zero,i.size,i.bytes))=some (some (.int .i64 0),1,8):=by kernel_rfl
def cI(l:List Int):List Value:=l.map (Value.int .i64)
def OwnI(W:World)(base:Nat)(v:Value)(l:List Int):Prop:=W.ownsRow base 3 1 v l.length (cI l)
theorem OwnI.DL{W:World}{base:Nat}{v:Value}{l:List Int}(h:OwnI W base v l):DL W v l:=by
 unfold OwnI at h;rcases h.2 with⟨rfl,h0⟩|⟨g,cap,cur,rfl,hb,hg,hc,hm,hs,ht⟩
 ·exact .inl ⟨List.length_eq_zero_iff.1 h0,_,_,rfl⟩
 ·by_cases hl:l=[]
  ·subst hl;exact .inl ⟨rfl,_,_,rfl⟩
  ·refine .inr ⟨hl,g,0,cap,rfl,hc,(Array.getElem?_eq_some_iff.1 hg).1,fun j x hx=>?_⟩;have hj:j<l.length:=(List.getElem?_eq_some_iff.1 hx).1;rw[cell_of_row _ _ _ _ _ _ hg];have h2:(cI l)[0+j]?=some (.int .i64 x):=by simp[cI,hx]
   rw[<-h2,<-ht,List.getElem?_take_of_lt (by omega)]
   simp
theorem OwnI.base{W:World}{base:Nat}{v:Value}{l:List Int}(h:OwnI W base v l)(k:Nat)(hk:v.ownBlock=some k):base<=k/\k<W.heap.size:=by
 unfold OwnI at h;rcases h.2 with⟨rfl,_⟩|⟨g,cap,cur,rfl,hg,hh,_⟩
 ·simp[Value.ownBlock]at hk
 ·simp[Value.ownBlock]at hk;subst hk;exact⟨hg,(Array.getElem?_eq_some_iff.1 hh).1⟩
theorem lieV_cells{W:World}{b o:Nat}{l:List Vx}(h:LieV W b o l)(j:Nat)(u:Value)(hj:(cVx l)[j]?=some u):W.cell? ((⟨b,o,none⟩:Addr).add j)=some u:=by
 have hlen:=(List.getElem?_eq_some_iff.1 hj).1;rw[cVx_len]at hlen;have hq:j / 2<l.length:=by omega
 have e1:l[j / 2]?=some l[j / 2]:=List.getElem?_eq_getElem hq;have e2:=cVx_at l (j / 2) _ (j%2) e1 (Nat.mod_lt _ (by omega));rw[show j / 2*2+j%2=j by omega,hj]at e2;obtain⟨c0,c1⟩:=h (j / 2) _ e1;rw[Addr.add_lit];rcases(by omega:j%2=0\/j%2=1)with hr|hr
 ·rw[hr]at e2;rw[show o+j=o+j / 2*2 by omega,c0];exact e2.symm
 ·rw[hr]at e2;rw[show o+j=o+j / 2*2+1 by omega,c1];exact e2.symm
theorem lieE_cells{W:World}{b o:Nat}{l:List Ed}(h:LieE W b o l)(j:Nat)(u:Value)(hj:(cEd l)[j]?=some u):W.cell? ((⟨b,o,none⟩:Addr).add j)=some u:=by
 have hlen:=(List.getElem?_eq_some_iff.1 hj).1;rw[cEd_len]at hlen;have hq:j / 6<l.length:=by omega
 have e1:l[j / 6]?=some l[j / 6]:=List.getElem?_eq_getElem hq;have e2:=cEd_at l (j / 6) _ (j%6) e1 (Nat.mod_lt _ (by omega));rw[show j / 6*6+j%6=j by omega,hj]at e2;obtain⟨c0,c1,c2,c3,c4,c5⟩:=h (j / 6) _ e1;rw[Addr.add_lit];rcases(by omega:j%6=0\/j%6=1\/j%6=2\/j%6=3\/j%6=4\/j%6=5)with hr|hr|hr|hr|hr|hr
 ·rw[hr]at e2;rw[show o+j=o+j / 6*6 by omega,c0];exact e2.symm
 ·rw[hr]at e2;rw[show o+j=o+j / 6*6+1 by omega,c1];exact e2.symm
 ·rw[hr]at e2;rw[show o+j=o+j / 6*6+2 by omega,c2];exact e2.symm
 ·rw[hr]at e2;rw[show o+j=o+j / 6*6+3 by omega,c3];exact e2.symm
 ·rw[hr]at e2;rw[show o+j=o+j / 6*6+4 by omega,c4];exact e2.symm
 ·rw[hr]at e2;rw[show o+j=o+j / 6*6+5 by omega,c5];exact e2.symm
theorem lieD_cells{W:World}{b o:Nat}{l:List Int}(h:LieD W b o l)(j:Nat)(u:Value)(hj:(cI l)[j]?=some u):W.cell? ((⟨b,o,none⟩:Addr).add j)=some u:=by
 unfold cI at hj;rw[List.getElem?_map]at hj;cases hl:l[j]? with
 | none=>rw[hl]at hj;cases hj
 | some x=>rw[hl]at hj;cases hj;rw[Addr.add_lit];exact h j x hl
theorem cI_one(l:List Int):∀v∈cI l,v.oneCell'=true:=by
 intro v hv;obtain⟨x,_,rfl⟩:=List.mem_map.1 hv;rfl
theorem cI_len(l:List Int):(cI l).length=l.length*1:=by simp[cI]
set_option maxHeartbeats 1000000 in
theorem CloneV_any(v:Value)(l:List Vx)(w:World)(h:VL w v l)(hn:l.length<=1000000000):
  Calls Tryz.prog 83 #[v] w fun e w'=>∃v',e= .returned v'/\OwnV w' w.heap.size v' l/\Below w.heap.size w w':=by
 have q22:∀(w:World) (a:Option Addr) (n c n' c':Nat),(binOp .eql 22 (.slice a n c) (.slice none n' c')).run Tryz.prog w= .ok (.bool a.isNone) w:=fun w a n c n' c'=>Lib.run_eql_slice_nil w _ _ a n c n' c' Tryz.underlying22;obtain⟨i0,hi,hz0,hz1,hz2⟩:=info_parts info29;have key:∀(a:Addr) (c:Nat),(∀j u,(cVx l)[j]?=some u->w.cell? (a.add j)=some u)->Calls Tryz.prog 83 #[.slice (some a) l.length c] w fun e w'=>∃v',e= .returned v'/\OwnV w' w.heap.size v' l/\Below w.heap.size w w':=by
  intro a c hcell;obtain⟨v',w',hr,ho,hg,_⟩:=run_append_own (P:=Tryz.prog) (w.alloc (.cells #[] 29)) w.heap.size 22 22 29 i0 _ 2 16 Tryz.underlying22 hi hz0 hz1 hz2 rfl (by omega) _ 0 [] (World.ownsRow_made w #[] 0 (Nat.le_refl _) (Nat.zero_le _) rfl) a l.length c (cVx l) (cVx_len l)
   (fun j u hj=>Lib.cell?_alloc_some _ (hcell j u hj)) (cVx_one l) (by unfold maxLen;omega) (by omega) (by simp)
  have ho2:Hid (OwnV w' w.heap.size v' l):=by
   show OwnV _ _ _ _;unfold OwnV;simpa using ho
  have hb:Hid (Below w.heap.size w w'):=((Below.refl _ w).alloc (Nat.le_refl _) _).grown hg (by simp) (by intro k hk;simp[Value.ownBlock]at hk;omega);clear hcell ho hg h hi hz0 hz1 hz2;generalize l.length=N at *
  go_enter Tryz.func83,Tryz.ntmps83
  go_wp2_with (at_builtin;refine wpList_append_runB rfl (.tmp 5) (.tmp 6) 22 rfl _ _ rfl rfl _ _ hr ?_)
  go_ret;exact⟨_,rfl,ho2.out,hb.out⟩
 rcases h with⟨rfl,a,c,rfl⟩|⟨h1,b,o,c,rfl,h2,h3,h4⟩
 ·cases a with
  | none =>
   clear key;go_enter Tryz.func83,Tryz.ntmps83;go_wp2_with fail;go_ret;exact⟨_,rfl,World.ownsRow_nil _ _ _ _,Below.refl _ _⟩
  | some a=>exact key a c (fun j u hj=>by simp[cVx]at hj)
 ·exact key _ c (fun j u hj=>lieV_cells h4 j u hj)
set_option maxHeartbeats 1000000 in
theorem CloneE_any(v:Value)(l:List Ed)(w:World)(h:EL w v l)(hn:l.length<=1000000000):
  Calls Tryz.prog 84 #[v] w fun e w'=>∃v',e= .returned v'/\OwnEd w' w.heap.size v' l/\Below w.heap.size w w':=by
 have q23:∀(w:World) (a:Option Addr) (n c n' c':Nat),(binOp .eql 23 (.slice a n c) (.slice none n' c')).run Tryz.prog w= .ok (.bool a.isNone) w:=fun w a n c n' c'=>Lib.run_eql_slice_nil w _ _ a n c n' c' Tryz.underlying23;obtain⟨i0,hi,hz0,hz1,hz2⟩:=info_parts info31;have key:∀(a:Addr) (c:Nat),(∀j u,(cEd l)[j]?=some u->w.cell? (a.add j)=some u)->Calls Tryz.prog 84 #[.slice (some a) l.length c] w fun e w'=>∃v',e= .returned v'/\OwnEd w' w.heap.size v' l/\Below w.heap.size w w':=by
  intro a c hcell;obtain⟨v',w',hr,ho,hg,_⟩:=run_append_own (P:=Tryz.prog) (w.alloc (.cells #[] 31)) w.heap.size 23 23 31 i0 _ 6 48 Tryz.underlying23 hi hz0 hz1 hz2 rfl (by omega) _ 0 [] (World.ownsRow_made w #[] 0 (Nat.le_refl _) (Nat.zero_le _) rfl) a l.length c (cEd l) (cEd_len l)
   (fun j u hj=>Lib.cell?_alloc_some _ (hcell j u hj)) (cEd_one l) (by unfold maxLen;omega) (by omega) (by simp)
  have ho2:Hid (OwnEd w' w.heap.size v' l):=by
   show OwnEd _ _ _ _;unfold OwnEd;simpa using ho
  have hb:Hid (Below w.heap.size w w'):=((Below.refl _ w).alloc (Nat.le_refl _) _).grown hg (by simp) (by intro k hk;simp[Value.ownBlock]at hk;omega);clear hcell ho hg h hi hz0 hz1 hz2;generalize l.length=N at *
  go_enter Tryz.func84,Tryz.ntmps84
  go_wp2_with (at_builtin;refine wpList_append_runB rfl (.tmp 5) (.tmp 6) 23 rfl _ _ rfl rfl _ _ hr ?_)
  go_ret;exact⟨_,rfl,ho2.out,hb.out⟩
 rcases h with⟨rfl,a,c,rfl⟩|⟨h1,b,o,c,rfl,h2,h3,h4⟩
 ·cases a with
  | none =>
   clear key;go_enter Tryz.func84,Tryz.ntmps84;go_wp2_with fail;go_ret;exact⟨_,rfl,World.ownsRow_nil _ _ _ _,Below.refl _ _⟩
  | some a=>exact key a c (fun j u hj=>by simp[cEd]at hj)
 ·exact key _ c (fun j u hj=>lieE_cells h4 j u hj)
set_option maxHeartbeats 1000000 in
theorem CloneI_any(v:Value)(l:List Int)(w:World)(h:DL w v l)(hn:l.length<=1000000000):
  Calls Tryz.prog 85 #[v] w fun e w'=>∃v',e= .returned v'/\OwnI w' w.heap.size v' l/\Below w.heap.size w w':=by
 have q24:∀(w:World) (a:Option Addr) (n c n' c':Nat),(binOp .eql 24 (.slice a n c) (.slice none n' c')).run Tryz.prog w= .ok (.bool a.isNone) w:=fun w a n c n' c'=>Lib.run_eql_slice_nil w _ _ a n c n' c' Tryz.underlying24;obtain⟨i0,hi,hz0,hz1,hz2⟩:=info_parts info3;have key:∀(a:Addr) (c:Nat),(∀j u,(cI l)[j]?=some u->w.cell? (a.add j)=some u)->Calls Tryz.prog 85 #[.slice (some a) l.length c] w fun e w'=>∃v',e= .returned v'/\OwnI w' w.heap.size v' l/\Below w.heap.size w w':=by
  intro a c hcell;obtain⟨v',w',hr,ho,hg,_⟩:=run_append_own (P:=Tryz.prog) (w.alloc (.cells #[] 3)) w.heap.size 24 24 3 i0 _ 1 8 Tryz.underlying24 hi hz0 hz1 hz2 rfl (by omega) _ 0 [] (World.ownsRow_made w #[] 0 (Nat.le_refl _) (Nat.zero_le _) rfl) a l.length c (cI l) (cI_len l)
   (fun j u hj=>Lib.cell?_alloc_some _ (hcell j u hj)) (cI_one l) (by unfold maxLen;omega) (by omega) (by simp)
  have ho2:Hid (OwnI w' w.heap.size v' l):=by
   show OwnI _ _ _ _;unfold OwnI;simpa using ho
  have hb:Hid (Below w.heap.size w w'):=((Below.refl _ w).alloc (Nat.le_refl _) _).grown hg (by simp) (by intro k hk;simp[Value.ownBlock]at hk;omega);clear hcell ho hg h hi hz0 hz1 hz2;generalize l.length=N at *
  go_enter Tryz.func85,Tryz.ntmps85
  go_wp2_with (at_builtin;refine wpList_append_runB rfl (.tmp 5) (.tmp 6) 24 rfl _ _ rfl rfl _ _ hr ?_)
  go_ret;exact⟨_,rfl,ho2.out,hb.out⟩
 rcases h with⟨rfl,a,c,rfl⟩|⟨h1,b,o,c,rfl,h2,h3,h4⟩
 ·cases a with
  | none =>
   clear key;go_enter Tryz.func85,Tryz.ntmps85;go_wp2_with fail;go_ret;exact⟨_,rfl,World.ownsRow_nil _ _ _ _,Below.refl _ _⟩
  | some a=>exact key a c (fun j u hj=>by simp[cI]at hj)
 ·exact key _ c (fun j u hj=>lieD_cells h4 j u hj)
end Go.Proofs.YtlaldnlgapeckaaGreat
