/- Facts. -/
import Derived.ChangeSlices
import Derived.Deep.DeepHandedRow
import Derived.Deep.Slices
import Derived.Lib.SmallJoins
import Derived.OpenShut
import Derived.ProofKit
import Derived.ShutString
import Derived.Test.YthmkmjkbfjhffaaRows
import Derived.Test.YthmkmjkbfjhffaaVNVYRc
set_option maxRecDepth 100000
set_option maxHeartbeats 4000000
namespace Go.Proofs.Ythmkmjkbfjhffaa
open Go.ChangeShapes Go.WideShapes Go.ChangeAt Go.RowKit
theorem own:ownKnob Try.prog.godebug=none:=by kernel_rfl
theorem laidOut:laidOutB Try.prog=true:=by kernel_rfl
noncomputable def laidWorld(os:Os):World:=World.holding Try.prog os ⟨#[],#[],[]⟩
theorem block_of_cell{W:World}{b o:Nat}{sp:Option Nat}{u:Value}(h:W.cell? ⟨b,o,sp⟩=some u):sp=none/\b<W.heap.size:=by
 unfold World.cell? at h
 split at h
 ·rename_i cc _ _ hc
  split at h
  ·cases h
  ·rename_i hs;refine⟨by cases sp<;>simp_all,?_⟩;rcases Nat.lt_or_ge b W.heap.size with h|h
   ·exact h
   ·rw[Array.getElem?_eq_none h]at hc;cases hc
 ·cases h
theorem wf_i64{n:Int}(h:(Lit.int .i64 n).wf=true):i64B n:=by
 have:=bounds_i64 h;exact this
def F5.inB(r:F5):Prop:=i64B r.a/\i64B r.b/\i64B r.c/\i64B r.d/\i64B r.e
def Arg5(W:World)(v:Value)(l:List F5):Prop:=L5 W v l/\l.length<=9223372036854775807/\ ∀r∈l,i64B r.a/\i64B r.b/\i64B r.c/\i64B r.d/\i64B r.e
theorem open_arg5{H:Type}{enc:TypeId × Value->H}{W:World}{base:Nat}{r:Reach}{b0:Nat}{spare:Bool}{held:Nat->Bool}{v:Value}{d:DataW H}{p:List MemPlace}
  (hv:Value.okWide Try.prog W r b0 22 v) (h:DataW.Trod enc Try.prog W base held spare 22 v d p):∃l,Arg5 W v l:=by
 obtain⟨a0,len0,cap0,rfl⟩:=okWide_slice Try.underlying22 hv;obtain⟨fuel,hf⟩:=h;rcases Go.Deep.open_slice Try.underlying22 hf with⟨hcs,_⟩|⟨a,len,cap,m,n,D,Pl,hcs,hb,hl,hm,hmm,hx,hi⟩
 ·simp[Value.cells]at hcs;obtain⟨rfl,rfl,rfl⟩:=hcs;exact⟨[],.inl ⟨rfl,_,_,rfl⟩,by simp,by simp⟩
 ·simp[Value.cells]at hcs;obtain⟨rfl,rfl,rfl⟩:=hcs;have hle:len0<=m:=by rw[hmm];split<;>omega
  have hC:Try.prog.cellsOf 67=5:=by kernel_rfl
  have hone:Try.prog.cellsOf 3=1:=by kernel_rfl
  have key:∀i,i<len0->∃x:F5,(∀j u,x.cells[j]?=some u->W.cell? (a.add (i*5+j))=some u)/\x.inB:=fun i him=>by
   obtain⟨cs',hc,ht'⟩:=hi i (by omega);rw[hC]at hc;obtain⟨_,hcl,hat⟩:=World.cells?_some hc;obtain⟨xs,m',_,_,_,hl2,hi2⟩:=DataW.trod_array Try.underlying67 ht';obtain⟨c0,c1,c2,c3,c4,rfl⟩:∃c0 c1 c2 c3 c4,cs'=[c0,c1,c2,c3,c4]:=by
    match cs',hcl with
    | [c0,c1,c2,c3,c4],_=>exact⟨c0,c1,c2,c3,c4,rfl⟩
   have g0:=hi2 0 (by omega);have g1:=hi2 1 (by omega);have g2:=hi2 2 (by omega);have g3:=hi2 3 (by omega);have g4:=hi2 4 (by omega);rw[hone]at g0 g1 g2 g3 g4;rw[List.getElem?_eq_getElem (by omega)]at g0 g1 g2 g3 g4;simp at g0 g1 g2 g3 g4;obtain⟨s0,e0,_,l0⟩:=DataW.trod_int Try.underlying3 g0;obtain⟨s1,e1,_,l1⟩:=DataW.trod_int Try.underlying3 g1;obtain⟨s2,e2,_,l2⟩:=DataW.trod_int Try.underlying3 g2;obtain⟨s3,e3,_,l3⟩:=DataW.trod_int Try.underlying3 g3;obtain⟨s4,e4,_,l4⟩:=DataW.trod_int Try.underlying3 g4;simp at e0 e1 e2 e3 e4;subst e0 e1 e2 e3 e4;refine⟨⟨s0,s1,s2,s3,s4⟩,fun j u e=>?_,wf_i64 l0,wf_i64 l1,wf_i64 l2,wf_i64 l3,wf_i64 l4⟩;have hj:j<5:=(Array.getElem?_eq_some_iff.1 e).1;have k:=hat j (by omega);rw[Go.Deep.add_add]at k;rw[k];have hl:j=0\/j=1\/j=2\/j=3\/j=4:=by omega
   rcases hl with rfl|rfl|rfl|rfl|rfl<;>exact e
  by_cases h0:len0=0
  ·subst h0;exact⟨[],.inl ⟨rfl,_,_,rfl⟩,by simp,by simp⟩
  ·obtain⟨x0,hx0,_⟩:=key 0 (by omega);obtain⟨b,o,sp⟩:=a;have hx0':W.cell? ⟨b,o,sp⟩=some (.int .i64 x0.a):=by
    have h1:=hx0 0 _ rfl;have e:(⟨b,o,sp⟩:Addr).add (0*5+0)=⟨b,o,sp⟩:=by unfold Addr.add;split<;>simp_all
    rw[e]at h1;exact h1
   obtain⟨rfl,hbl⟩:=block_of_cell hx0'
   let f:Nat->F5:=fun i=>if h:i<len0 then(key i h).choose else⟨0,0,0,0,0⟩
   have hf2:∀i (_:i<len0),(∀j u,(f i).cells[j]?=some u->W.cell? ⟨b,o+i*5+j,none⟩=some u)/\(f i).inB:=fun i h=>by
    have:=(key i h).choose_spec;simp only[f,dif_pos h];refine⟨fun j u e=>?_,this.2⟩;have h3:=this.1 j u e;rw[Addr.add_lit]at h3;rw[Nat.add_assoc];exact h3
   refine⟨(List.range len0).map f,.inr ⟨fun e=>h0 (by simpa using e),b,o,cap0,by simp,by simpa using hl,hbl,fun j x e1 i u e2=>?_⟩,by simp;unfold maxLen at hm;omega,fun p hp=>?_⟩
   ·have hj:j<len0:=by have:=(List.getElem?_eq_some_iff.1 e1).1;simpa using this
    have e1':f j=x:=by simpa[List.getElem?_map,List.getElem?_range hj]using e1
    subst e1';exact(hf2 j hj).1 i u e2
   ·obtain⟨i,hi3,rfl⟩:=List.mem_map.1 hp;exact(hf2 i (by simpa using hi3)).2
open Go.ChangeShapes Go.WideShapes Go.ChangeAt Go.RowKit
end Go.Proofs.Ythmkmjkbfjhffaa
