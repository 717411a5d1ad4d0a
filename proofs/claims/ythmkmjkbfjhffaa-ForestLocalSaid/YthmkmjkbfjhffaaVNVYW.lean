/- Facts. -/
import Derived.Laws.MakeOwn
import Derived.Lib.BufferWrite
import Derived.Lib.Strings
import Derived.Lib.UnsafeStr
import Derived.Lib.Walk
import Derived.LoopIn
import Derived.LoopNIn
import Derived.OwnWalkIn
import Derived.RangeFuncBound
import Derived.RangeFuncCalls
import Derived.RangeFuncLeaves
import Derived.RangeFuncNested
import Derived.Shelf.Abstract
import Derived.Shelf.RegionOpen
import Derived.TacticsInMore
import Init.Data.List.Lemmas
import Derived.Test.YthmkmjkbfjhffaaVNVYA
import Derived.Test.YthmkmjkbfjhffaaVNVYF
set_option maxRecDepth 100000
set_option maxHeartbeats 4000000
namespace Go.Proofs.Ythmkmjkbfjhffaa
open Go.RowKit
def enc:Nat->Nat->List UInt8
 | 0,z=>[UInt8.ofNat z]
 | k+1,z=>if z<128 then[UInt8.ofNat z]else UInt8.ofNat (z%128+128)::enc k (z / 128)
def pk(c n:Int):Int:=(if c<0 then -(c+1)else c)%n
theorem pk_lo(c n:Int)(h:1<=n):0<=pk c n:=by unfold pk;exact Int.emod_nonneg _ (by omega)
theorem pk_lt(c n:Int)(h:1<=n):pk c n<n:=by unfold pk;exact Int.emod_lt_of_pos _ (by omega)
theorem pickR_any(c n:Int)(w:World)(h1 : -9223372036854775808<=c)(h2:c<=9223372036854775807)(h3:1<=n)(h4:n<=9223372036854775807):
  Calls Try.prog 27 #[.int .i64 c,.int .i64 n] w fun e w'=>e= .returned (.int .i64 (pk c n))/\w=w':=by
 by_cases h:c<0
 ·go_enter Try.func27,Try.ntmps27
  go_wp2
  go_ret;exact⟨ret_int (by rw[pk,if_pos h,<-Int.neg_tmod];exact Int.tmod_eq_emod_of_nonneg (by omega)),rfl⟩
 ·go_enter Try.func27,Try.ntmps27
  go_wp2
  go_ret;exact⟨ret_int (by rw[pk,if_neg (by omega)]),rfl⟩
open Go.RowKit Go.Shelf
attribute [local go_sem] Oper.semAt_some
end Go.Proofs.Ythmkmjkbfjhffaa
/- Facts. -/
set_option maxRecDepth 100000
set_option maxHeartbeats 4000000
namespace Go.Proofs.Ythmkmjkbfjhffaa
open Go.RowKit
theorem inB_iff(n a b:Int):inB n a b=true↔a<=n/\n<=b:=by unfold inB;simp
/-! ### Changes, and what they do: plain -/
structure Ch where
 kind:Int
 v:Vx
 e:Ed
 id:Int
 n:Int
 ends:List Int
 deps:List Int
deriving DecidableEq
def zE:Ed:=⟨0,0,0,false,0,0⟩
/-! lists of vertices and edges -/
def getE(l:List Ed)(x:Int):Ed:=(l.find? fun u=>decide (u.id=x)).getD zE
/-! the changes by their kinds -/
/-! ### Facts on lists that ascend -/
theorem Vx.ok_iff(v:Vx):v.ok=true↔(0<=v.id/\v.id<=23)/\0<=v.side/\v.side<=3:=by
 unfold Vx.ok;simp only[Bool.and_eq_true,inB_iff]
theorem Ed.okIn_iff(e:Ed)(ks:List Int):e.okIn ks=true↔(0<=e.id/\e.id<=39)/\e.src∈ks/\e.dst∈ks/\(-1000<=e.wt/\e.wt<=1000)/\0<=e.cap/\e.cap<=1000:=by
 unfold Ed.okIn;simp only[Bool.and_eq_true,inB_iff,decide_eq_true_eq,and_assoc]
theorem ascV_iff(l:List Vx):∀x,ascV x l=true↔(∀v∈l,x<v.id/\v.ok=true)/\Asc (keysV l):=by
 induction l with
 | nil=>intro x;simp[ascV,keysV]
 | cons v t ih =>
  intro x;simp only[ascV,Bool.and_eq_true,decide_eq_true_eq,ih,keysV,List.map_cons,List.mem_cons,forall_eq_or_imp,List.pairwise_cons,List.mem_map,forall_exists_index,and_imp,forall_apply_eq_imp_iff₂,Asc];constructor
  ·rintro⟨⟨h1,h2⟩,h3,h4⟩;exact⟨⟨⟨h1,h2⟩,fun u hu=>⟨by have:=(h3 u hu).1;omega,(h3 u hu).2⟩⟩,fun u hu=>(h3 u hu).1,h4⟩
  ·rintro⟨⟨⟨h1,h2⟩,h3⟩,h4,h5⟩;exact⟨⟨h1,h2⟩,fun u hu=>⟨h4 u hu,(h3 u hu).2⟩,h5⟩
theorem ascE_iff(ks:List Int)(l:List Ed):∀x,ascE ks x l=true↔(∀v∈l,x<v.id/\v.okIn ks=true)/\Asc (keysE l):=by
 induction l with
 | nil=>intro x;simp[ascE,keysE]
 | cons v t ih =>
  intro x;simp only[ascE,Bool.and_eq_true,decide_eq_true_eq,ih,keysE,List.map_cons,List.mem_cons,forall_eq_or_imp,List.pairwise_cons,List.mem_map,forall_exists_index,and_imp,forall_apply_eq_imp_iff₂,Asc];constructor
  ·rintro⟨⟨h1,h2⟩,h3,h4⟩;exact⟨⟨⟨h1,h2⟩,fun u hu=>⟨by have:=(h3 u hu).1;omega,(h3 u hu).2⟩⟩,fun u hu=>(h3 u hu).1,h4⟩
  ·rintro⟨⟨⟨h1,h2⟩,h3⟩,h4,h5⟩;exact⟨⟨h1,h2⟩,fun u hu=>⟨h4 u hu,(h3 u hu).2⟩,h5⟩
theorem ascD_iff(ks:List Int)(l:List Int):∀x,ascD ks x l=true↔(∀v∈l,x<v/\v∈ks)/\Asc l:=by
 induction l with
 | nil=>intro x;simp[ascD]
 | cons v t ih =>
  intro x;simp only[ascD,Bool.and_eq_true,decide_eq_true_eq,ih,List.mem_cons,forall_eq_or_imp,List.pairwise_cons,Asc];constructor
  ·rintro⟨⟨h1,h2⟩,h3,h4⟩;exact⟨⟨⟨h1,h2⟩,fun u hu=>⟨by have:=(h3 u hu).1;omega,(h3 u hu).2⟩⟩,fun u hu=>(h3 u hu).1,h4⟩
  ·rintro⟨⟨⟨h1,h2⟩,h3⟩,h4,h5⟩;exact⟨⟨h1,h2⟩,fun u hu=>⟨h4 u hu,(h3 u hu).2⟩,h5⟩
structure Ok(g:Gr):Prop where
 vok:∀v∈g.vs,v.ok=true
 vasc:Asc (keysV g.vs)
 eok:∀e∈g.es,e.okIn (keysV g.vs)=true
 easc:Asc (keysE g.es)
 dlen:g.ds.length<=3
 din:∀d∈g.ds,d∈keysV g.vs
 dasc:Asc g.ds
theorem mem_keysV{l:List Vx}{x:Int}:x∈keysV l↔ ∃v∈l,v.id=x:=by simp[keysV]
theorem mem_keysE{l:List Ed}{x:Int}:x∈keysE l↔ ∃v∈l,v.id=x:=by simp[keysE]
theorem ok_iff(g:Gr):g.ok=true↔Ok g:=by
 unfold Gr.ok dOk;simp only[Bool.and_eq_true,decide_eq_true_eq,ascV_iff,ascE_iff,ascD_iff];constructor
 ·rintro⟨⟨⟨h1,h2⟩,h3,h4⟩,h5,h6,h7⟩;exact⟨fun v hv=>(h1 v hv).2,h2,fun v hv=>(h3 v hv).2,h4,h5,fun d hd=>(h6 d hd).2,h7⟩
 ·rintro⟨h1,h2,h3,h4,h5,h6,h7⟩;refine⟨⟨⟨fun v hv=>⟨?_,h1 v hv⟩,h2⟩,fun v hv=>⟨?_,h3 v hv⟩,h4⟩,h5,fun d hd=>⟨?_,h6 d hd⟩,h7⟩
  ·have:=((Vx.ok_iff v).1 (h1 v hv)).1;omega
  ·have:=((Ed.okIn_iff v _).1 (h3 v hv)).1;omega
  ·obtain⟨v,hv,rfl⟩:=mem_keysV.1 (h6 d hd);have:=((Vx.ok_iff v).1 (h1 v hv)).1;omega
/-! sorted lists: the place cuts as the filters do -/
/-! keys behind a change -/
/-! keys behind a change -/
/-! ### What a change leaves is valid, and is undone -/
/-! ### The graph that integers determine (plain) -/
structure F5 where
 a:Int
 b:Int
 c:Int
 d:Int
 e:Int
def mkN(n:Int)(wide:Bool):Nat:=(1+pk n 8).toNat+(if wide=true then 10 else 0)
def mkOdd(n:Int)(wide:Bool):Bool:=!wide&&(pk (n.tdiv 8) 2==1)
def mkId(o:Bool)(i:Nat):Int:=if o=true then((i+i / 2:Nat):Int)else(i:Int)
def mkSide(n:Int)(i:Nat):Int:=pk (n.tdiv 16+(i:Int)*(1+pk (n.tdiv 64) 3)) 4
def mkV(n:Int)(o:Bool)(i:Nat):Vx:=⟨mkId o i,mkSide n i⟩
def madeV(n:Int)(wide:Bool):List Vx:=(List.range (mkN n wide)).map (mkV n (mkOdd n wide))
def mkE(n:Int)(wide:Bool)(i:Nat)(r:F5):Ed :=
 {id:=(i:Int)+pk (n.tdiv 4) 20,src:=mkId (mkOdd n wide) (pk r.a (mkN n wide)).toNat,dst:=mkId (mkOdd n wide) (pk r.b (mkN n wide)).toNat,dir:=pk r.c 2==1,wt:=if pk r.e 11=10 then pk r.d 2001-1000 else pk r.d 12-3,cap:=pk r.e 6}
def madeE(n:Int)(wide:Bool)(l:List F5):List Ed:=(l.take 20).mapIdx (mkE n wide)
def madeD(n:Int)(wide:Bool):List Int:=(keysV (madeV n wide)).take (pk (n.tdiv 32) 4).toNat
def madeG(n:Int)(l:List F5)(wide:Bool):Gr:=⟨madeV n wide,madeE n wide l,madeD n wide⟩
theorem mkId_mono(o:Bool){i j:Nat}(h:i<j):mkId o i<mkId o j:=by
 unfold mkId;cases o
 ·simp;omega
 ·simp;omega
theorem mkN_pos(n:Int)(wide:Bool):1<=mkN n wide:=by
 have:=pk_lo n 8 (by omega);unfold mkN;split<;>omega
theorem mkN_le(n:Int)(wide:Bool):mkN n wide<=(if wide=true then 18 else 8):=by
 have:=pk_lo n 8 (by omega);have:=pk_lt n 8 (by omega);unfold mkN;split<;>omega
theorem mkId_lt(n:Int)(wide:Bool)(i:Nat)(h:i<mkN n wide):0<=mkId (mkOdd n wide) i/\mkId (mkOdd n wide) i<=17:=by
 have h2:=mkN_le n wide;unfold mkId mkOdd;cases wide
 ·simp only[Bool.not_false,Bool.true_and,Bool.false_eq_true,if_false]at *
  split<;>omega
 ·simp at *;omega
theorem madeV_len(n:Int)(wide:Bool):(madeV n wide).length=mkN n wide:=by simp[madeV]
theorem madeV_at(n:Int)(wide:Bool)(i:Nat)(h:i<mkN n wide):(madeV n wide)[i]?=some (mkV n (mkOdd n wide) i):=by
 unfold madeV;rw[List.getElem?_map,List.getElem?_range h];rfl
theorem keys_madeV(n:Int)(wide:Bool):keysV (madeV n wide)=(List.range (mkN n wide)).map (mkId (mkOdd n wide)):=by
 unfold keysV madeV;rw[List.map_map];rfl
theorem asc_madeV(n:Int)(wide:Bool):Asc (keysV (madeV n wide)):=by
 rw[keys_madeV];show List.Pairwise _ _;rw[List.pairwise_map];exact List.Pairwise.imp (fun h=>mkId_mono _ h) (List.pairwise_lt_range)
theorem madeE_asc(n:Int)(wide:Bool)(l:List F5):Asc (keysE (madeE n wide l)):=by
 show List.Pairwise _ _;rw[List.pairwise_iff_getElem];intro i j hi hj hij;simp only[keysE,madeE,List.getElem_map,List.getElem_mapIdx,mkE];omega
theorem pk_toNat(c:Int)(m:Nat)(h:1<=m):(pk c m).toNat<m:=by
 have:=pk_lo c m (by omega);have:=pk_lt c m (by omega);omega
theorem made_ok(n:Int)(l:List F5)(wide:Bool):Ok (madeG n l wide):=by
 have hmem:∀i,i<mkN n wide->mkId (mkOdd n wide) i∈keysV (madeV n wide):=fun i hi=>by
  rw[keys_madeV];exact List.mem_map.2 ⟨i,List.mem_range.2 hi,rfl⟩
 refine⟨fun v hv=>?_,asc_madeV n wide,fun e he=>?_,madeE_asc n wide l,?_,fun d hd=>List.mem_of_mem_take hd,List.Pairwise.sublist (List.take_sublist _ _) (asc_madeV n wide)⟩
 ·obtain⟨i,hi,rfl⟩:=List.mem_map.1 hv;have h1:=mkId_lt n wide i (List.mem_range.1 hi);have h2:=pk_lo (n.tdiv 16+(i:Int)*(1+pk (n.tdiv 64) 3)) 4 (by omega);have h3:=pk_lt (n.tdiv 16+(i:Int)*(1+pk (n.tdiv 64) 3)) 4 (by omega);rw[Vx.ok_iff];show(0<=mkId _ _/\mkId _ _<=23)/\0<=mkSide _ _/\mkSide _ _<=3;unfold mkSide;omega
 ·obtain⟨i,hi,rfl⟩:=List.mem_mapIdx.1 he;rw[List.length_take]at hi;have p1:=pk_lo (n.tdiv 4) 20 (by omega);have p2:=pk_lt (n.tdiv 4) 20 (by omega);generalize (l.take 20)[i]=r;rw[Ed.okIn_iff];refine⟨⟨?_,?_⟩,hmem _ (pk_toNat _ _ (mkN_pos n wide)),hmem _ (pk_toNat _ _ (mkN_pos n wide)),?_,?_⟩
  ·show 0<=(i:Int)+_;omega
  ·show(i:Int)+_<=39;omega
  ·have q1:=pk_lo r.d 2001 (by omega);have q2:=pk_lt r.d 2001 (by omega);have q3:=pk_lo r.d 12 (by omega);have q4:=pk_lt r.d 12 (by omega);unfold mkE;dsimp only
   split
   ·omega
   ·omega
  ·have q1:=pk_lo r.e 6 (by omega);have q2:=pk_lt r.e 6 (by omega);show 0<=pk r.e 6/\pk r.e 6<=1000;omega
 ·show(List.take _ _).length<=3;rw[List.length_take];have q1:=pk_lo (n.tdiv 32) 4 (by omega);have q2:=pk_lt (n.tdiv 32) 4 (by omega);omega
theorem madeE_snoc(n:Int)(wide:Bool)(l:List F5)(k:Nat)(h:k<l.length)(h2:k<20):madeE n wide (l.take (k+1))=madeE n wide (l.take k)++[mkE n wide k l[k]]:=by
 unfold madeE;rw[List.take_take,List.take_take,Nat.min_eq_right (by omega),Nat.min_eq_right (by omega),List.take_succ_eq_append_getElem h,List.mapIdx_concat];rw[List.length_take,Nat.min_eq_left (by omega)]
theorem madeE_all(n:Int)(wide:Bool)(l:List F5)(k:Nat)(h:k=l.length\/(k=20/\k<=l.length)):madeE n wide (l.take k)=madeE n wide l:=by
 unfold madeE;rw[List.take_take];rcases h with rfl|⟨rfl,h⟩
 ·congr 1;by_cases h:20<=l.length
  ·rw[Nat.min_eq_left h]
  ·rw[Nat.min_eq_right (by omega),List.take_length,List.take_of_length_le (by omega)]
 ·rfl
/-! ### The change that integers determine (plain) -/
theorem plI_mem(l:List Ed)(x:Int)(hx:x∈keysE l):∃(p:Nat) (hp:p<l.length),plI (keysE l) x=p/\l[p]=getE l x:=by
 induction l with
 | nil=>simp[keysE]at hx
 | cons e t ih =>
  by_cases h:e.id=x
  ·refine⟨0,by simp,?_,?_⟩
   ·exact plI_at _ _ 0 (by simp[keysE]) (fun j h hj=>by omega) (by simp[keysE,h])
   ·simp[getE,h]
  ·have hx':x∈keysE t:=by
    rw[mem_keysE]at hx ⊢;obtain⟨v,hv,he⟩:=hx;rcases List.mem_cons.1 hv with rfl|hv
    ·exact absurd he h
    ·exact⟨v,hv,he⟩
   obtain⟨p,hp,h1,h2⟩:=ih hx';refine⟨p+1,by simpa using hp,?_,?_⟩
   ·unfold plI at h1 ⊢;have hpos:posE (keysE (e::t)) x=posE (keysE t) x+1:=by
     unfold posE;rw[show keysE (e::t)=e.id::keysE t from rfl,List.takeWhile_cons_of_pos (by simpa using h),List.length_cons]
    rw[hpos,show(keysE (e::t)).length=(keysE t).length+1 by simp[keysE]]
    split at h1
    ·rw[if_pos (by omega)];omega
    ·omega
   ·rw[List.getElem_cons_succ,h2];unfold getE;rw[List.find?_cons_of_neg (by simpa using h)]
end Go.Proofs.Ythmkmjkbfjhffaa
