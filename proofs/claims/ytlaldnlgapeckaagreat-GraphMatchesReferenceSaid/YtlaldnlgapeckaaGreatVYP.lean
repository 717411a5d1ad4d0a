/- Facts. -/
import Derived.Test.YtlaldnlgapeckaaGreatVYF
import Derived.Test.YtlaldnlgapeckaaGreatVYW
set_option maxRecDepth 100000
set_option maxHeartbeats 4000000
namespace Go.Proofs.YtlaldnlgapeckaaGreat
open Go.RowKit
theorem inB_iff(n a b:Int):inB n a b=true↔a<=n/\n<=b:=by unfold inB;simp
/-! ### Changes, and what they do: plain -/
structure Ch where
 kind:Int
 v:Vx
 e:Ed
 id:Int
 n:Int
 ends:List Int
 deps:List Int
deriving DecidableEq
def zV:Vx:=⟨0,0⟩
def zE:Ed:=⟨0,0,0,false,0,0⟩
def zC:Ch:=⟨0,zV,zE,0,0,[],[]⟩
def bareC(c:Ch):Ch :=
 if c.kind=1 then{c with v:=zV}else if c.kind=3 then{c with e:=zE}else if c.kind=2\/c.kind=4 then{c with id:=0}
 else if c.kind=5\/c.kind=6\/c.kind=7\/c.kind=9 then{c with id:=0,n:=0}else if c.kind=8 then{c with id:=0,v:=zV,ends:=[]}else if c.kind=10 then{c with deps:=[]}else c
def isBare(c:Ch):Bool:=decide (c.v=zV)&&decide (c.e=zE)&&decide (c.id=0)&&decide (c.n=0)&&decide (c.ends=[])&&decide (c.deps=[])
def bareF(c:Ch):Bool:=isBare (bareC c)
/-! lists of vertices and edges -/
def insV(l:List Vx)(v:Vx):List Vx:=l.filter (fun u=>decide (u.id<v.id))++v::l.filter (fun u=>!decide (u.id<v.id))
def insE(l:List Ed)(v:Ed):List Ed:=l.filter (fun u=>decide (u.id<v.id))++v::l.filter (fun u=>!decide (u.id<v.id))
def delV(l:List Vx)(x:Int):List Vx:=l.filter fun u=>!decide (u.id=x)
def delE(l:List Ed)(x:Int):List Ed:=l.filter fun u=>!decide (u.id=x)
def getV(l:List Vx)(x:Int):Vx:=(l.find? fun u=>decide (u.id=x)).getD zV
def getE(l:List Ed)(x:Int):Ed:=(l.find? fun u=>decide (u.id=x)).getD zE
def onE(l:List Ed)(x:Int)(f:Ed->Ed):List Ed:=l.map fun e=>if e.id=x then f e else e
def onV(l:List Vx)(x:Int)(f:Vx->Vx):List Vx:=l.map fun e=>if e.id=x then f e else e
def mvE(ends:List Int)(y:Int)(e:Ed):Ed:={e with src:=if 2*e.id∈ends then y else e.src,dst:=if 2*e.id+1∈ends then y else e.dst}
def ctE(a b:Int)(e:Ed):Ed:={e with src:=if e.src=a then b else e.src,dst:=if e.dst=a then b else e.dst}
def ascI(l:List Int):Bool:=decide (Asc l)
def endsF(l:List Ed)(i:Int):List Int:=l.flatMap fun e=>(if e.src=i then[2*e.id]else[])++(if e.dst=i then[2*e.id+1]else[])
/-! the changes by their kinds -/
def act1(g:Gr)(c:Ch):Option (Gr × Ch):=if c.v.ok&&!decide (c.v.id∈keysV g.vs)then some ({g with vs:=insV g.vs c.v},{zC with kind:=2,id:=c.v.id})else none
def act2(g:Gr)(c:Ch):Option (Gr × Ch):=if decide (c.id∈keysV g.vs)&&!decide (c.id∈g.ds)&&decide (endsF g.es c.id=[])then some ({g with vs:=delV g.vs c.id},{zC with kind:=1,v:=getV g.vs c.id})else none
def act3(g:Gr)(c:Ch):Option (Gr × Ch):=if !decide (c.e.id∈keysE g.es)&&c.e.okIn (keysV g.vs)then some ({g with es:=insE g.es c.e},{zC with kind:=4,id:=c.e.id})else none
def act4(g:Gr)(c:Ch):Option (Gr × Ch):=if decide (c.id∈keysE g.es)then some ({g with es:=delE g.es c.id},{zC with kind:=3,e:=getE g.es c.id})else none
def setWt(n:Int)(e:Ed):Ed:={e with wt:=n}
def setCap(n:Int)(e:Ed):Ed:={e with cap:=n}
def setSide(n:Int)(v:Vx):Vx:={v with side:=n}
def act5(g:Gr)(c:Ch):Option (Gr × Ch):=if decide (c.id∈keysE g.es)&&inB c.n (-1000) 1000 then some ({g with es:=onE g.es c.id (setWt c.n)},{zC with kind:=5,id:=c.id,n:=(getE g.es c.id).wt})else none
def act6(g:Gr)(c:Ch):Option (Gr × Ch):=if decide (c.id∈keysE g.es)&&inB c.n 0 1000 then some ({g with es:=onE g.es c.id (setCap c.n)},{zC with kind:=6,id:=c.id,n:=(getE g.es c.id).cap})else none
def act7(g:Gr)(c:Ch):Option (Gr × Ch) :=
 if !decide (c.id=c.n)&&decide (c.id∈keysV g.vs)&&decide (c.n∈keysV g.vs)&&!decide (c.id∈g.ds)then
  some ({g with vs:=delV g.vs c.id,es:=g.es.map (ctE c.id c.n)},{zC with kind:=8,id:=c.n,v:=getV g.vs c.id,ends:=endsF g.es c.id})else none
def act8(g:Gr)(c:Ch):Option (Gr × Ch) :=
 if decide (c.id∈keysV g.vs)&&(c.v.ok&&!decide (c.v.id∈keysV g.vs))&&(ascI c.ends&&c.ends.all fun n=>decide (n∈endsF g.es c.id))then
  some ({g with vs:=insV g.vs c.v,es:=g.es.map (mvE c.ends c.v.id)},{zC with kind:=7,id:=c.v.id,n:=c.id})else none
def act9(g:Gr)(c:Ch):Option (Gr × Ch):=if decide (c.id∈keysV g.vs)&&inB c.n 0 3 then some ({g with vs:=onV g.vs c.id (setSide c.n)},{zC with kind:=9,id:=c.id,n:=(getV g.vs c.id).side})else none
def act10(g:Gr)(c:Ch):Option (Gr × Ch):=if dOk (keysV g.vs) c.deps then some ({g with ds:=c.deps},{zC with kind:=10,deps:=g.ds})else none
def actK(g:Gr)(c:Ch):Option (Gr × Ch) :=
 if c.kind=1 then act1 g c else if c.kind=2 then act2 g c else if c.kind=3 then act3 g c else if c.kind=4 then act4 g c else if c.kind=5 then act5 g c else if c.kind=6 then act6 g c
 else if c.kind=7 then act7 g c else if c.kind=8 then act8 g c else if c.kind=9 then act9 g c else if c.kind=10 then act10 g c else none
def actF(g:Gr)(c:Ch):Option (Gr × Ch):=if bareF c then actK g c else none
/-! ### Facts on lists that ascend -/
theorem Vx.ok_iff(v:Vx):v.ok=true↔(0<=v.id/\v.id<=23)/\0<=v.side/\v.side<=3:=by
 unfold Vx.ok;simp only[Bool.and_eq_true,inB_iff]
theorem Ed.okIn_iff(e:Ed)(ks:List Int):e.okIn ks=true↔(0<=e.id/\e.id<=39)/\e.src∈ks/\e.dst∈ks/\(-1000<=e.wt/\e.wt<=1000)/\0<=e.cap/\e.cap<=1000:=by
 unfold Ed.okIn;simp only[Bool.and_eq_true,inB_iff,decide_eq_true_eq,and_assoc]
theorem ascV_iff(l:List Vx):∀x,ascV x l=true↔(∀v∈l,x<v.id/\v.ok=true)/\Asc (keysV l):=by
 induction l with
 | nil=>intro x;simp[ascV,keysV]
 | cons v t ih =>
  intro x;simp only[ascV,Bool.and_eq_true,decide_eq_true_eq,ih,keysV,List.map_cons,List.mem_cons,forall_eq_or_imp,List.pairwise_cons,List.mem_map,forall_exists_index,and_imp,forall_apply_eq_imp_iff₂,Asc];constructor
  ·rintro⟨⟨h1,h2⟩,h3,h4⟩;exact⟨⟨⟨h1,h2⟩,fun u hu=>⟨by have:=(h3 u hu).1;omega,(h3 u hu).2⟩⟩,fun u hu=>(h3 u hu).1,h4⟩
  ·rintro⟨⟨⟨h1,h2⟩,h3⟩,h4,h5⟩;exact⟨⟨h1,h2⟩,fun u hu=>⟨h4 u hu,(h3 u hu).2⟩,h5⟩
theorem ascE_iff(ks:List Int)(l:List Ed):∀x,ascE ks x l=true↔(∀v∈l,x<v.id/\v.okIn ks=true)/\Asc (keysE l):=by
 induction l with
 | nil=>intro x;simp[ascE,keysE]
 | cons v t ih =>
  intro x;simp only[ascE,Bool.and_eq_true,decide_eq_true_eq,ih,keysE,List.map_cons,List.mem_cons,forall_eq_or_imp,List.pairwise_cons,List.mem_map,forall_exists_index,and_imp,forall_apply_eq_imp_iff₂,Asc];constructor
  ·rintro⟨⟨h1,h2⟩,h3,h4⟩;exact⟨⟨⟨h1,h2⟩,fun u hu=>⟨by have:=(h3 u hu).1;omega,(h3 u hu).2⟩⟩,fun u hu=>(h3 u hu).1,h4⟩
  ·rintro⟨⟨⟨h1,h2⟩,h3⟩,h4,h5⟩;exact⟨⟨h1,h2⟩,fun u hu=>⟨h4 u hu,(h3 u hu).2⟩,h5⟩
theorem ascD_iff(ks:List Int)(l:List Int):∀x,ascD ks x l=true↔(∀v∈l,x<v/\v∈ks)/\Asc l:=by
 induction l with
 | nil=>intro x;simp[ascD]
 | cons v t ih =>
  intro x;simp only[ascD,Bool.and_eq_true,decide_eq_true_eq,ih,List.mem_cons,forall_eq_or_imp,List.pairwise_cons,Asc];constructor
  ·rintro⟨⟨h1,h2⟩,h3,h4⟩;exact⟨⟨⟨h1,h2⟩,fun u hu=>⟨by have:=(h3 u hu).1;omega,(h3 u hu).2⟩⟩,fun u hu=>(h3 u hu).1,h4⟩
  ·rintro⟨⟨⟨h1,h2⟩,h3⟩,h4,h5⟩;exact⟨⟨h1,h2⟩,fun u hu=>⟨h4 u hu,(h3 u hu).2⟩,h5⟩
structure Ok(g:Gr):Prop where
 vok:∀v∈g.vs,v.ok=true
 vasc:Asc (keysV g.vs)
 eok:∀e∈g.es,e.okIn (keysV g.vs)=true
 easc:Asc (keysE g.es)
 dlen:g.ds.length<=3
 din:∀d∈g.ds,d∈keysV g.vs
 dasc:Asc g.ds
theorem mem_keysV{l:List Vx}{x:Int}:x∈keysV l↔ ∃v∈l,v.id=x:=by simp[keysV]
theorem mem_keysE{l:List Ed}{x:Int}:x∈keysE l↔ ∃v∈l,v.id=x:=by simp[keysE]
theorem ok_iff(g:Gr):g.ok=true↔Ok g:=by
 unfold Gr.ok dOk;simp only[Bool.and_eq_true,decide_eq_true_eq,ascV_iff,ascE_iff,ascD_iff];constructor
 ·rintro⟨⟨⟨h1,h2⟩,h3,h4⟩,h5,h6,h7⟩;exact⟨fun v hv=>(h1 v hv).2,h2,fun v hv=>(h3 v hv).2,h4,h5,fun d hd=>(h6 d hd).2,h7⟩
 ·rintro⟨h1,h2,h3,h4,h5,h6,h7⟩;refine⟨⟨⟨fun v hv=>⟨?_,h1 v hv⟩,h2⟩,fun v hv=>⟨?_,h3 v hv⟩,h4⟩,h5,fun d hd=>⟨?_,h6 d hd⟩,h7⟩
  ·have:=((Vx.ok_iff v).1 (h1 v hv)).1;omega
  ·have:=((Ed.okIn_iff v _).1 (h3 v hv)).1;omega
  ·obtain⟨v,hv,rfl⟩:=mem_keysV.1 (h6 d hd);have:=((Vx.ok_iff v).1 (h1 v hv)).1;omega
theorem dOk_iff(ks l:List Int)(h0:∀k∈ks,0<=k):dOk ks l=true↔l.length<=3/\(∀d∈l,d∈ks)/\Asc l:=by
 unfold dOk;simp only[Bool.and_eq_true,decide_eq_true_eq,ascD_iff];constructor
 ·rintro⟨h1,h2,h3⟩;exact⟨h1,fun d hd=>(h2 d hd).2,h3⟩
 ·rintro⟨h1,h2,h3⟩;exact⟨h1,fun d hd=>⟨by have:=h0 d (h2 d hd);omega,h2 d hd⟩,h3⟩
theorem asc_short(l:List Int):∀(a:Int) (n:Nat),Asc l->(∀x∈l,a<=x/\x<a+n)->l.length<=n:=by
 induction l with
 | nil=>intro a n _ _;simp
 | cons x t ih =>
  intro a n h1 h2;rw[Asc,List.pairwise_cons]at h1;have hx:=h2 x (by simp);have:=ih (x+1) (n-(x+1-a).toNat) h1.2 (fun y hy=>⟨by have:=h1.1 y hy;omega,by have:=h2 y (by simp[hy]);omega⟩);simp only[List.length_cons];omega
theorem Ok.vlen{g:Gr}(h:Ok g):g.vs.length<=24:=by
 have:=asc_short (keysV g.vs) 0 24 h.vasc (fun x hx=>by obtain⟨v,hv,rfl⟩:=mem_keysV.1 hx;have:=((Vx.ok_iff v).1 (h.vok v hv)).1;omega);simpa[keysV]using this
theorem Ok.elen{g:Gr}(h:Ok g):g.es.length<=40:=by
 have:=asc_short (keysE g.es) 0 40 h.easc (fun x hx=>by obtain⟨v,hv,rfl⟩:=mem_keysE.1 hx;have:=((Ed.okIn_iff v _).1 (h.eok v hv)).1;omega);simpa[keysE]using this
/-! sorted lists: the place cuts as the filters do -/
theorem takeV(l:List Vx)(x:Int)(h:Asc (keysV l)):l.take (posK (keysV l) x)=l.filter (fun u=>decide (u.id<x))/\l.drop (posK (keysV l) x)=l.filter (fun u=>!decide (u.id<x)):=by
 induction l with
 | nil=>simp
 | cons v t ih =>
  rw[keysV,List.map_cons,Asc,List.pairwise_cons]at h;by_cases hx:v.id<x
  ·have e:posK (keysV (v::t)) x=posK (keysV t) x+1:=by simp[posK,keysV,hx]
   have:=ih h.2;rw[e,List.take_succ_cons,List.drop_succ_cons,this.1,this.2];simp[hx]
  ·have e:posK (keysV (v::t)) x=0:=by simp[posK,keysV,hx]
   have hall:∀u∈t,¬u.id<x:=fun u hu=>by have:=h.1 u.id (List.mem_map_of_mem hu);omega
   rw[e];constructor
   ·rw[List.take_zero,Eq.comm,List.filter_eq_nil_iff];intro u hu;rcases List.mem_cons.1 hu with rfl|hu
    ·simpa using hx
    ·simpa using hall u hu
   ·rw[List.drop_zero,Eq.comm,List.filter_eq_self];intro u hu;rcases List.mem_cons.1 hu with rfl|hu
    ·simpa using hx
    ·simpa using hall u hu
theorem takeE(l:List Ed)(x:Int)(h:Asc (keysE l)):l.take (posK (keysE l) x)=l.filter (fun u=>decide (u.id<x))/\l.drop (posK (keysE l) x)=l.filter (fun u=>!decide (u.id<x)):=by
 induction l with
 | nil=>simp
 | cons v t ih =>
  rw[keysE,List.map_cons,Asc,List.pairwise_cons]at h;by_cases hx:v.id<x
  ·have e:posK (keysE (v::t)) x=posK (keysE t) x+1:=by simp[posK,keysE,hx]
   have:=ih h.2;rw[e,List.take_succ_cons,List.drop_succ_cons,this.1,this.2];simp[hx]
  ·have e:posK (keysE (v::t)) x=0:=by simp[posK,keysE,hx]
   have hall:∀u∈t,¬u.id<x:=fun u hu=>by have:=h.1 u.id (List.mem_map_of_mem hu);omega
   rw[e];constructor
   ·rw[List.take_zero,Eq.comm,List.filter_eq_nil_iff];intro u hu;rcases List.mem_cons.1 hu with rfl|hu
    ·simpa using hx
    ·simpa using hall u hu
   ·rw[List.drop_zero,Eq.comm,List.filter_eq_self];intro u hu;rcases List.mem_cons.1 hu with rfl|hu
    ·simpa using hx
    ·simpa using hall u hu
theorem insV_eq(l:List Vx)(v:Vx)(h:Asc (keysV l)):insV l v=l.take (posK (keysV l) v.id)++v::l.drop (posK (keysV l) v.id):=by
 rw[(takeV l v.id h).1,(takeV l v.id h).2];rfl
theorem posV_lt(l:List Vx)(x:Int)(h:Asc (keysV l))(hx:x∈keysV l):∃hp:posK (keysV l) x<l.length,l[posK (keysV l) x].id=x:=by
 induction l with
 | nil=>simp[keysV]at hx
 | cons v t ih =>
  rw[keysV,List.map_cons,Asc,List.pairwise_cons]at h;by_cases hv:v.id<x
  ·have e:posK (keysV (v::t)) x=posK (keysV t) x+1:=by simp[posK,keysV,hv]
   have hx2:x∈keysV t:=by
    rcases mem_keysV.1 hx with⟨u,hu,rfl⟩;rcases List.mem_cons.1 hu with rfl|hu
    ·omega
    ·exact mem_keysV.2 ⟨u,hu,rfl⟩
   obtain⟨hp,he⟩:=ih h.2 hx2;refine⟨by rw[e];simp;omega,?_⟩;simp only[e,List.getElem_cons_succ];exact he
  ·have e:posK (keysV (v::t)) x=0:=by simp[posK,keysV,hv]
   refine⟨by rw[e];simp,?_⟩;simp only[e,List.getElem_cons_zero];rcases mem_keysV.1 hx with⟨u,hu,rfl⟩;rcases List.mem_cons.1 hu with rfl|hu
   ·rfl
   ·have:=h.1 u.id (List.mem_map_of_mem hu);omega
theorem pos_keyV(l:List Vx)(k:Nat)(hk:k<l.length)(h:Asc (keysV l)):posK (keysV l) l[k].id=k:=by
 refine posK_eq _ _ _ (by simp[keysV];omega) (fun j hj hlt=>?_) (fun j hj hle=>?_)
 ·simp only[keysV,List.getElem_map];have:=List.pairwise_iff_getElem.1 h j k hj (by simpa[keysV]using hk) hlt;simpa[keysV]using this
 ·simp only[keysV,List.getElem_map];rcases Nat.lt_or_eq_of_le hle with h1|rfl
  ·have:=List.pairwise_iff_getElem.1 h k j (by simpa[keysV]using hk) hj h1;simp[keysV]at this;omega
  ·omega
theorem inj_keyV(l:List Vx)(h:Asc (keysV l))(j k:Nat)(hj:j<l.length)(hk:k<l.length)(e:l[j].id=l[k].id):j=k:=by
 have a:=pos_keyV l j hj h;have b:=pos_keyV l k hk h;rw[e]at a;omega
theorem delV_eq(l:List Vx)(x:Int)(h:Asc (keysV l))(hx:x∈keysV l):delV l x=l.take (posK (keysV l) x)++l.drop (posK (keysV l) x+1):=by
 obtain⟨hp,he⟩:=posV_lt l x h hx;generalize posK (keysV l) x=p at *
 conv=>lhs;rw[<-List.take_append_drop p l,List.drop_eq_getElem_cons hp]
 unfold delV;rw[List.filter_append,List.filter_cons];have hne:(!decide (l[p].id=x))=false:=by simp[he]
 rw[hne,List.filter_eq_self.2,List.filter_eq_self.2]
 ·simp
 ·intro u hu;obtain⟨k,hk,rfl⟩:=List.getElem_of_mem hu;simp only[List.getElem_drop,Bool.not_eq_true',decide_eq_false_iff_not];intro e2;have:=inj_keyV l h (p+1+k) p (by simp at hk;omega) hp (by rw[e2,he]);omega
 ·intro u hu;obtain⟨k,hk,rfl⟩:=List.getElem_of_mem hu;simp only[List.length_take]at hk;simp only[List.getElem_take,Bool.not_eq_true',decide_eq_false_iff_not];intro e2;have:=inj_keyV l h k p (by omega) hp (by rw[e2,he]);omega
theorem getV_mem(l:List Vx)(x:Int)(hx:x∈keysV l):getV l x∈l/\(getV l x).id=x:=by
 obtain⟨u,hu,hux⟩:=mem_keysV.1 hx;unfold getV;cases hf:l.find? (fun u=>decide (u.id=x))with
 | none=>have:=List.find?_eq_none.1 hf u hu;simp[hux]at this
 | some w=>exact⟨List.mem_of_find?_eq_some hf,by simpa using List.find?_some hf⟩
theorem getV_of(l:List Vx)(h:Asc (keysV l))(u:Vx)(hu:u∈l):getV l u.id=u:=by
 obtain⟨h1,h2⟩:=getV_mem l u.id (mem_keysV.2 ⟨u,hu,rfl⟩);obtain⟨j,hj,e1⟩:=List.getElem_of_mem h1;obtain⟨k,hk,e2⟩:=List.getElem_of_mem hu;have:=inj_keyV l h j k hj hk (by rw[e1,e2,h2]);subst this;rw[<-e1,e2]
theorem getV_eq(l:List Vx)(x:Int)(h:Asc (keysV l))(hp:posK (keysV l) x<l.length)(he:l[posK (keysV l) x].id=x):getV l x=l[posK (keysV l) x]:=by
 have:=getV_of l h _ (List.getElem_mem hp)
 rwa [he]at this
theorem onV_eq(l:List Vx)(x:Int)(f:Vx->Vx)(h:Asc (keysV l))(hp:posK (keysV l) x<l.length)(he:l[posK (keysV l) x].id=x):onV l x f=l.set (posK (keysV l) x) (f l[posK (keysV l) x]):=by
 generalize posK (keysV l) x=p at *
 unfold onV;apply List.ext_getElem
 ·simp
 ·intro k h1 h2;simp only[List.getElem_map,List.getElem_set];simp only[List.length_map]at h1;by_cases e:p=k
  ·subst e;rw[if_pos he,if_pos rfl]
  ·rw[if_neg e,if_neg (fun e2=>e (inj_keyV l h p k hp h1 (by rw[he,e2])))]
/-! keys behind a change -/
theorem keys_onV(l:List Vx)(x:Int)(f:Vx->Vx)(hf:∀u,(f u).id=u.id):keysV (onV l x f)=keysV l:=by
 unfold keysV onV;rw[List.map_map];apply List.map_congr_left;intro u _;simp only[Function.comp_apply]
 split
 ·exact hf u
 ·rfl
theorem keys_delV(l:List Vx)(x:Int):keysV (delV l x)=(keysV l).filter fun k=>!decide (k=x):=by
 unfold keysV delV
 induction l with
 | nil=>rfl
 | cons u t ih =>
  simp only[List.filter_cons,List.map_cons]
  split<;>simp[ih]
theorem mem_insV(l:List Vx)(v u:Vx):u∈insV l v↔u=v\/u∈l:=by
 unfold insV;simp only[List.mem_append,List.mem_filter,List.mem_cons,decide_eq_true_eq,Bool.not_eq_true',decide_eq_false_iff_not];constructor
 ·rintro(h|h|h)
  ·exact .inr h.1
  ·exact .inl h
  ·exact .inr h.1
 ·rintro(h|h)
  ·exact .inr (.inl h)
  ·by_cases h2:u.id<v.id
   ·exact .inl ⟨h,h2⟩
   ·exact .inr (.inr ⟨h,h2⟩)
theorem mem_keys_insV(l:List Vx)(v:Vx)(x:Int):x∈keysV (insV l v)↔x=v.id\/x∈keysV l:=by
 simp only[mem_keysV,mem_insV];constructor
 ·rintro⟨u,rfl|hu,rfl⟩
  ·exact .inl rfl
  ·exact .inr ⟨u,hu,rfl⟩
 ·rintro(rfl|⟨u,hu,rfl⟩)
  ·exact⟨v,.inl rfl,rfl⟩
  ·exact⟨u,.inr hu,rfl⟩
theorem asc_insV(l:List Vx)(v:Vx)(h:Asc (keysV l))(hv:v.id∉keysV l):Asc (keysV (insV l v)):=by
 unfold insV keysV;rw[List.map_append,List.map_cons];have h1:Asc (keysV (l.filter fun u=>decide (u.id<v.id))):=List.Pairwise.sublist (List.Sublist.map _ List.filter_sublist) h;have h2:Asc (keysV (l.filter fun u=>!decide (u.id<v.id))):=List.Pairwise.sublist (List.Sublist.map _ List.filter_sublist) h;unfold Asc;rw[List.pairwise_append];refine⟨h1,List.pairwise_cons.2 ⟨fun k hk=>?_,h2⟩,fun a ha b hb=>?_⟩
 ·obtain⟨u,hu,rfl⟩:=List.mem_map.1 hk;obtain⟨hu1,hu2⟩:=List.mem_filter.1 hu;have:u.id≠v.id:=fun e=>hv (mem_keysV.2 ⟨u,hu1,e⟩);simp at hu2;omega
 ·obtain⟨u,hu,rfl⟩:=List.mem_map.1 ha;have hu2:=(List.mem_filter.1 hu).2;simp at hu2;rcases List.mem_cons.1 hb with rfl|hb
  ·exact hu2
  ·obtain⟨u',hu',rfl⟩:=List.mem_map.1 hb;have:=(List.mem_filter.1 hu').2;simp at this;omega
theorem asc_delV(l:List Vx)(x:Int)(h:Asc (keysV l)):Asc (keysV (delV l x)):=List.Pairwise.sublist (List.Sublist.map _ List.filter_sublist) h
theorem mem_delV(l:List Vx)(x:Int)(u:Vx):u∈delV l x↔u∈l/\u.id≠x:=by unfold delV;simp[List.mem_filter]
theorem mem_keys_delV(l:List Vx)(x y:Int):y∈keysV (delV l x)↔y∈keysV l/\y≠x:=by rw[keys_delV];simp[List.mem_filter]
theorem mem_onV(l:List Vx)(x:Int)(f:Vx->Vx)(u:Vx):u∈onV l x f↔ ∃v∈l,u=if v.id=x then f v else v:=by
 unfold onV;simp only[List.mem_map];constructor
 ·rintro⟨v,hv,rfl⟩;exact⟨v,hv,rfl⟩
 ·rintro⟨v,hv,rfl⟩;exact⟨v,hv,rfl⟩
theorem insE_eq(l:List Ed)(v:Ed)(h:Asc (keysE l)):insE l v=l.take (posK (keysE l) v.id)++v::l.drop (posK (keysE l) v.id):=by
 rw[(takeE l v.id h).1,(takeE l v.id h).2];rfl
theorem posE_lt(l:List Ed)(x:Int)(h:Asc (keysE l))(hx:x∈keysE l):∃hp:posK (keysE l) x<l.length,l[posK (keysE l) x].id=x:=by
 induction l with
 | nil=>simp[keysE]at hx
 | cons v t ih =>
  rw[keysE,List.map_cons,Asc,List.pairwise_cons]at h;by_cases hv:v.id<x
  ·have e:posK (keysE (v::t)) x=posK (keysE t) x+1:=by simp[posK,keysE,hv]
   have hx2:x∈keysE t:=by
    rcases mem_keysE.1 hx with⟨u,hu,rfl⟩;rcases List.mem_cons.1 hu with rfl|hu
    ·omega
    ·exact mem_keysE.2 ⟨u,hu,rfl⟩
   obtain⟨hp,he⟩:=ih h.2 hx2;refine⟨by rw[e];simp;omega,?_⟩;simp only[e,List.getElem_cons_succ];exact he
  ·have e:posK (keysE (v::t)) x=0:=by simp[posK,keysE,hv]
   refine⟨by rw[e];simp,?_⟩;simp only[e,List.getElem_cons_zero];rcases mem_keysE.1 hx with⟨u,hu,rfl⟩;rcases List.mem_cons.1 hu with rfl|hu
   ·rfl
   ·have:=h.1 u.id (List.mem_map_of_mem hu);omega
theorem pos_keyE(l:List Ed)(k:Nat)(hk:k<l.length)(h:Asc (keysE l)):posK (keysE l) l[k].id=k:=by
 refine posK_eq _ _ _ (by simp[keysE];omega) (fun j hj hlt=>?_) (fun j hj hle=>?_)
 ·simp only[keysE,List.getElem_map];have:=List.pairwise_iff_getElem.1 h j k hj (by simpa[keysE]using hk) hlt;simpa[keysE]using this
 ·simp only[keysE,List.getElem_map];rcases Nat.lt_or_eq_of_le hle with h1|rfl
  ·have:=List.pairwise_iff_getElem.1 h k j (by simpa[keysE]using hk) hj h1;simp[keysE]at this;omega
  ·omega
theorem inj_keyE(l:List Ed)(h:Asc (keysE l))(j k:Nat)(hj:j<l.length)(hk:k<l.length)(e:l[j].id=l[k].id):j=k:=by
 have a:=pos_keyE l j hj h;have b:=pos_keyE l k hk h;rw[e]at a;omega
theorem delE_eq(l:List Ed)(x:Int)(h:Asc (keysE l))(hx:x∈keysE l):delE l x=l.take (posK (keysE l) x)++l.drop (posK (keysE l) x+1):=by
 obtain⟨hp,he⟩:=posE_lt l x h hx;generalize posK (keysE l) x=p at *
 conv=>lhs;rw[<-List.take_append_drop p l,List.drop_eq_getElem_cons hp]
 unfold delE;rw[List.filter_append,List.filter_cons];have hne:(!decide (l[p].id=x))=false:=by simp[he]
 rw[hne,List.filter_eq_self.2,List.filter_eq_self.2]
 ·simp
 ·intro u hu;obtain⟨k,hk,rfl⟩:=List.getElem_of_mem hu;simp only[List.getElem_drop,Bool.not_eq_true',decide_eq_false_iff_not];intro e2;have:=inj_keyE l h (p+1+k) p (by simp at hk;omega) hp (by rw[e2,he]);omega
 ·intro u hu;obtain⟨k,hk,rfl⟩:=List.getElem_of_mem hu;simp only[List.length_take]at hk;simp only[List.getElem_take,Bool.not_eq_true',decide_eq_false_iff_not];intro e2;have:=inj_keyE l h k p (by omega) hp (by rw[e2,he]);omega
theorem getE_mem(l:List Ed)(x:Int)(hx:x∈keysE l):getE l x∈l/\(getE l x).id=x:=by
 obtain⟨u,hu,hux⟩:=mem_keysE.1 hx;unfold getE;cases hf:l.find? (fun u=>decide (u.id=x))with
 | none=>have:=List.find?_eq_none.1 hf u hu;simp[hux]at this
 | some w=>exact⟨List.mem_of_find?_eq_some hf,by simpa using List.find?_some hf⟩
theorem getE_of(l:List Ed)(h:Asc (keysE l))(u:Ed)(hu:u∈l):getE l u.id=u:=by
 obtain⟨h1,h2⟩:=getE_mem l u.id (mem_keysE.2 ⟨u,hu,rfl⟩);obtain⟨j,hj,e1⟩:=List.getElem_of_mem h1;obtain⟨k,hk,e2⟩:=List.getElem_of_mem hu;have:=inj_keyE l h j k hj hk (by rw[e1,e2,h2]);subst this;rw[<-e1,e2]
theorem getE_eq(l:List Ed)(x:Int)(h:Asc (keysE l))(hp:posK (keysE l) x<l.length)(he:l[posK (keysE l) x].id=x):getE l x=l[posK (keysE l) x]:=by
 have:=getE_of l h _ (List.getElem_mem hp)
 rwa [he]at this
theorem onE_eq(l:List Ed)(x:Int)(f:Ed->Ed)(h:Asc (keysE l))(hp:posK (keysE l) x<l.length)(he:l[posK (keysE l) x].id=x):onE l x f=l.set (posK (keysE l) x) (f l[posK (keysE l) x]):=by
 generalize posK (keysE l) x=p at *
 unfold onE;apply List.ext_getElem
 ·simp
 ·intro k h1 h2;simp only[List.getElem_map,List.getElem_set];simp only[List.length_map]at h1;by_cases e:p=k
  ·subst e;rw[if_pos he,if_pos rfl]
  ·rw[if_neg e,if_neg (fun e2=>e (inj_keyE l h p k hp h1 (by rw[he,e2])))]
/-! keys behind a change -/
theorem keys_onE(l:List Ed)(x:Int)(f:Ed->Ed)(hf:∀u,(f u).id=u.id):keysE (onE l x f)=keysE l:=by
 unfold keysE onE;rw[List.map_map];apply List.map_congr_left;intro u _;simp only[Function.comp_apply]
 split
 ·exact hf u
 ·rfl
theorem mem_insE(l:List Ed)(v u:Ed):u∈insE l v↔u=v\/u∈l:=by
 unfold insE;simp only[List.mem_append,List.mem_filter,List.mem_cons,decide_eq_true_eq,Bool.not_eq_true',decide_eq_false_iff_not];constructor
 ·rintro(h|h|h)
  ·exact .inr h.1
  ·exact .inl h
  ·exact .inr h.1
 ·rintro(h|h)
  ·exact .inr (.inl h)
  ·by_cases h2:u.id<v.id
   ·exact .inl ⟨h,h2⟩
   ·exact .inr (.inr ⟨h,h2⟩)
theorem asc_insE(l:List Ed)(v:Ed)(h:Asc (keysE l))(hv:v.id∉keysE l):Asc (keysE (insE l v)):=by
 unfold insE keysE;rw[List.map_append,List.map_cons];have h1:Asc (keysE (l.filter fun u=>decide (u.id<v.id))):=List.Pairwise.sublist (List.Sublist.map _ List.filter_sublist) h;have h2:Asc (keysE (l.filter fun u=>!decide (u.id<v.id))):=List.Pairwise.sublist (List.Sublist.map _ List.filter_sublist) h;unfold Asc;rw[List.pairwise_append];refine⟨h1,List.pairwise_cons.2 ⟨fun k hk=>?_,h2⟩,fun a ha b hb=>?_⟩
 ·obtain⟨u,hu,rfl⟩:=List.mem_map.1 hk;obtain⟨hu1,hu2⟩:=List.mem_filter.1 hu;have:u.id≠v.id:=fun e=>hv (mem_keysE.2 ⟨u,hu1,e⟩);simp at hu2;omega
 ·obtain⟨u,hu,rfl⟩:=List.mem_map.1 ha;have hu2:=(List.mem_filter.1 hu).2;simp at hu2;rcases List.mem_cons.1 hb with rfl|hb
  ·exact hu2
  ·obtain⟨u',hu',rfl⟩:=List.mem_map.1 hb;have:=(List.mem_filter.1 hu').2;simp at this;omega
theorem asc_delE(l:List Ed)(x:Int)(h:Asc (keysE l)):Asc (keysE (delE l x)):=List.Pairwise.sublist (List.Sublist.map _ List.filter_sublist) h
theorem mem_delE(l:List Ed)(x:Int)(u:Ed):u∈delE l x↔u∈l/\u.id≠x:=by unfold delE;simp[List.mem_filter]
theorem mem_onE(l:List Ed)(x:Int)(f:Ed->Ed)(u:Ed):u∈onE l x f↔ ∃v∈l,u=if v.id=x then f v else v:=by
 unfold onE;simp only[List.mem_map];constructor
 ·rintro⟨v,hv,rfl⟩;exact⟨v,hv,rfl⟩
 ·rintro⟨v,hv,rfl⟩;exact⟨v,hv,rfl⟩
/-! ### What a change leaves is valid, and is undone -/
theorem okIn_mono(e:Ed)(ks ks':List Int)(h:∀k∈ks,k∈ks')(he:e.okIn ks=true):e.okIn ks'=true:=by
 rw[Ed.okIn_iff]at he ⊢;exact⟨he.1,h _ he.2.1,h _ he.2.2.1,he.2.2.2⟩
theorem mem_endsF(l:List Ed)(a n:Int):n∈endsF l a↔ ∃e∈l,(e.src=a/\n=2*e.id)\/(e.dst=a/\n=2*e.id+1):=by
 unfold endsF;simp only[List.mem_flatMap,List.mem_append];constructor
 ·rintro⟨e,he,h⟩;refine⟨e,he,?_⟩;rcases h with h|h
  ·split at h
   ·exact .inl ⟨by assumption,by simpa using h⟩
   ·simp at h
  ·split at h
   ·exact .inr ⟨by assumption,by simpa using h⟩
   ·simp at h
 ·rintro⟨e,he,h⟩;refine⟨e,he,?_⟩;rcases h with⟨h,rfl⟩|⟨h,rfl⟩
  ·left;rw[if_pos h];simp
  ·right;rw[if_pos h];simp
theorem endsF_nil(l:List Ed)(a:Int):endsF l a=[]↔ ∀e∈l,e.src≠a/\e.dst≠a:=by
 rw[List.eq_nil_iff_forall_not_mem];constructor
 ·intro h e he;exact⟨fun e1=>h _ ((mem_endsF l a _).2 ⟨e,he,.inl ⟨e1,rfl⟩⟩),fun e1=>h _ ((mem_endsF l a _).2 ⟨e,he,.inr ⟨e1,rfl⟩⟩)⟩
 ·intro h n hn;obtain⟨e,he,h1|h1⟩:=(mem_endsF l a n).1 hn
  ·exact(h e he).1 h1.1
  ·exact(h e he).2 h1.1
theorem uniqE{l:List Ed}(h:Asc (keysE l)){a b:Ed}(ha:a∈l)(hb:b∈l)(e:a.id=b.id):a=b:=by
 have h1:=getE_of l h a ha;have h2:=getE_of l h b hb;rw[e]at h1;rw[<-h1,h2]
theorem even_endsF{l:List Ed}(h:Asc (keysE l)){e:Ed}(he:e∈l)(a:Int):2*e.id∈endsF l a↔e.src=a:=by
 rw[mem_endsF];constructor
 ·rintro⟨u,hu,⟨h1,h2⟩|⟨h1,h2⟩⟩
  ·rw[uniqE h he hu (by omega)];exact h1
  ·omega
 ·intro h1;exact⟨e,he,.inl ⟨h1,rfl⟩⟩
theorem odd_endsF{l:List Ed}(h:Asc (keysE l)){e:Ed}(he:e∈l)(a:Int):2*e.id+1∈endsF l a↔e.dst=a:=by
 rw[mem_endsF];constructor
 ·rintro⟨u,hu,⟨h1,h2⟩|⟨h1,h2⟩⟩
  ·omega
  ·rw[uniqE h he hu (by omega)];exact h1
 ·intro h1;exact⟨e,he,.inr ⟨h1,rfl⟩⟩
theorem asc_endsF(l:List Ed)(a:Int)(h:Asc (keysE l)):Asc (endsF l a):=by
 induction l with
 | nil=>exact List.Pairwise.nil
 | cons e t ih =>
  rw[keysE,List.map_cons,Asc,List.pairwise_cons]at h;have hd:endsF (e::t) a=((if e.src=a then[2*e.id]else[])++(if e.dst=a then[2*e.id+1]else[]))++endsF t a:=by simp[endsF]
  rw[hd];refine List.pairwise_append.2 ⟨?_,ih h.2,?_⟩
  ·split<;>split<;>simp<;>omega
  ·intro x hx y hy;obtain⟨u,hu,h1⟩:=(mem_endsF t a y).1 hy;have h2:=h.1 u.id (List.mem_map_of_mem hu);have hx2:x<=2*e.id+1:=by
    rcases List.mem_append.1 hx with h3|h3
    ·split at h3<;>simp at h3;omega
    ·split at h3<;>simp at h3;omega
   rcases h1 with h1|h1<;>omega
theorem keys_map(l:List Ed)(f:Ed->Ed)(hf:∀u,(f u).id=u.id):keysE (l.map f)=keysE l:=by
 unfold keysE;rw[List.map_map];exact List.map_congr_left fun u _=>hf u
theorem act_ok(g:Gr)(c:Ch)(g':Gr)(u:Ch)(h:Ok g)(e:actF g c=some (g',u)):Ok g':=by
 unfold actF actK at e
 split at e
 rotate_left
 ·cases e
 have kmono:∀v:Vx,∀k∈keysV g.vs,k∈keysV (insV g.vs v):=fun v k hk=>(mem_keys_insV _ _ _).2 (.inr hk)
 split at e
 ·unfold act1 at e
  split at e
  ·next hc =>
   simp only[Bool.and_eq_true,Bool.not_eq_true',decide_eq_false_iff_not]at hc;injection e with e;injection e with e1 e2;subst e1
   exact⟨fun v hv=>((mem_insV _ _ _).1 hv).elim (fun e=>e▸hc.1) (h.vok v),asc_insV _ _ h.vasc hc.2,fun e he=>okIn_mono e _ _ (kmono _) (h.eok e he),h.easc,h.dlen,fun d hd=>kmono _ _ (h.din d hd),h.dasc⟩
  ·cases e
 split at e
 ·unfold act2 at e
  split at e
  ·next hc =>
   simp only[Bool.and_eq_true,Bool.not_eq_true',decide_eq_false_iff_not,decide_eq_true_eq]at hc;injection e with e;injection e with e1 e2;subst e1
   have hen:=(endsF_nil _ _).1 hc.2;refine⟨fun v hv=>h.vok v ((mem_delV _ _ _).1 hv).1,asc_delV _ _ h.vasc,fun e he=>?_,h.easc,h.dlen,fun d hd=>?_,h.dasc⟩
   ·have h1:=h.eok e he;rw[Ed.okIn_iff]at h1 ⊢;exact⟨h1.1,(mem_keys_delV _ _ _).2 ⟨h1.2.1,(hen e he).1⟩,(mem_keys_delV _ _ _).2 ⟨h1.2.2.1,(hen e he).2⟩,h1.2.2.2⟩
   ·exact(mem_keys_delV _ _ _).2 ⟨h.din d hd,fun e=>hc.1.2 (by rw[<-e];exact hd)⟩
  ·cases e
 split at e
 ·unfold act3 at e
  split at e
  ·next hc =>
   simp only[Bool.and_eq_true,Bool.not_eq_true',decide_eq_false_iff_not]at hc;injection e with e;injection e with e1 e2;subst e1
   exact⟨h.vok,h.vasc,fun e he=>((mem_insE _ _ _).1 he).elim (fun q=>q▸hc.2) (h.eok e),asc_insE _ _ h.easc hc.1,h.dlen,h.din,h.dasc⟩
  ·cases e
 split at e
 ·unfold act4 at e
  split at e
  ·injection e with e;injection e with e1 e2;subst e1
   exact⟨h.vok,h.vasc,fun e he=>h.eok e ((mem_delE _ _ _).1 he).1,asc_delE _ _ h.easc,h.dlen,h.din,h.dasc⟩
  ·cases e
 split at e
 ·unfold act5 at e
  split at e
  ·next hc =>
   simp only[Bool.and_eq_true,decide_eq_true_eq,inB_iff]at hc;injection e with e;injection e with e1 e2;subst e1
   refine⟨h.vok,h.vasc,fun e he=>?_,by rw[keys_onE g.es c.id (setWt c.n) (fun _=>rfl)];exact h.easc,h.dlen,h.din,h.dasc⟩;obtain⟨v,hv,rfl⟩:=(mem_onE _ _ _ _).1 he;have h1:=h.eok v hv
   split
   ·rw[Ed.okIn_iff]at h1 ⊢;exact⟨h1.1,h1.2.1,h1.2.2.1,hc.2,h1.2.2.2.2⟩
   ·exact h1
  ·cases e
 split at e
 ·unfold act6 at e
  split at e
  ·next hc =>
   simp only[Bool.and_eq_true,decide_eq_true_eq,inB_iff]at hc;injection e with e;injection e with e1 e2;subst e1
   refine⟨h.vok,h.vasc,fun e he=>?_,by rw[keys_onE g.es c.id (setCap c.n) (fun _=>rfl)];exact h.easc,h.dlen,h.din,h.dasc⟩;obtain⟨v,hv,rfl⟩:=(mem_onE _ _ _ _).1 he;have h1:=h.eok v hv
   split
   ·rw[Ed.okIn_iff]at h1 ⊢;exact⟨h1.1,h1.2.1,h1.2.2.1,h1.2.2.2.1,hc.2⟩
   ·exact h1
  ·cases e
 split at e
 ·unfold act7 at e
  split at e
  ·next hc =>
   simp only[Bool.and_eq_true,Bool.not_eq_true',decide_eq_false_iff_not,decide_eq_true_eq]at hc;injection e with e;injection e with e1 e2;subst e1
   obtain⟨⟨⟨c1,c2⟩,c3⟩,c4⟩:=hc;refine⟨fun v hv=>h.vok v ((mem_delV _ _ _).1 hv).1,asc_delV _ _ h.vasc,fun e he=>?_,by rw[keys_map g.es (ctE c.id c.n) (fun _=>rfl)];exact h.easc,h.dlen,fun d hd=>?_,h.dasc⟩
   ·obtain⟨v,hv,rfl⟩:=List.mem_map.1 he;have h1:=h.eok v hv;rw[Ed.okIn_iff]at h1 ⊢;refine⟨h1.1,?_,?_,h1.2.2.2⟩
    ·simp only[ctE]
     split
     ·exact(mem_keys_delV _ _ _).2 ⟨c3,fun e=>c1 e.symm⟩
     ·exact(mem_keys_delV _ _ _).2 ⟨h1.2.1,by assumption⟩
    ·simp only[ctE]
     split
     ·exact(mem_keys_delV _ _ _).2 ⟨c3,fun e=>c1 e.symm⟩
     ·exact(mem_keys_delV _ _ _).2 ⟨h1.2.2.1,by assumption⟩
   ·exact(mem_keys_delV _ _ _).2 ⟨h.din d hd,fun e=>c4 (by rw[<-e];exact hd)⟩
  ·cases e
 split at e
 ·unfold act8 at e
  split at e
  ·next hc =>
   simp only[Bool.and_eq_true,Bool.not_eq_true',decide_eq_false_iff_not,decide_eq_true_eq,List.all_eq_true]at hc;injection e with e;injection e with e1 e2;subst e1
   obtain⟨⟨c1,c2,c3⟩,c4,c5⟩:=hc;refine⟨fun v hv=>((mem_insV _ _ _).1 hv).elim (fun e=>e▸c2) (h.vok v),asc_insV _ _ h.vasc c3,fun e he=>?_,by rw[keys_map g.es (mvE c.ends c.v.id) (fun _=>rfl)];exact h.easc,h.dlen,fun d hd=>kmono _ _ (h.din d hd),h.dasc⟩;obtain⟨v,hv,rfl⟩:=List.mem_map.1 he;have h1:=h.eok v hv;rw[Ed.okIn_iff]at h1 ⊢;refine⟨h1.1,?_,?_,h1.2.2.2⟩
   ·simp only[mvE]
    split
    ·exact(mem_keys_insV _ _ _).2 (.inl rfl)
    ·exact kmono _ _ h1.2.1
   ·simp only[mvE]
    split
    ·exact(mem_keys_insV _ _ _).2 (.inl rfl)
    ·exact kmono _ _ h1.2.2.1
  ·cases e
 split at e
 ·unfold act9 at e
  split at e
  ·next hc =>
   simp only[Bool.and_eq_true,decide_eq_true_eq,inB_iff]at hc;injection e with e;injection e with e1 e2;subst e1
   have hk:keysV (onV g.vs c.id (setSide c.n))=keysV g.vs:=keys_onV g.vs c.id (setSide c.n) (fun _=>rfl);refine⟨fun v hv=>?_,by rw[hk];exact h.vasc,fun e he=>by rw[hk];exact h.eok e he,h.easc,h.dlen,fun d hd=>by rw[hk];exact h.din d hd,h.dasc⟩;obtain⟨q,hq,rfl⟩:=(mem_onV _ _ _ _).1 hv;have h1:=h.vok q hq
   split
   ·rw[Vx.ok_iff]at h1 ⊢;exact⟨h1.1,hc.2⟩
   ·exact h1
  ·cases e
 split at e
 ·unfold act10 at e
  split at e
  ·next hc =>
   injection e with e;injection e with e1 e2;subst e1
   rw[dOk_iff _ _ (fun k hk=>by obtain⟨v,hv,rfl⟩:=mem_keysV.1 hk;have:=((Vx.ok_iff v).1 (h.vok v hv)).1;omega)]at hc;exact⟨h.vok,h.vasc,h.eok,h.easc,hc.1,hc.2.1,hc.2.2⟩
  ·cases e
 ·cases e
/-! ### The graph that integers determine (plain) -/
structure F5 where
 a:Int
 b:Int
 c:Int
 d:Int
 e:Int
def mkN(n:Int)(wide:Bool):Nat:=(1+pk n 8).toNat+(if wide=true then 10 else 0)
def mkOdd(n:Int)(wide:Bool):Bool:=!wide&&(pk (n.tdiv 8) 2==1)
def mkId(o:Bool)(i:Nat):Int:=if o=true then((i+i / 2:Nat):Int)else(i:Int)
def mkSide(n:Int)(i:Nat):Int:=pk (n.tdiv 16+(i:Int)*(1+pk (n.tdiv 64) 3)) 4
def mkV(n:Int)(o:Bool)(i:Nat):Vx:=⟨mkId o i,mkSide n i⟩
def madeV(n:Int)(wide:Bool):List Vx:=(List.range (mkN n wide)).map (mkV n (mkOdd n wide))
def mkE(n:Int)(wide:Bool)(i:Nat)(r:F5):Ed :=
 {id:=(i:Int)+pk (n.tdiv 4) 20,src:=mkId (mkOdd n wide) (pk r.a (mkN n wide)).toNat,dst:=mkId (mkOdd n wide) (pk r.b (mkN n wide)).toNat,dir:=pk r.c 2==1,wt:=if pk r.e 11=10 then pk r.d 2001-1000 else pk r.d 12-3,cap:=pk r.e 6}
def madeE(n:Int)(wide:Bool)(l:List F5):List Ed:=(l.take 20).mapIdx (mkE n wide)
def madeD(n:Int)(wide:Bool):List Int:=(keysV (madeV n wide)).take (pk (n.tdiv 32) 4).toNat
def madeG(n:Int)(l:List F5)(wide:Bool):Gr:=⟨madeV n wide,madeE n wide l,madeD n wide⟩
theorem mkId_mono(o:Bool){i j:Nat}(h:i<j):mkId o i<mkId o j:=by
 unfold mkId;cases o
 ·simp;omega
 ·simp;omega
theorem mkN_pos(n:Int)(wide:Bool):1<=mkN n wide:=by
 have:=pk_lo n 8 (by omega);unfold mkN;split<;>omega
theorem mkN_le(n:Int)(wide:Bool):mkN n wide<=(if wide=true then 18 else 8):=by
 have:=pk_lo n 8 (by omega);have:=pk_lt n 8 (by omega);unfold mkN;split<;>omega
theorem mkId_lt(n:Int)(wide:Bool)(i:Nat)(h:i<mkN n wide):0<=mkId (mkOdd n wide) i/\mkId (mkOdd n wide) i<=17:=by
 have h2:=mkN_le n wide;unfold mkId mkOdd;cases wide
 ·simp only[Bool.not_false,Bool.true_and,Bool.false_eq_true,if_false]at *
  split<;>omega
 ·simp at *;omega
theorem madeV_len(n:Int)(wide:Bool):(madeV n wide).length=mkN n wide:=by simp[madeV]
theorem madeV_at(n:Int)(wide:Bool)(i:Nat)(h:i<mkN n wide):(madeV n wide)[i]?=some (mkV n (mkOdd n wide) i):=by
 unfold madeV;rw[List.getElem?_map,List.getElem?_range h];rfl
theorem keys_madeV(n:Int)(wide:Bool):keysV (madeV n wide)=(List.range (mkN n wide)).map (mkId (mkOdd n wide)):=by
 unfold keysV madeV;rw[List.map_map];rfl
theorem asc_madeV(n:Int)(wide:Bool):Asc (keysV (madeV n wide)):=by
 rw[keys_madeV];show List.Pairwise _ _;rw[List.pairwise_map];exact List.Pairwise.imp (fun h=>mkId_mono _ h) (List.pairwise_lt_range)
theorem madeE_asc(n:Int)(wide:Bool)(l:List F5):Asc (keysE (madeE n wide l)):=by
 show List.Pairwise _ _;rw[List.pairwise_iff_getElem];intro i j hi hj hij;simp only[keysE,madeE,List.getElem_map,List.getElem_mapIdx,mkE];omega
theorem pk_toNat(c:Int)(m:Nat)(h:1<=m):(pk c m).toNat<m:=by
 have:=pk_lo c m (by omega);have:=pk_lt c m (by omega);omega
theorem made_ok(n:Int)(l:List F5)(wide:Bool):Ok (madeG n l wide):=by
 have hmem:∀i,i<mkN n wide->mkId (mkOdd n wide) i∈keysV (madeV n wide):=fun i hi=>by
  rw[keys_madeV];exact List.mem_map.2 ⟨i,List.mem_range.2 hi,rfl⟩
 refine⟨fun v hv=>?_,asc_madeV n wide,fun e he=>?_,madeE_asc n wide l,?_,fun d hd=>List.mem_of_mem_take hd,List.Pairwise.sublist (List.take_sublist _ _) (asc_madeV n wide)⟩
 ·obtain⟨i,hi,rfl⟩:=List.mem_map.1 hv;have h1:=mkId_lt n wide i (List.mem_range.1 hi);have h2:=pk_lo (n.tdiv 16+(i:Int)*(1+pk (n.tdiv 64) 3)) 4 (by omega);have h3:=pk_lt (n.tdiv 16+(i:Int)*(1+pk (n.tdiv 64) 3)) 4 (by omega);rw[Vx.ok_iff];show(0<=mkId _ _/\mkId _ _<=23)/\0<=mkSide _ _/\mkSide _ _<=3;unfold mkSide;omega
 ·obtain⟨i,hi,rfl⟩:=List.mem_mapIdx.1 he;rw[List.length_take]at hi;have p1:=pk_lo (n.tdiv 4) 20 (by omega);have p2:=pk_lt (n.tdiv 4) 20 (by omega);generalize (l.take 20)[i]=r;rw[Ed.okIn_iff];refine⟨⟨?_,?_⟩,hmem _ (pk_toNat _ _ (mkN_pos n wide)),hmem _ (pk_toNat _ _ (mkN_pos n wide)),?_,?_⟩
  ·show 0<=(i:Int)+_;omega
  ·show(i:Int)+_<=39;omega
  ·have q1:=pk_lo r.d 2001 (by omega);have q2:=pk_lt r.d 2001 (by omega);have q3:=pk_lo r.d 12 (by omega);have q4:=pk_lt r.d 12 (by omega);unfold mkE;dsimp only
   split
   ·omega
   ·omega
  ·have q1:=pk_lo r.e 6 (by omega);have q2:=pk_lt r.e 6 (by omega);show 0<=pk r.e 6/\pk r.e 6<=1000;omega
 ·show(List.take _ _).length<=3;rw[List.length_take];have q1:=pk_lo (n.tdiv 32) 4 (by omega);have q2:=pk_lt (n.tdiv 32) 4 (by omega);omega
theorem madeE_snoc(n:Int)(wide:Bool)(l:List F5)(k:Nat)(h:k<l.length)(h2:k<20):madeE n wide (l.take (k+1))=madeE n wide (l.take k)++[mkE n wide k l[k]]:=by
 unfold madeE;rw[List.take_take,List.take_take,Nat.min_eq_right (by omega),Nat.min_eq_right (by omega),List.take_succ_eq_append_getElem h,List.mapIdx_concat];rw[List.length_take,Nat.min_eq_left (by omega)]
theorem madeE_all(n:Int)(wide:Bool)(l:List F5)(k:Nat)(h:k=l.length\/(k=20/\k<=l.length)):madeE n wide (l.take k)=madeE n wide l:=by
 unfold madeE;rw[List.take_take];rcases h with rfl|⟨rfl,h⟩
 ·congr 1;by_cases h:20<=l.length
  ·rw[Nat.min_eq_left h]
  ·rw[Nat.min_eq_right (by omega),List.take_length,List.take_of_length_le (by omega)]
 ·rfl
/-! ### The change that integers determine (plain) -/
structure F6 where
 a:Int
 b:Int
 c:Int
 d:Int
 e:Int
 f:Int
def nextF(ks:List Int)(m:Nat):Nat->Nat->Nat
 | 0,x=>x
 | fuel+1,x=>if(x:Int)∈ks then nextF ks m fuel ((x+1)%m)else x
theorem next_lt(ks:List Int)(m:Nat):∀fuel x,x<m->nextF ks m fuel x<m:=by
 intro fuel
 induction fuel with
 | zero=>intro x h;exact h
 | succ f ih =>
  intro x h;unfold nextF
  split
  ·exact ih _ (Nat.mod_lt _ (by omega))
  ·exact h
theorem cyc(m x y:Nat)(hx:x<m)(hy:y<m):∃j,j<m/\(x+j)%m=y:=by
 by_cases h:x<=y
 ·exact⟨y-x,by omega,by rw[Nat.add_sub_cancel' h,Nat.mod_eq_of_lt hy]⟩
 ·refine⟨y+m-x,by omega,?_⟩;rw[show x+(y+m-x)=y+m by omega,Nat.add_mod_right,Nat.mod_eq_of_lt hy]
theorem pigeon(ks:List Int)(m:Nat)(h:ks.length<m):∃y,y<m/\((y:Nat):Int)∉ks:=by
 apply Classical.byContradiction;intro hc;have hall:∀y,y<m->((y:Nat):Int)∈ks:=fun y hy=>Classical.byContradiction fun h2=>hc ⟨y,hy,h2⟩;have hsub:((List.range m).map fun y:Nat=>(y:Int)) ⊆ ks:=by
  intro z hz;obtain⟨y,hy,rfl⟩:=List.mem_map.1 hz;exact hall y (List.mem_range.1 hy)
 have hnd:((List.range m).map fun y:Nat=>(y:Int)).Nodup:=by
  show List.Pairwise _ _;rw[List.pairwise_map];exact List.Pairwise.imp (fun h e=>by omega) (List.pairwise_lt_range)
 have:=List.Nodup.length_le_of_subset hnd hsub;simp at this;omega
theorem next_at(ks:List Int)(m:Nat):∀fuel x,x<m->(∃j,j<fuel/\(((x+j)%m:Nat):Int)∉ks)->((nextF ks m fuel x:Nat):Int)∉ks:=by
 intro fuel
 induction fuel with
 | zero=>intro x _ ⟨j,hj,_⟩;omega
 | succ f ih =>
  intro x hx ⟨j,hj,hn⟩;unfold nextF
  split
  ·rename_i hm;apply ih _ (Nat.mod_lt _ (by omega));cases j with
   | zero=>rw[Nat.add_zero,Nat.mod_eq_of_lt hx]at hn;exact absurd hm hn
   | succ j=>exact⟨j,by omega,by rw[Nat.mod_add_mod,show x+1+j=x+(j+1)by omega];exact hn⟩
  ·rename_i hm;exact hm
theorem next_free(ks:List Int)(m x:Nat)(h:ks.length<m)(hx:x<m):((nextF ks m m x:Nat):Int)∉ks:=by
 obtain⟨y,hy,hn⟩:=pigeon ks m h;obtain⟨j,hj,e⟩:=cyc m x y hx hy;exact next_at ks m m x hx ⟨j,hj,by rw[e];exact hn⟩
def ComesF(ks:List Int)(m T x:Nat):Prop:=x<m/\ ∃fuel,nextF ks m fuel x=T
theorem ComesF.step{ks:List Int}{m T x:Nat}(h:ComesF ks m T x)(hT:(T:Int)∉ks)(hx:(x:Int)∈ks)(hTm:T<m):ComesF ks m T ((x+1)%m)/\(T+m-(x+1)%m)%m<(T+m-x)%m:=by
 obtain⟨h1,fuel,h2⟩:=h;have hne:x≠T:=fun e=>hT (e▸hx);refine⟨⟨Nat.mod_lt _ (by omega),?_⟩,?_⟩
 ·cases fuel with
  | zero=>exact absurd h2 hne
  | succ f =>
   unfold nextF at h2;rw[if_pos hx]at h2;exact⟨f,h2⟩
 ·by_cases e:x+1=m
  ·rw[e,Nat.mod_self,Nat.sub_zero,Nat.add_mod_right,Nat.mod_eq_of_lt hTm];rw[show T+m-x=T+1 by omega];by_cases e2:T+1=m
   ·omega
   ·rw[Nat.mod_eq_of_lt (by omega)];omega
  ·rw[Nat.mod_eq_of_lt (show x+1<m by omega)];by_cases e3:x<T
   ·rw[show T+m-(x+1)=(T-(x+1))+m by omega,show T+m-x=(T-x)+m by omega,Nat.add_mod_right,Nat.add_mod_right,Nat.mod_eq_of_lt (by omega),Nat.mod_eq_of_lt (by omega)];omega
   ·rw[Nat.mod_eq_of_lt (show T+m-(x+1)<m by omega),Nat.mod_eq_of_lt (show T+m-x<m by omega)];omega
theorem ComesF.there{ks:List Int}{m T x:Nat}(h:ComesF ks m T x)(hx:(x:Int)∉ks):x=T:=by
 obtain⟨_,fuel,h2⟩:=h;cases fuel with
 | zero=>exact h2
 | succ f=>unfold nextF at h2;rw[if_neg hx]at h2;exact h2
def freeF(ks:List Int)(m:Nat)(x:Int):Int:=if ks.length<m then((nextF ks m m x.toNat:Nat):Int)else x
theorem freeF_new(ks:List Int)(m:Nat)(x:Int)(h0:0<=x)(h1:x<m)(h:ks.length<m):freeF ks m x∉ks:=by
 unfold freeF;rw[if_pos h];exact next_free ks m _ h (by omega)
def endV(es:List Ed)(n:Int):Int:=if n<0 then -1 else if n / 2∈keysE es then(if n%2=0 then(getE es (n / 2)).src else(getE es (n / 2)).dst)else -1
def chPick(g:Gr)(x:F6):Bool:=decide (0<g.vs.length)&&decide (0<pk x.f 8)
def chId(g:Gr)(x:F6):Int:=if chPick g x=true then(keysV g.vs).getD (pk x.b g.vs.length).toNat 0 else pk x.b 24
def chOther(g:Gr)(x:F6):Int:=if chPick g x=true then(keysV g.vs).getD (pk x.c g.vs.length).toNat 0 else pk x.c 24
def chEdge(g:Gr)(x:F6):Int:=if(decide (0<g.es.length)&&decide (0<pk x.f 8))=true then(keysE g.es).getD (pk x.b g.es.length).toNat 0 else pk x.b 40
def chFree(g:Gr)(x:F6):Int:=freeF (keysV g.vs) 24 (pk x.d 24)
def chSpare(g:Gr)(x:F6):Int:=freeF (keysE g.es) 40 (pk x.e 40)
def chEndP(es:List Ed)(id e:Int)(i:Nat):Bool:=decide (endV es (i:Int)=id)&&(pk (e.tdiv (1+(i:Int))) 2==1)
def chEnds(es:List Ed)(id e:Int)(k:Nat):List Int:=((List.range k).filter (chEndP es id e)).map fun i:Nat=>(i:Int)
def chDepP(d:Int)(i:Nat):Bool:=pk (d.tdiv (1+(i:Int))) 3==1
def chDeps(ks:List Int)(d:Int):Nat->List Int
 | 0=>[]
 | k+1=>if chDepP d k=true then chDeps ks d k++[ks.getD k 0]else chDeps ks d k
def chDepN(ks:List Int)(d:Int):Nat->Nat->Nat
 | 0,k=>k
 | f+1,k=>if k<ks.length/\(chDeps ks d k).length<3 then chDepN ks d f (k+1)else k
def changedC(g:Gr)(x:F6):Ch :=
 let k:=1+pk x.a 10
 if k=1 then{zC with kind:=1,v:=⟨chFree g x,pk x.e 4⟩}
 else if k=3 then{zC with kind:=3,e:=⟨chSpare g x,chId g x,chOther g x,pk x.d 2==1,pk x.d 12-3,pk x.f 6⟩}
 else if k=2 then{zC with kind:=2,id:=chId g x}
 else if k=4 then{zC with kind:=4,id:=chEdge g x}
 else if k=5 then{zC with kind:=5,id:=chEdge g x,n:=pk x.d 12-3}
 else if k=6 then{zC with kind:=6,id:=chEdge g x,n:=pk x.d 6}
 else if k=7 then{zC with kind:=7,id:=chId g x,n:=chOther g x}
 else if k=8 then{zC with kind:=8,id:=chId g x,v:=⟨chFree g x,pk x.e 4⟩,ends:=chEnds g.es (chId g x) x.e 80}
 else if k=9 then{zC with kind:=9,id:=chId g x,n:=pk x.d 4}
 else{zC with kind:=10,deps:=chDeps (keysV g.vs) x.d (chDepN (keysV g.vs) x.d g.vs.length 0)}
theorem chEnds_len(es:List Ed)(id e:Int)(k:Nat):(chEnds es id e k).length<=k:=by
 unfold chEnds;rw[List.length_map];have:=List.length_filter_le (chEndP es id e) (List.range k);simpa using this
theorem chEnds_succ(es:List Ed)(id e:Int)(k:Nat):chEnds es id e (k+1)=if chEndP es id e k=true then chEnds es id e k++[(k:Int)]else chEnds es id e k:=by
 unfold chEnds;rw[List.range_succ,List.filter_append,List.map_append]
 split<;>rename_i h<;>simp[h]
theorem chDeps_len(ks:List Int)(d:Int):∀k,(chDeps ks d k).length<=k:=by
 intro k
 induction k with
 | zero=>simp[chDeps]
 | succ k ih =>
  unfold chDeps
  split
  ·rw[List.length_append,List.length_singleton];omega
  ·omega
theorem chDepN_eq(ks:List Int)(d:Int)(N:Nat)(hN:N=ks.length):∀f k,k+f=N->(k=N\/3<=(chDeps ks d k).length)->chDepN ks d f k=k:=by
 intro f;cases f with
 | zero=>intro k _ _;rfl
 | succ f =>
  intro k e h;unfold chDepN;rw[if_neg];rintro⟨h1,h2⟩;rcases h with h|h
  ·omega
  ·omega
theorem chDepN_step(ks:List Int)(d:Int)(f k:Nat)(h:k<ks.length)(h2:(chDeps ks d k).length<3):chDepN ks d (f+1) k=chDepN ks d f (k+1):=by
 show(if _ then _ else _)=_;rw[if_pos ⟨h,h2⟩]
theorem plI_mem(l:List Ed)(x:Int)(hx:x∈keysE l):∃(p:Nat) (hp:p<l.length),plI (keysE l) x=p/\l[p]=getE l x:=by
 induction l with
 | nil=>simp[keysE]at hx
 | cons e t ih =>
  by_cases h:e.id=x
  ·refine⟨0,by simp,?_,?_⟩
   ·exact plI_at _ _ 0 (by simp[keysE]) (fun j h hj=>by omega) (by simp[keysE,h])
   ·simp[getE,h]
  ·have hx':x∈keysE t:=by
    rw[mem_keysE]at hx ⊢;obtain⟨v,hv,he⟩:=hx;rcases List.mem_cons.1 hv with rfl|hv
    ·exact absurd he h
    ·exact⟨v,hv,he⟩
   obtain⟨p,hp,h1,h2⟩:=ih hx';refine⟨p+1,by simpa using hp,?_,?_⟩
   ·unfold plI at h1 ⊢;have hpos:posE (keysE (e::t)) x=posE (keysE t) x+1:=by
     unfold posE;rw[show keysE (e::t)=e.id::keysE t from rfl,List.takeWhile_cons_of_pos (by simpa using h),List.length_cons]
    rw[hpos,show(keysE (e::t)).length=(keysE t).length+1 by simp[keysE]]
    split at h1
    ·rw[if_pos (by omega)];omega
    ·omega
   ·rw[List.getElem_cons_succ,h2];unfold getE;rw[List.find?_cons_of_neg (by simpa using h)]
set_option maxHeartbeats 1000000 in
theorem EndR_any(v:Value)(g:Gr)(n:Int)(w:World)(hv:GV w v g)(hn:g.es.length<=1000000000000)(h1n : -9223372036854775808<=n)(h2n:n<=9223372036854775807):
  Calls Tryz.prog 48 #[v,.int .i64 n] w fun e w'=>e= .returned (.int .i64 (endV g.es n))/\Below w.heap.size w w':=by
 obtain⟨a,b,c,rfl,h1,h2,h3⟩:=hv;obtain⟨w1,hw1⟩:∃w1,w1=w.alloc (.cells #[a,b,c] 26):=⟨_,rfl⟩;obtain⟨hB,hz,hcell0⟩:=one_box w w1 a b c 26 hw1;have hcell:=Hd hcell0;have hB0:=Hd (fun W (B:Below w1.heap.size w1 W)=>hB.trans (B.mono hB.size));have B1:=Hd (hB0.out _ (Below.refl _ _));have hfd:=Hd (FindR_any (.agg #[a,b,c]) g (n / 2) w1 ⟨a,b,c,rfl,h1.below hB,h2.below hB,h3.below hB⟩ hn);have hv1:=Hd (h2.below hB);obtain⟨a1,a2,rfl⟩:=h1.shape;obtain⟨b1,b2,rfl⟩:=h2.shape;obtain⟨c1,c2,rfl⟩:=h3.shape;have hw2:=Hd hw1;have hrs:Hid (endV g.es n=if n<0 then -1 else if n / 2∈keysE g.es then(if n%2=0 then(getE g.es (n / 2)).src else(getE g.es (n / 2)).dst)else -1):=rfl;generalize endV g.es n=R at *
 generalize g.vs.length=z1 at *
 generalize g.ds.length=z3 at *
 generalize g.es=l at *
 clear hw1 hcell0 hB h1 h2 h3;by_cases h0:n<0
 ·have hr:Hid (R= -1):=by show _=_;rw[hrs.out,if_pos h0]
  clear hrs hfd hv1;generalize l.length=z2 at *
  go_enter Tryz.func48,Tryz.ntmps48;go_wp2_with fail;go_ret;refine⟨ret_int hr.out.symm,?_⟩;have:=B1.out;rw[hw2.out]at this;exact this
 ·have h0':0<=n:=by omega
  rw[if_neg h0]at hrs;by_cases hm:n / 2∈keysE l
  ·rw[if_pos hm]at hrs;obtain⟨p,hp,e1,e2⟩:=plI_mem l (n / 2) hm;rw[e1]at hfd;obtain⟨bL,oL,cL,he,_,g2,g3⟩:=hv1.out.own (fun e=>by rw[e]at hp;simp at hp);injection he with he1 _ he3
   subst he1 he3;have hce:=Hd (fun W (B:Below w1.heap.size w1 W)=>(g3.below g2 B) p _ (List.getElem?_eq_getElem hp));rw[e2]at hce;generalize getE l (n / 2)=u at *
   obtain⟨N,hN⟩:∃N,Hid (N=l.length):=⟨_,rfl⟩;rw[<-hN.out]at hp hw2 hcell hfd ⊢;have i0:(0:Int)<=(p:Int):=by omega
   have i1:(p:Int)<(N:Int):=by omega
   clear e1 e2 g2 g3 hm hv1;by_cases hpar:n%2=0
   ·rw[if_pos hpar]at hrs;have t1:(n%2==0)=true:=by simpa using hpar
    go_enter Tryz.func48,Tryz.ntmps48;go_wp2_with fail;rw[<-hw2.out];obtain⟨q0,q1,q2⟩:=hcell.out w1 (Below.refl _ _);go_wp2_with fail;refine hfd.out.mono ?_;rintro e w2 ⟨rfl,b2⟩;clear q0 q1 q2;obtain⟨q0,q1,q2⟩:=hcell.out _ b2;obtain⟨d0,d1,d2,d3,d4,d5⟩:=hce.out _ b2;go_wp2_with fail;go_ret;exact⟨ret_int hrs.out.symm,hB0.out _ b2⟩
   ·rw[if_neg hpar]at hrs;have t1:(n%2==0)=false:=by simpa using hpar
    go_enter Tryz.func48,Tryz.ntmps48;go_wp2_with fail;rw[<-hw2.out];obtain⟨q0,q1,q2⟩:=hcell.out w1 (Below.refl _ _);go_wp2_with fail;refine hfd.out.mono ?_;rintro e w2 ⟨rfl,b2⟩;clear q0 q1 q2;obtain⟨q0,q1,q2⟩:=hcell.out _ b2;obtain⟨d0,d1,d2,d3,d4,d5⟩:=hce.out _ b2;go_wp2_with fail;go_ret;exact⟨ret_int hrs.out.symm,hB0.out _ b2⟩
  ·rw[if_neg hm]at hrs;have e1:plI (keysE l) (n / 2)= -1:=plI_none _ _ (fun j hj e=>hm (e▸List.getElem_mem hj));rw[e1]at hfd;clear hv1 hm e1;generalize l.length=z2 at *
   go_enter Tryz.func48,Tryz.ntmps48;go_wp2_with fail;rw[<-hw2.out];obtain⟨q0,q1,q2⟩:=hcell.out w1 (Below.refl _ _);go_wp2_with fail;refine hfd.out.mono ?_;rintro e w2 ⟨rfl,b2⟩;go_wp2_with fail;go_ret;exact⟨ret_int hrs.out.symm,hB0.out _ b2⟩
end Go.Proofs.YtlaldnlgapeckaaGreat
