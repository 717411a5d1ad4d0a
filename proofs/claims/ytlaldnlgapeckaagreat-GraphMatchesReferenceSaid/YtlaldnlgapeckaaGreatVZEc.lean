/- Facts. -/
import Derived.Test.YtlaldnlgapeckaaGreatVYPO
set_option linter.unusedSimpArgs false
set_option maxRecDepth 100000
set_option maxHeartbeats 4000000
namespace Go.Proofs.YtlaldnlgapeckaaGreat
open Go.RowKit
def chN(c:Ch):List Int:=[c.kind]++[c.v.id,c.v.side]++edN c.e++[c.id,c.n]++[(c.ends.length:Int)]++c.ends++[(c.deps.length:Int)]++c.deps
open Go.ChangeShapes Go.WideShapes Go.ChangeAt Go.RowKit
section
variable {H:Type} {enc:TypeId × Value->H} {W:World} {base:Nat} {spare:Nat->Bool} {held:Bool}
theorem in_of{n:Int}(h:(Lit.int .i64 n).wf=true):inI n:=wf_i64 h
theorem vx_open{n:Nat}{cs:List Value}{x:DataW H × List MemPlace}(h:DataW.trod enc Tryz.prog W base spare held n 29 cs=some x):∃u:Vx,cs=[.int .i64 u.id,.int .i64 u.side]/\inI u.id/\inI u.side:=by
 obtain⟨xs,m,_,_,hl,hlen,hf⟩:=DataW.trod_struct Tryz.underlying29 h
 rw[show Tryz.prog.cellsOf 29=2 by kernel_rfl]at hl
 have hlen:xs.length=2:=hlen
 obtain⟨c0,c1,rfl⟩:∃c0 c1,cs=[c0,c1]:=by
  match cs,hl with
  | [c0,c1],_=>exact⟨c0,c1,rfl⟩
 have hone:Tryz.prog.cellsOf 3=1:=by kernel_rfl
 have h0:=hf 0 _ rfl
 have h1:=hf 1 _ rfl
 rw[List.getElem?_eq_getElem (by omega)]at h0 h1
 simp[hone]at h0 h1
 obtain⟨s0,e0,_,l0⟩:=DataW.trod_int Tryz.underlying3 h0
 obtain⟨s1,e1,_,l1⟩:=DataW.trod_int Tryz.underlying3 h1
 simp at e0 e1
 subst e0 e1
 exact⟨⟨s0,s1⟩,rfl,in_of l0,in_of l1⟩
theorem ed_open{n:Nat}{cs:List Value}{x:DataW H × List MemPlace}(h:DataW.trod enc Tryz.prog W base spare held n 31 cs=some x):∃u:Ed,cs=(edCells u).toList/\ ∀n∈edN u,inI n:=by
 obtain⟨xs,m,_,_,hl,hlen,hf⟩:=DataW.trod_struct Tryz.underlying31 h
 rw[show Tryz.prog.cellsOf 31=6 by kernel_rfl]at hl
 have hlen:xs.length=6:=hlen
 obtain⟨c0,c1,c2,c3,c4,c5,rfl⟩:∃c0 c1 c2 c3 c4 c5,cs=[c0,c1,c2,c3,c4,c5]:=by
  match cs,hl with
  | [c0,c1,c2,c3,c4,c5],_=>exact⟨c0,c1,c2,c3,c4,c5,rfl⟩
 have hone:Tryz.prog.cellsOf 3=1:=by kernel_rfl
 have hon4:Tryz.prog.cellsOf 4=1:=by kernel_rfl
 have h0:=hf 0 _ rfl
 have h1:=hf 1 _ rfl
 have h2:=hf 2 _ rfl
 have h3:=hf 3 _ rfl
 have h4:=hf 4 _ rfl
 have h5:=hf 5 _ rfl
 rw[List.getElem?_eq_getElem (by omega)]at h0 h1 h2 h3 h4 h5
 simp[hone,hon4]at h0 h1 h2 h3 h4 h5
 obtain⟨s0,e0,_,l0⟩:=DataW.trod_int Tryz.underlying3 h0
 obtain⟨s1,e1,_,l1⟩:=DataW.trod_int Tryz.underlying3 h1
 obtain⟨s2,e2,_,l2⟩:=DataW.trod_int Tryz.underlying3 h2
 obtain⟨s3,e3,_⟩:=DataW.trod_bool Tryz.underlying4 h3
 obtain⟨s4,e4,_,l4⟩:=DataW.trod_int Tryz.underlying3 h4
 obtain⟨s5,e5,_,l5⟩:=DataW.trod_int Tryz.underlying3 h5
 simp at e0 e1 e2 e3 e4 e5
 subst e0 e1 e2 e3 e4 e5
 refine⟨⟨s0,s1,s2,s3,s4,s5⟩,rfl,fun n hn=>?_⟩
 simp only[edN,List.mem_cons,List.not_mem_nil,or_false]at hn
 rcases hn with rfl|rfl|rfl|rfl|rfl|rfl
 · exact in_of l0
 · exact in_of l1
 · exact in_of l2
 · unfold inI;split<;>omega
 · exact in_of l4
 · exact in_of l5
theorem int_open{n:Nat}{cs:List Value}{x:DataW H × List MemPlace}(h:DataW.trod enc Tryz.prog W base spare held n 3 cs=some x):∃u:Int,cs=[.int .i64 u]/\inI u:=by
 obtain⟨s0,e0,_,l0⟩:=DataW.trod_int Tryz.underlying3 h
 exact⟨s0,e0,in_of l0⟩
def GenL{α:Type}(W:World)(k:Nat)(cells:α->List Value)(v:Value)(l:List α):Prop :=
 (l=[]/\ ∃a c,v= .slice a 0 c)\/(l≠[]/\ ∃b o c,v= .slice (some ⟨b,o,none⟩) l.length c/\l.length<=c/\b<W.heap.size/\ ∀j x,l[j]?=some x-> ∀i u,(cells x)[i]?=some u->W.cell? ⟨b,o+j*k+i,none⟩=some u)
theorem open_gen{α:Type}(T e:TypeId)(k:Nat)(cells:α->List Value)(okα:α->Prop)(hT:Tryz.prog.underlying T=some (.slice e))(hk:Tryz.prog.cellsOf e=k)(hk0:0<k)(hlen:∀x,(cells x).length=k)
  (parse:∀n cs y,DataW.trod enc Tryz.prog W base spare held n e cs=some y-> ∃x,cs=cells x/\okα x) {fuel:Nat} {cs:List Value} {x:DataW H × List MemPlace} (h:DataW.trod enc Tryz.prog W base spare held fuel T cs=some x) :
  ∃(l:List α) (a:Option Addr) (c:Nat),cs=[.slice a l.length c]/\l.length<=c/\GenL W k cells (.slice a l.length c) l/\l.length<=9223372036854775807/\ ∀x∈l,okα x:=by
 rcases Go.Deep.open_slice hT h with⟨rfl,_⟩|⟨a,len,cap,m,n,D,Pl,rfl,hb,hl,hm,hmm,hx,hi⟩
 · exact⟨[],none,0,rfl,Nat.le_refl _,.inl ⟨rfl,_,_,rfl⟩,by simp,by simp⟩
 · have hle:len<=m:=by rw[hmm];split<;>omega
   have key:∀i,i<len-> ∃x:α,(∀j u,(cells x)[j]?=some u->W.cell? (a.add (i*k+j))=some u)/\okα x:=fun i him=>by
    obtain⟨cs',hc,ht'⟩:=hi i (by omega)
    rw[hk]at hc
    obtain⟨_,hcl,hat⟩:=World.cells?_some hc
    obtain⟨x,rfl,hok⟩:=parse _ _ _ ht'
    refine⟨x,fun j u e=>?_,hok⟩
    have hj:j<k:=by have:=(List.getElem?_eq_some_iff.1 e).1;rw[hlen]at this;exact this
    have k':=hat j (by omega)
    rw[Go.Deep.add_add]at k'
    rw[k'];exact e
   by_cases h0:len=0
   · subst h0
     exact⟨[],some a,cap,rfl,Nat.zero_le _,.inl ⟨rfl,_,_,rfl⟩,by simp,by simp⟩
   · obtain⟨x0,hx0,_⟩:=key 0 (by omega)
     obtain⟨b,o,sp⟩:=a
     obtain⟨u0,hu0⟩:∃u,(cells x0)[0]?=some u:=⟨(cells x0)[0]'(by rw[hlen];exact hk0),List.getElem?_eq_getElem _⟩
     have hx0':W.cell? ⟨b,o,sp⟩=some u0:=by
      have h1:=hx0 0 _ hu0
      have e:(⟨b,o,sp⟩:Addr).add (0*k+0)=⟨b,o,sp⟩:=by rw[Nat.zero_mul];unfold Addr.add;split<;>simp_all
      rw[e]at h1;exact h1
     obtain⟨rfl,hbl⟩:=block_of_cell hx0'
     have hne:Nonempty α:=⟨x0⟩
     let f:Nat->α:=fun i=>if h:i<len then(key i h).choose else x0
     have hf2:∀i (_:i<len),(∀j u,(cells (f i))[j]?=some u->W.cell? ⟨b,o+i*k+j,none⟩=some u)/\okα (f i):=fun i h=>by
      have:=(key i h).choose_spec
      simp only[f,dif_pos h]
      refine⟨fun j u e=>?_,this.2⟩
      have h3:=this.1 j u e
      rw[Addr.add_lit]at h3
      rw[Nat.add_assoc];exact h3
     have hll:((List.range len).map f).length=len:=by simp
     refine⟨(List.range len).map f,some ⟨b,o,none⟩,cap,by rw[hll],by rw[hll];exact hl,.inr ⟨fun e=>h0 (by simpa using e),b,o,cap,rfl,by rw[hll];exact hl,hbl,fun j x e1 i u e2=>?_⟩,by rw[hll];unfold maxLen at hm;omega,fun p hp=>?_⟩
     · have hj:j<len:=by have:=(List.getElem?_eq_some_iff.1 e1).1;rw[hll]at this;exact this
       have e1':f j=x:=by simpa[List.getElem?_map,List.getElem?_range hj]using e1
       subst e1'
       exact(hf2 j hj).1 i u e2
     · obtain⟨i,hi3,rfl⟩:=List.mem_map.1 hp
       exact(hf2 i (by simpa using hi3)).2
theorem GenL.V{v:Value}{l:List Vx}(h:GenL W 2 (fun u:Vx=>[.int .i64 u.id,.int .i64 u.side]) v l):VL W v l:=by
 rcases h with h|⟨h0,b,o,c,h1,h2,h3,h4⟩
 · exact .inl h
 · exact .inr ⟨h0,b,o,c,h1,h2,h3,fun j x e=>⟨h4 j x e 0 _ rfl,h4 j x e 1 _ rfl⟩⟩
theorem GenL.E{v:Value}{l:List Ed}(h:GenL W 6 (fun u:Ed=>(edCells u).toList) v l):EL W v l:=by
 rcases h with h|⟨h0,b,o,c,h1,h2,h3,h4⟩
 · exact .inl h
 · exact .inr ⟨h0,b,o,c,h1,h2,h3,fun j x e=>⟨h4 j x e 0 _ rfl,h4 j x e 1 _ rfl,h4 j x e 2 _ rfl,h4 j x e 3 _ rfl,h4 j x e 4 _ rfl,h4 j x e 5 _ rfl⟩⟩
theorem GenL.D{v:Value}{l:List Int}(h:GenL W 1 (fun u:Int=>[.int .i64 u]) v l):DL W v l:=by
 rcases h with h|⟨h0,b,o,c,h1,h2,h3,h4⟩
 · exact .inl h
 · exact .inr ⟨h0,b,o,c,h1,h2,h3,fun j x e=>by have:=h4 j x e 0 _ rfl;simpa using this⟩
def ArgG(W:World)(v:Value)(g:Gr)(r1 r3 r5:Option Addr)(n1 r2 n2 r4 n3 r6:Nat):Prop:=v= .agg #[.slice r1 n1 r2,.slice r3 n2 r4,.slice r5 n3 r6]/\VL W (.slice r1 n1 r2) g.vs/\EL W (.slice r3 n2 r4) g.es/\DL W (.slice r5 n3 r6) g.ds /\
 (n1=g.vs.length/\n2=g.es.length/\n3=g.ds.length)/\(n1<=r2/\n2<=r4/\n3<=r6)/\(n1<=9223372036854775807/\n2<=9223372036854775807/\n3<=9223372036854775807)
theorem open_graph{r:Reach}{b0:Nat}{v:Value}{d:DataW H}{p:List MemPlace}(hv:Value.okWide Tryz.prog W r b0 26 v)(h:DataW.Trod enc Tryz.prog W base spare held 26 v d p):∃g r1 r3 r5 n1 r2 n2 r4 n3 r6,ArgG W v g r1 r3 r5 n1 r2 n2 r4 n3 r6:=by
 obtain⟨cs,rfl,hsz⟩:=okWide_struct Tryz.underlying26 hv
 rw[show Tryz.prog.cellsOf 26=3 by kernel_rfl]at hsz
 obtain⟨c0,c1,c2,rfl⟩:∃c0 c1 c2,cs= #[c0,c1,c2]:=by
  obtain⟨l⟩:=cs
  match l,hsz with
  | [c0,c1,c2],_=>exact⟨c0,c1,c2,rfl⟩
 obtain⟨fuel,hf⟩:=h
 obtain⟨xs,m,_,_,_,hlen,hi⟩:=DataW.trod_struct Tryz.underlying26 hf
 have hlen:xs.length=3:=hlen
 have o22:Tryz.prog.cellsOf 22=1:=by kernel_rfl
 have o23:Tryz.prog.cellsOf 23=1:=by kernel_rfl
 have o24:Tryz.prog.cellsOf 24=1:=by kernel_rfl
 have h0:=hi 0 _ rfl
 have h1:=hi 1 _ rfl
 have h2:=hi 2 _ rfl
 rw[List.getElem?_eq_getElem (by omega)]at h0 h1 h2
 simp[o22,o23,o24,Value.cells]at h0 h1 h2
 obtain⟨l0,a0,k0,e0,q0,g0,b0',_⟩:=open_gen 22 29 2 (fun u:Vx=>[.int .i64 u.id,.int .i64 u.side]) (fun _=>True) Tryz.underlying22 (by kernel_rfl) (by omega) (fun _=>rfl) (fun n cs y hy=>by obtain⟨u,hu,_⟩:=vx_open hy;exact⟨u,hu,trivial⟩) h0
 obtain⟨l1,a1,k1,e1,q1,g1,b1',_⟩:=open_gen 23 31 6 (fun u:Ed=>(edCells u).toList) (fun _=>True) Tryz.underlying23 (by kernel_rfl) (by omega) (fun _=>rfl) (fun n cs y hy=>by obtain⟨u,hu,_⟩:=ed_open hy;exact⟨u,hu,trivial⟩) h1
 obtain⟨l2,a2,k2,e2,q2,g2,b2',_⟩:=open_gen 24 3 1 (fun u:Int=>[.int .i64 u]) (fun _=>True) Tryz.underlying24 (by kernel_rfl) (by omega) (fun _=>rfl) (fun n cs y hy=>by obtain⟨u,hu,_⟩:=int_open hy;exact⟨u,hu,trivial⟩) h2
 simp at e0 e1 e2
 subst e0 e1 e2
 exact⟨⟨l0,l1,l2⟩,a0,a1,a2,_,k0,_,k1,_,k2,rfl,g0.V,g1.E,g2.D,⟨rfl,rfl,rfl⟩,⟨q0,q1,q2⟩,⟨b0',b1',b2'⟩⟩
def ArgC(W:World)(v:Value)(c:Ch)(oa ob:Option Addr)(k1 oc k2 od:Nat):Prop:=v= .agg (chCells c (.slice oa k1 oc) (.slice ob k2 od))/\DL W (.slice oa k1 oc) c.ends/\DL W (.slice ob k2 od) c.deps /\
 (k1=c.ends.length/\k2=c.deps.length)/\(k1<=oc/\k2<=od/\k1<=9223372036854775807/\k2<=9223372036854775807) /\
 (inI c.kind/\(inI c.v.id/\inI c.v.side)/\(∀n∈edN c.e,inI n)/\inI c.id/\inI c.n/\(∀n∈c.ends,inI n)/\(∀n∈c.deps,inI n))
theorem open_change{r:Reach}{b0:Nat}{v:Value}{d:DataW H}{p:List MemPlace}(hv:Value.okWide Tryz.prog W r b0 33 v)(h:DataW.Trod enc Tryz.prog W base spare held 33 v d p):∃c oa ob k1 oc k2 od,ArgC W v c oa ob k1 oc k2 od:=by
 obtain⟨cs,rfl,hsz⟩:=okWide_struct Tryz.underlying33 hv
 rw[show Tryz.prog.cellsOf 33=13 by kernel_rfl]at hsz
 obtain⟨c0,c1,c2,c3,c4,c5,c6,c7,c8,c9,ca,cb,cc,rfl⟩:∃c0 c1 c2 c3 c4 c5 c6 c7 c8 c9 ca cb cc,cs= #[c0,c1,c2,c3,c4,c5,c6,c7,c8,c9,ca,cb,cc]:=by
  obtain⟨l⟩:=cs
  match l,hsz with
  | [c0,c1,c2,c3,c4,c5,c6,c7,c8,c9,ca,cb,cc],_=>exact⟨c0,c1,c2,c3,c4,c5,c6,c7,c8,c9,ca,cb,cc,rfl⟩
 obtain⟨fuel,hf⟩:=h
 obtain⟨xs,m,_,_,_,hlen,hi⟩:=DataW.trod_struct Tryz.underlying33 hf
 have hlen:xs.length=7:=hlen
 have o3:Tryz.prog.cellsOf 3=1:=by kernel_rfl
 have o29:Tryz.prog.cellsOf 29=2:=by kernel_rfl
 have o31:Tryz.prog.cellsOf 31=6:=by kernel_rfl
 have o24:Tryz.prog.cellsOf 24=1:=by kernel_rfl
 have h0:=hi 0 _ rfl
 have h1:=hi 1 _ rfl
 have h2:=hi 2 _ rfl
 have h3:=hi 3 _ rfl
 have h4:=hi 4 _ rfl
 have h5:=hi 5 _ rfl
 have h6:=hi 6 _ rfl
 rw[List.getElem?_eq_getElem (by omega)]at h0 h1 h2 h3 h4 h5 h6
 simp[o3,o29,o31,o24,Value.cells]at h0 h1 h2 h3 h4 h5 h6
 obtain⟨i0,e0,b0'⟩:=int_open h0
 obtain⟨u1,e1,b1'⟩:=vx_open h1
 obtain⟨u2,e2,b2'⟩:=ed_open h2
 obtain⟨i3,e3,b3'⟩:=int_open h3
 obtain⟨i4,e4,b4'⟩:=int_open h4
 obtain⟨l5,a5,k5,e5,q5,g5,b5',w5⟩:=open_gen 24 3 1 (fun u:Int=>[.int .i64 u]) inI Tryz.underlying24 (by kernel_rfl) (by omega) (fun _=>rfl) (fun n cs y hy=>int_open hy) h5
 obtain⟨l6,a6,k6,e6,q6,g6,b6',w6⟩:=open_gen 24 3 1 (fun u:Int=>[.int .i64 u]) inI Tryz.underlying24 (by kernel_rfl) (by omega) (fun _=>rfl) (fun n cs y hy=>int_open hy) h6
 simp[edCells]at e0 e1 e2 e3 e4 e5 e6
 obtain⟨rfl,rfl⟩:=e1
 obtain⟨rfl,rfl,rfl,rfl,rfl,rfl⟩:=e2
 subst e0 e3 e4 e5 e6
 exact⟨⟨i0,u1,u2,i3,i4,l5,l6⟩,a5,a6,_,k5,_,k6,rfl,g5.D,g6.D,⟨rfl,rfl⟩,⟨q5,q6,b5',b6'⟩,⟨b0',b1',b2',b3',b4',w5,w6⟩⟩
end
theorem chN_in{c:Ch}{k1 k2 oc od:Nat}(h:inI c.kind/\(inI c.v.id/\inI c.v.side)/\(∀n∈edN c.e,inI n)/\inI c.id/\inI c.n/\(∀n∈c.ends,inI n)/\(∀n∈c.deps,inI n))(hn:k1=c.ends.length/\k2=c.deps.length)(hp:k1<=oc/\k2<=od/\k1<=9223372036854775807/\k2<=9223372036854775807):∀n∈chN c,inI n:=by
 obtain⟨h1,⟨h2,h3⟩,h4,h5,h6,h7,h8⟩:=h
 obtain⟨rfl,rfl⟩:=hn
 intro n hn
 unfold chN at hn
 simp only[List.mem_append,List.mem_cons,List.not_mem_nil,or_false]at hn
 rcases hn with((((((rfl|(rfl|rfl))|hn)|(rfl|rfl))|rfl)|hn)|rfl)|hn
 · exact h1
 · exact h2
 · exact h3
 · exact h4 n hn
 · exact h5
 · exact h6
 · unfold inI;omega
 · exact h7 n hn
 · unfold inI;omega
 · exact h8 n hn
end Go.Proofs.YtlaldnlgapeckaaGreat
