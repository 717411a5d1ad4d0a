/- Facts. -/
import Derived.Test.YtlaldnlgapeckaaGreatVYAr
set_option maxHeartbeats 4000000
set_option linter.unusedSimpArgs false
set_option maxRecDepth 100000
namespace Go.Proofs.YtlaldnlgapeckaaGreat
open Go.RowKit
/-! plain -/
theorem endsF_le(l:List Ed)(a:Int):(endsF l a).length<=2*l.length:=by
 unfold endsF
 induction l with
 | nil=>simp
 | cons e t ih =>
  rw[List.flatMap_cons,List.length_append,List.length_append,List.length_cons];have h1:(if e.src=a then[2*e.id]else[]).length<=1:=by split<;>simp
  have h2:(if e.dst=a then[2*e.id+1]else[]).length<=1:=by split<;>simp
  omega
theorem act_len(g:Gr)(c:Ch)(p:Gr × Ch)(h:Ok g)(e:actF g c=some p):p.2.ends.length<=80/\p.2.deps.length<=1000:=by
 have he:=endsF_le g.es c.id;have hl:=h.elen;have hd:=h.dlen;unfold actF actK at e
 split at e
 rotate_left
 ·cases e
 split at e
 ·unfold act1 at e
  split at e
  ·injection e with e
   subst e;exact⟨by simp[zC],by simp[zC]⟩
  ·cases e
 split at e
 ·unfold act2 at e
  split at e
  ·injection e with e
   subst e;exact⟨by simp[zC],by simp[zC]⟩
  ·cases e
 split at e
 ·unfold act3 at e
  split at e
  ·injection e with e
   subst e;exact⟨by simp[zC],by simp[zC]⟩
  ·cases e
 split at e
 ·unfold act4 at e
  split at e
  ·injection e with e
   subst e;exact⟨by simp[zC],by simp[zC]⟩
  ·cases e
 split at e
 ·unfold act5 at e
  split at e
  ·injection e with e
   subst e;exact⟨by simp[zC],by simp[zC]⟩
  ·cases e
 split at e
 ·unfold act6 at e
  split at e
  ·injection e with e
   subst e;exact⟨by simp[zC],by simp[zC]⟩
  ·cases e
 split at e
 ·unfold act7 at e
  split at e
  ·injection e with e
   subst e;exact⟨by show(endsF g.es c.id).length<=80;omega,by simp[zC]⟩
  ·cases e
 split at e
 ·unfold act8 at e
  split at e
  ·injection e with e
   subst e;exact⟨by simp[zC],by simp[zC]⟩
  ·cases e
 split at e
 ·unfold act9 at e
  split at e
  ·injection e with e
   subst e;exact⟨by simp[zC],by simp[zC]⟩
  ·cases e
 split at e
 ·unfold act10 at e
  split at e
  ·injection e with e
   subst e;exact⟨by simp[zC],by show g.ds.length<=1000;omega⟩
  ·cases e
 cases e
/-! rows of six -/
def LieX(W:World)(b o:Nat)(l:List F6):Prop:=∀j r,l[j]?=some r-> ∀i u,r.cells[i]?=some u->W.cell? ⟨b,o+j*6+i,none⟩=some u
def L6(W:World)(v:Value)(l:List F6):Prop :=
 (l=[]/\ ∃a c,v= .slice a 0 c)\/(l≠[]/\ ∃b o c,v= .slice (some ⟨b,o,none⟩) l.length c/\l.length<=c/\b<W.heap.size/\LieX W b o l)
theorem L6.shape{W:World}{v:Value}{l:List F6}(h:L6 W v l):∃a c,v= .slice a l.length c:=by
 rcases h with⟨rfl,a,c,rfl⟩|⟨_,b,o,c,rfl,_⟩
 ·exact⟨_,_,rfl⟩
 ·exact⟨_,_,rfl⟩
theorem L6.below{W W':World}{v:Value}{l:List F6}(h:L6 W v l)(B:Below W.heap.size W W'):L6 W' v l:=by
 rcases h with h|⟨h1,b,o,c,h2,h3,h4,h5⟩
 ·exact .inl h
 ·exact .inr ⟨h1,b,o,c,h2,h3,Nat.lt_of_lt_of_le h4 B.size,fun j r e i u hu=>by rw[B.cell (by simpa using h4)];exact h5 j r e i u hu⟩
theorem L6.at_{W:World}{v:Value}{l:List F6}(h:L6 W v l)(k:Nat)(hk:k<l.length):∃b o c,v= .slice (some ⟨b,o,none⟩) l.length c/\b<W.heap.size/\ ∀W',Below W.heap.size W W'->W'.cell? ⟨b,o+k*6,none⟩=some (.int .i64 l[k].a)/\W'.cell? ⟨b,o+k*6+1,none⟩=some (.int .i64 l[k].b)/\W'.cell? ⟨b,o+k*6+2,none⟩=some (.int .i64 l[k].c)/\W'.cell? ⟨b,o+k*6+3,none⟩=some (.int .i64 l[k].d)/\W'.cell? ⟨b,o+k*6+4,none⟩=some (.int .i64 l[k].e)/\W'.cell? ⟨b,o+k*6+5,none⟩=some (.int .i64 l[k].f):=by
 rcases h with⟨rfl,_⟩|⟨_,b,o,c,rfl,h2,h3,h4⟩
 ·simp at hk
 ·refine⟨b,o,c,rfl,h3,fun W' B=>?_⟩;have key:=fun i u (hi:l[k].cells[i]?=some u)=>h4 k _ (List.getElem?_eq_getElem hk) i u hi;refine⟨?_,?_,?_,?_,?_,?_⟩<;>rw[B.cell (by simpa using h3)]
  ·exact key 0 _ rfl
  ·exact key 1 _ rfl
  ·exact key 2 _ rfl
  ·exact key 3 _ rfl
  ·exact key 4 _ rfl
  ·exact key 5 _ rfl
/-! rows of changes -/
def cCh(l:List (Ch × Value × Value)):List Value:=l.flatMap fun t=>(chCells t.1 t.2.1 t.2.2).toList
theorem cCh_at(l:List (Ch × Value × Value)):∀(j:Nat) (e:Ch × Value × Value) (i:Nat),l[j]?=some e->i<13->(cCh l)[j*13+i]?=(chCells e.1 e.2.1 e.2.2)[i]?:=by
 induction l with
 | nil=>intro j e i h;simp at h
 | cons x t ih =>
  intro j e i h hi;have hx:(chCells x.1 x.2.1 x.2.2).toList.length=13:=rfl;cases j with
  | zero =>
   simp at h;subst h;show((chCells x.1 x.2.1 x.2.2).toList++cCh t)[0*13+i]?=_;rw[List.getElem?_append_left (by omega)]
   simp
  | succ j =>
   show((chCells x.1 x.2.1 x.2.2).toList++cCh t)[(j+1)*13+i]?=_;rw[List.getElem?_append_right (by omega),hx,show(j+1)*13+i-13=j*13+i by omega];exact ih j e i (by simpa using h) hi
def OwnR(W:World)(B:Nat)(v:Value)(ts:List (Ch × Value × Value)):Prop:=W.ownsRow B 33 13 v ts.length (cCh ts)
def OwnC(W:World)(B:Nat)(v:Value)(l:List Ch):Prop:=∃ts:List (Ch × Value × Value),ts.map (·.1)=l/\OwnR W B v ts/\ ∀t∈ts,OwnI W 0 t.2.1 t.1.ends/\OwnI W 0 t.2.2 t.1.deps
theorem OwnR.LC{W:World}{B:Nat}{v:Value}{ts:List (Ch × Value × Value)}(h:OwnR W B v ts)(hd:∀t∈ts,DL W t.2.1 t.1.ends/\DL W t.2.2 t.1.deps):LC W v (ts.map (·.1)):=by
 unfold OwnR at h;rcases h.2 with⟨rfl,h0⟩|⟨g,cap,cur,rfl,hb,hg,hc,hm,hs,ht⟩
 ·exact .inl ⟨by rw[List.length_eq_zero_iff.1 h0];rfl,_,_,rfl⟩
 ·by_cases hl:ts=[]
  ·subst hl;exact .inl ⟨rfl,_,_,rfl⟩
  ·refine .inr ⟨by simpa using hl,g,0,cap,by simp,by simpa using hc,(Array.getElem?_eq_some_iff.1 hg).1,fun j e he=>?_⟩;rw[List.getElem?_map]at he;cases hj:ts[j]? with
   | none=>rw[hj]at he;cases he
   | some t =>
    rw[hj]at he;injection he with he
    subst he;have hlt:j<ts.length:=(List.getElem?_eq_some_iff.1 hj).1;obtain⟨q1,q2⟩:=hd t (List.mem_of_getElem? hj);refine⟨_,_,fun i u hu=>?_,q1,q2⟩;have hi:i<13:=(Array.getElem?_eq_some_iff.1 hu).1;rw[cell_of_row _ _ _ _ _ _ hg,<-hu,<-cCh_at ts j t i hj hi,<-ht,List.getElem?_take_of_lt (by omega)]
    simp
theorem OwnC.LC{W:World}{B:Nat}{v:Value}{l:List Ch}(h:OwnC W B v l):LC W v l:=by
 obtain⟨ts,rfl,h1,h2⟩:=h;exact h1.LC fun t ht=>⟨(h2 t ht).1.DL,(h2 t ht).2.DL⟩
theorem OwnC.below{W W':World}{B:Nat}{v:Value}{l:List Ch}(h:OwnC W B v l)(b:Below W.heap.size W W'):OwnC W' B v l:=by
 obtain⟨ts,h0,h1,h2⟩:=h;exact⟨ts,h0,own_below h1 b,fun t ht=>⟨own_below (h2 t ht).1 b,own_below (h2 t ht).2 b⟩⟩
theorem OwnC.nil(W:World)(B:Nat):OwnC W B (.slice none 0 0) []:=⟨[],rfl,⟨rfl,.inl ⟨rfl,rfl⟩⟩,fun t ht=>(by cases ht)⟩
theorem info33c:(Tryz.prog.info? 33).map (fun i=>(i.zero,i.size,i.bytes))=some (some (.agg (chCells zC (.slice none 0 0) (.slice none 0 0))),13,136):=by kernel_rfl
theorem chc_one(c:Ch)(a1 a2:Option Addr)(m1 n1 m2 n2:Nat):∀u∈(chCells c (.slice a1 m1 n1) (.slice a2 m2 n2)).toList,u.oneCell'=true:=by
 have h:=one33 c a1 a2 m1 n1 m2 n2;rw[Array.all_eq_true']at h;intro u hu;exact h u (by simpa using hu)
theorem OwnI.shape{W:World}{B:Nat}{v:Value}{l:List Int}(h:OwnI W B v l):∃a c,v= .slice a l.length c:=h.DL.shape
theorem own_grownB{W W':World}{o:Obj}{v v2:Value}{B B2 e e2 k k2 n n2:Nat}{xs ys:List Value}(hg:(W.alloc o).grownBy W' v.ownBlock)(ho:W.ownsRow B e k v n xs)(h2:W.ownsRow B2 e2 k2 v2 n2 ys)(hne:e≠e2):W'.ownsRow B2 e2 k2 v2 n2 ys:=by
 refine⟨h2.1,?_⟩;rcases h2.2 with h|⟨g,cap,cur,h1,h3,h4,h5⟩
 ·exact .inl h
 ·refine .inr ⟨g,cap,cur,h1,h3,?_,h5⟩;rw[grown_keep hg ho g (Array.getElem?_eq_some_iff.1 h4).1 (fun _=>⟨_,h4,fun cs e3=>by simp at e3;exact hne e3.2.symm⟩)];exact h4
def chIn(c:Ch):Prop:=∀n∈c.ends,-9223372036854775808<=n/\n<=9223372036854775807
theorem changed_in(g:Gr)(x:F6):chIn (changedC g x):=by
 intro n hn;have key:∀(es:List Ed) (id e:Int),n∈chEnds es id e 80-> -9223372036854775808<=n/\n<=9223372036854775807:=fun es id e h=>by
  unfold chEnds at h;obtain⟨i,hi,rfl⟩:=List.mem_map.1 h;have:=List.mem_range.1 (List.mem_filter.1 hi).1;omega
 unfold changedC at hn;dsimp only at hn
 repeat' split at hn
 all_goals first
  | (simp[zC]at hn;done)
  | exact key _ _ _ hn
end Go.Proofs.YtlaldnlgapeckaaGreat
