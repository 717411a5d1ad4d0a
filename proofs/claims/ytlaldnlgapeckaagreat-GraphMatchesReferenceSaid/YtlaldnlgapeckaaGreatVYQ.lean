/- Facts. -/
import Derived.Laws.StructEq
import Derived.Test.YtlaldnlgapeckaaGreatVYAk
set_option maxRecDepth 100000
set_option maxHeartbeats 4000000
namespace Go.Proofs.YtlaldnlgapeckaaGreat
open Go.RowKit
theorem snocX(B:Nat)(T e:TypeId)(i0:TypeInfo)(z:Value)(k by_:Nat)(hT:Tryz.prog.underlying T=some (.slice e))(hi:Tryz.prog.info? e=some i0)(hz:i0.zero=some z)(hk:i0.size=k)(hby:i0.bytes=by_)(hzs:z.cells.size=k)(h0:0<k)(hb48:by_<=200)
  (W:World) (v:Value) (n:Nat) (xs:List Value) (cs:Array Value) (hcs:cs.size=k) (hall:∀u∈cs.toList,u.oneCell'=true) (hown:W.ownsRow B e k v n xs) (hn:n<=1000000) (hB:B<=W.heap.size) :
  ∃g cap w',(Builtin.append_ #[T,T] T #[v,.slice (some ⟨W.heap.size,0,none⟩) 1 1]).run Tryz.prog (W.alloc (.cells cs e))= .ok (.slice (some ⟨g,0,none⟩) (n+1) cap) w'/\w'.ownsRow B e k (.slice (some ⟨g,0,none⟩) (n+1) cap) (n+1) (xs++cs.toList)/\(W.alloc (.cells cs e)).grownBy w' v.ownBlock:=by
 have hmul:(n+1)*by_<=1000001*200:=Nat.mul_le_mul (by omega) hb48;obtain⟨g,cap,w',hr,ho,hg,_,_⟩:=run_append_lies (P:=Tryz.prog) (W.alloc (.cells cs e)) T T B e i0 z k by_ hT hi hz hk hby hzs h0 v n xs (hown.alloc _) ⟨W.heap.size,0,none⟩ 1 1 cs.toList (by simp[hcs])
  (World.news_of_block (cs:=cs) (t:=e) (fr:=(0,0)) (heap_alloc_new W _)) hall (by omega) (by unfold maxLen;omega) (by omega) (by simp;omega) (W.heap.size+1) (by simp)
 exact⟨g,cap,w',hr,ho,hg⟩
theorem grown_keep{W W':World}{o:Obj}{v:Value}{B e k n:Nat}{xs:List Value}(hg:(W.alloc o).grownBy W' v.ownBlock)(ho:W.ownsRow B e k v n xs)(j:Nat)(hj:j<W.heap.size)(hne:B<=j-> ∃p,W.heap[j]?=some p/\ ∀cs,p≠ .cells cs e (0,0)):W'.heap[j]?=W.heap[j]?:=by
 rw[hg.block j (by simp;omega) (fun q=>?_)]
 ·exact Below.heap_alloc _ _ _ hj
 ·obtain⟨q1,cur,q2⟩:=own_row ho j q.symm;obtain⟨p,hp,hno⟩:=hne q1;rw[q2]at hp;injection hp with hp
  exact hno cur hp.symm
theorem grown_size{W W':World}{o:Obj}{r:Option Nat}(hg:(W.alloc o).grownBy W' r):W.heap.size<=W'.heap.size:=by
 have:=((Below.refl 0 _).grown hg (Nat.zero_le _) (fun j hj=>Nat.zero_le _)).size;simp at this;omega
theorem own_grown{W W':World}{o:Obj}{v v2:Value}{B e e2 k k2 n n2:Nat}{xs ys:List Value}(hg:(W.alloc o).grownBy W' v.ownBlock)(ho:W.ownsRow B e k v n xs)(h2:W.ownsRow B e2 k2 v2 n2 ys)(hne:e≠e2):W'.ownsRow B e2 k2 v2 n2 ys:=by
 refine⟨h2.1,?_⟩;rcases h2.2 with h|⟨g,cap,cur,h1,h3,h4,h5⟩
 ·exact .inl h
 ·refine .inr ⟨g,cap,cur,h1,h3,?_,h5⟩;rw[grown_keep hg ho g (Array.getElem?_eq_some_iff.1 h4).1 (fun _=>⟨_,h4,fun cs e3=>by simp at e3;exact hne e3.2.symm⟩)];exact h4
structure MkS(w0:World)(b:Nat)(x y z:Value)(g:Gr)(W:World):Prop where
 res:W.heap[b]?=some (.cells #[.slice none 0 0,.slice none 0 0,.slice none 0 0] 26 (0,0))
 box:W.heap[b+1]?=some (.cells #[x,y,z] 26 (0,0))
 v:OwnV W (b+2) x g.vs
 e:OwnEd W (b+2) y g.es
 d:OwnI W (b+2) z g.ds
 below:Below b w0 W
 sz:b+2<=W.heap.size
theorem MkS.drew{w0 W:World}{b:Nat}{x y z:Value}{g:Gr}(h:MkS w0 b x y z g W):MkS w0 b x y z g W.drew :=
 ⟨h.res,h.box,h.v,h.e,h.d,h.below.drew,h.sz⟩
theorem MkS.same{w0 W W':World}{b:Nat}{x y z:Value}{g:Gr}(h:MkS w0 b x y z g W)(hb:Below W.heap.size W W'):MkS w0 b x y z g W' :=
 ⟨(hb.block _ (by have:=h.sz;omega)).trans h.res,(hb.block _ (by have:=h.sz;omega)).trans h.box,own_below h.v hb,own_below h.e hb,own_below h.d hb,h.below.trans (hb.mono (by have:=h.sz;omega)),Nat.le_trans h.sz hb.size⟩
theorem MkS.grown{w0 W W':World}{b:Nat}{x y z v:Value}{g:Gr}{o:Obj}{e k n:Nat}{xs:List Value}(h:MkS w0 b x y z g W)(hg:(W.alloc o).grownBy W' v.ownBlock)(ho:W.ownsRow (b+2) e k v n xs):
  W'.heap[b]?=some (.cells #[.slice none 0 0,.slice none 0 0,.slice none 0 0] 26 (0,0))/\W'.heap[b+1]?=some (.cells #[x,y,z] 26 (0,0))/\Below b w0 W'/\b+2<=W'.heap.size:=by
 have hs:=h.sz;refine⟨(grown_keep hg ho b (by omega) (fun q=>absurd q (by omega))).trans h.res,(grown_keep hg ho (b+1) (by omega) (fun q=>absurd q (by omega))).trans h.box,?_,Nat.le_trans hs (grown_size hg)⟩;exact(h.below.alloc (by omega) _).grown hg (by simp;omega) (fun j hj=>by have:=(own_row ho j hj).1;omega)
theorem own_setBox{W:World}{b i:Nat}{x y z u v:Value}{B e k n:Nat}{xs:List Value}(h:W.ownsRow B e k v n xs)(_:W.heap[b]?=some (.cells #[x,y,z] 26 (0,0)))(hlt:b<B):(W.setCell ⟨b,i,none⟩ u).ownsRow B e k v n xs :=
 ownsRow_setCell_other h (fun e2=>by have:=(own_row h b e2).1;omega) u
theorem MkS.addV{w0 W:World}{b:Nat}{x y z:Value}{g:Gr}(h:MkS w0 b x y z g W)(u:Vx)(hl:g.vs.length<=1000):
  ∃x1 x2 x3 w',(Builtin.append_ #[22,22] 22 #[x,.slice (some ⟨W.heap.size,0,none⟩) 1 1]).run Tryz.prog (W.alloc (.cells #[.int .i64 u.id,.int .i64 u.side] 29))= .ok (.slice x1 x2 x3) w'/\w'.heap[b+1]?=some (.cells #[x,y,z] 26 (0,0))/\MkS w0 b (.slice x1 x2 x3) y z {g with vs:=g.vs++[u]} (w'.setCell ⟨b+1,0,none⟩ (.slice x1 x2 x3))/\ ∀j,j<W.heap.size->x.ownBlock≠some j->w'.heap[j]?=W.heap[j]?:=by
 obtain⟨i0,hi,hz0,hz1,hz2⟩:=info_parts info29;obtain⟨gg,cap,w',hr,ho,hg⟩:=snocX (b+2) 22 29 i0 _ 2 16 Tryz.underlying22 hi hz0 hz1 hz2 rfl (by omega) (by omega) W x g.vs.length (cVx g.vs) #[.int .i64 u.id,.int .i64 u.side] rfl (by simp[Value.oneCell']) h.v (by omega) h.sz;obtain⟨k1,k2,k3,k4⟩:=h.grown hg h.v;refine⟨_,_,_,w',hr,k2,?_,fun j h1 h2=>(hg.block j (by simp;omega) (fun q=>h2 q.symm)).trans (Below.heap_alloc _ _ _ h1)⟩;have hown:OwnV w' (b+2) (.slice (some ⟨gg,0,none⟩) (g.vs.length+1) cap) (g.vs++[u]):=by
  unfold OwnV;rw[List.length_append,cVx,List.flatMap_append];simpa[cVx,vxCells]using ho
 refine⟨?_,heap_setCell_same w' (b+1) 0 _ 26 _ k2,own_setBox hown k2 (by omega),own_setBox (own_grown hg h.v h.e (by decide)) k2 (by omega),own_setBox (own_grown hg h.v h.d (by decide)) k2 (by omega),k3.setCell (by simp) _,by simp;omega⟩;rw[heap_setCell_other w' ⟨b+1,0,none⟩ b _ (by simp)];exact k1
theorem MkS.addE{w0 W:World}{b:Nat}{x y z:Value}{g:Gr}(h:MkS w0 b x y z g W)(u:Ed)(hl:g.es.length<=1000):
  ∃x1 x2 x3 w',(Builtin.append_ #[23,23] 23 #[y,.slice (some ⟨W.heap.size,0,none⟩) 1 1]).run Tryz.prog (W.alloc (.cells (edCells u) 31))= .ok (.slice x1 x2 x3) w'/\w'.heap[b+1]?=some (.cells #[x,y,z] 26 (0,0))/\MkS w0 b x (.slice x1 x2 x3) z {g with es:=g.es++[u]} (w'.setCell ⟨b+1,1,none⟩ (.slice x1 x2 x3))/\ ∀j,j<W.heap.size->y.ownBlock≠some j->w'.heap[j]?=W.heap[j]?:=by
 obtain⟨i0,hi,hz0,hz1,hz2⟩:=info_parts info31;obtain⟨gg,cap,w',hr,ho,hg⟩:=snocX (b+2) 23 31 i0 _ 6 48 Tryz.underlying23 hi hz0 hz1 hz2 rfl (by omega) (by omega) W y g.es.length (cEd g.es) (edCells u) rfl (by simp[edCells,Value.oneCell']) h.e (by omega) h.sz;obtain⟨k1,k2,k3,k4⟩:=h.grown hg h.e;refine⟨_,_,_,w',hr,k2,?_,fun j h1 h2=>(hg.block j (by simp;omega) (fun q=>h2 q.symm)).trans (Below.heap_alloc _ _ _ h1)⟩;have hown:OwnEd w' (b+2) (.slice (some ⟨gg,0,none⟩) (g.es.length+1) cap) (g.es++[u]):=by
  unfold OwnEd;rw[List.length_append,cEd,List.flatMap_append];simpa[cEd]using ho
 refine⟨?_,heap_setCell_same w' (b+1) 1 _ 26 _ k2,own_setBox (own_grown hg h.e h.v (by decide)) k2 (by omega),own_setBox hown k2 (by omega),own_setBox (own_grown hg h.e h.d (by decide)) k2 (by omega),k3.setCell (by simp) _,by simp;omega⟩;rw[heap_setCell_other w' ⟨b+1,1,none⟩ b _ (by simp)];exact k1
theorem MkS.addD{w0 W:World}{b:Nat}{x y z:Value}{g:Gr}(h:MkS w0 b x y z g W)(u:Int)(hl:g.ds.length<=1000):
  ∃x1 x2 x3 w',(Builtin.append_ #[24,24] 24 #[z,.slice (some ⟨W.heap.size,0,none⟩) 1 1]).run Tryz.prog (W.alloc (.cells #[.int .i64 u] 3))= .ok (.slice x1 x2 x3) w'/\w'.heap[b+1]?=some (.cells #[x,y,z] 26 (0,0))/\MkS w0 b x y (.slice x1 x2 x3) {g with ds:=g.ds++[u]} (w'.setCell ⟨b+1,2,none⟩ (.slice x1 x2 x3))/\ ∀j,j<W.heap.size->z.ownBlock≠some j->w'.heap[j]?=W.heap[j]?:=by
 obtain⟨i0,hi,hz0,hz1,hz2⟩:=info_parts info3;obtain⟨gg,cap,w',hr,ho,hg⟩:=snocX (b+2) 24 3 i0 _ 1 8 Tryz.underlying24 hi hz0 hz1 hz2 rfl (by omega) (by omega) W z g.ds.length (cI g.ds) #[.int .i64 u] rfl (by simp[Value.oneCell']) h.d (by omega) h.sz;obtain⟨k1,k2,k3,k4⟩:=h.grown hg h.d;refine⟨_,_,_,w',hr,k2,?_,fun j h1 h2=>(hg.block j (by simp;omega) (fun q=>h2 q.symm)).trans (Below.heap_alloc _ _ _ h1)⟩;have hown:OwnI w' (b+2) (.slice (some ⟨gg,0,none⟩) (g.ds.length+1) cap) (g.ds++[u]):=by
  unfold OwnI;rw[List.length_append,cI,List.map_append];simpa[cI]using ho
 refine⟨?_,heap_setCell_same w' (b+1) 2 _ 26 _ k2,own_setBox (own_grown hg h.d h.v (by decide)) k2 (by omega),own_setBox (own_grown hg h.d h.e (by decide)) k2 (by omega),own_setBox hown k2 (by omega),k3.setCell (by simp) _,by simp;omega⟩;rw[heap_setCell_other w' ⟨b+1,2,none⟩ b _ (by simp)];exact k1
theorem eqV_run2(u v:Vx)(w:World):(binOp .eql 29 (.agg #[.int .i64 u.id,.int .i64 u.side]) (.agg #[.int .i64 v.id,.int .i64 v.side])).run Tryz.prog w= .ok (.bool (decide (u=v))) w:=by
 obtain⟨a,b⟩:=u;obtain⟨c,d⟩:=v;have e:decide ((⟨a,b⟩:Vx)=⟨c,d⟩)=(decide (a=c)&&decide (b=d)):=by rw[Bool.eq_iff_iff];simp
 rw[e];go_simp;by_cases h1:a=c<;>by_cases h2:b=d<;>simp[h1,h2]
theorem eqE_run2(u v:Ed)(w:World):(binOp .eql 31 (.agg #[.int .i64 u.id,.int .i64 u.src,.int .i64 u.dst,.bool u.dir,.int .i64 u.wt,.int .i64 u.cap]) (.agg #[.int .i64 v.id,.int .i64 v.src,.int .i64 v.dst,.bool v.dir,.int .i64 v.wt,.int .i64 v.cap])).run Tryz.prog w= .ok (.bool (decide (u=v))) w:=by
 obtain⟨a,b,c,d,f,g⟩:=u;obtain⟨a',b',c',d',f',g'⟩:=v;have e:decide ((⟨a,b,c,d,f,g⟩:Ed)=⟨a',b',c',d',f',g'⟩)=(decide (a=a')&&(decide (b=b')&&(decide (c=c')&&((d==d')&&(decide (f=f')&&decide (g=g')))))):=by
  rw[Bool.eq_iff_iff];simp
 rw[e];go_simp;by_cases h1:a=a'<;>by_cases h2:b=b'<;>by_cases h3:c=c'<;>by_cases h6:d=d'<;>by_cases h4:f=f'<;>by_cases h5:g=g'<;>simp[h1,h2,h3,h4,h5,h6]
theorem al_keep1{W:World}{k:Nat}{o p:Obj}(h:W.heap[k]?=some o):(W.alloc p).heap[k]?=some o:=by
 rw[Below.heap_alloc _ _ _ (Array.getElem?_eq_some_iff.1 h).1];exact h
theorem two_chs(w w1:World)(c d:Ch)(a b a' b':Value)(hw1:w1=(w.alloc (.cells (chCells c a b) 33)).alloc (.cells (chCells d a' b') 33)):
  Below w.heap.size w w1/\ ∀W,Below w1.heap.size w1 W->W.heap[w.heap.size]?=some (.cells (chCells c a b) 33 (0,0))/\W.heap[w.heap.size+1]?=some (.cells (chCells d a' b') 33 (0,0)):=by
 have hz:w1.heap.size=w.heap.size+2:=by rw[hw1];simp
 refine⟨by rw[hw1];exact((Below.refl _ w).alloc (Nat.le_refl _) _).alloc (by simp) _,fun W B=>⟨?_,?_⟩⟩
 ·rw[B.block _ (by omega),hw1];exact al_keep1 (heap_alloc_new w _)
 ·rw[B.block _ (by omega),hw1];have:=heap_alloc_new (w.alloc (.cells (chCells c a b) 33)) (.cells (chCells d a' b') 33);simpa using this
def sameC(c d:Ch):Bool:=decide (c.kind=d.kind)&&decide (c.v=d.v)&&decide (c.e=d.e)&&decide (c.id=d.id)&&decide (c.n=d.n)&&decide (c.ends=d.ends)&&decide (c.deps=d.deps)
theorem sameC_iff(c d:Ch):sameC c d=true↔c=d:=by
 unfold sameC;obtain⟨a1,a2,a3,a4,a5,a6,a7⟩:=c;obtain⟨b1,b2,b3,b4,b5,b6,b7⟩:=d;simp only[Bool.and_eq_true,decide_eq_true_eq,Ch.mk.injEq];constructor
 ·rintro⟨⟨⟨⟨⟨⟨h1,h2⟩,h3⟩,h4⟩,h5⟩,h6⟩,h7⟩;exact⟨h1,h2,h3,h4,h5,h6,h7⟩
 ·rintro⟨h1,h2,h3,h4,h5,h6,h7⟩;exact⟨⟨⟨⟨⟨⟨h1,h2⟩,h3⟩,h4⟩,h5⟩,h6⟩,h7⟩
theorem SameChange_any(v v':Value)(c d:Ch)(w:World)(hv:CV w v c)(hv':CV w v' d)(hn:c.ends.length<=1000000/\c.deps.length<=1000000)(hm:d.ends.length<=1000000/\d.deps.length<=1000000):
  Calls Tryz.prog 40 #[v,v'] w fun e w'=>e= .returned (.bool (sameC c d))/\Below w.heap.size w w':=by
 obtain⟨a,b,rfl,h1,h2⟩:=hv;obtain⟨a',b',rfl,g1,g2⟩:=hv';obtain⟨w1,hw1⟩:∃w1,w1=(w.alloc (.cells (chCells c a b) 33)).alloc (.cells (chCells d a' b') 33):=⟨_,rfl⟩;obtain⟨hB,hbox⟩:=two_chs w w1 c d a b a' b' hw1;have hcell:=Hd (fun W (B:Below w1.heap.size w1 W)=>And.intro (ch_cells (hbox W B).1) (ch_cells (hbox W B).2));have hB0:=Hd (fun W (B:Below w1.heap.size w1 W)=>hB.trans (B.mono hB.size));have k1:=Hd (fun w' (B:Below w1.heap.size w1 w')=>Ints_any a a' c.ends d.ends w' ((h1.below hB).below B) ((g1.below hB).below B) (by omega) (by omega));have k2:=Hd (fun w' (B:Below w1.heap.size w1 w')=>Ints_any b b' c.deps d.deps w' ((h2.below hB).below B) ((g2.below hB).below B) (by omega) (by omega));have ev:∀w,(binOp .eql 29 (.agg #[.int .i64 c.v.id,.int .i64 c.v.side]) (.agg #[.int .i64 d.v.id,.int .i64 d.v.side])).run Tryz.prog w= .ok (.bool (decide (c.v=d.v))) w:=eqV_run2 _ _;have ee:∀w,(binOp .eql 31 (.agg #[.int .i64 c.e.id,.int .i64 c.e.src,.int .i64 c.e.dst,.bool c.e.dir,.int .i64 c.e.wt,.int .i64 c.e.cap]) (.agg #[.int .i64 d.e.id,.int .i64 d.e.src,.int .i64 d.e.dst,.bool d.e.dir,.int .i64 d.e.wt,.int .i64 d.e.cap])).run Tryz.prog w= .ok (.bool (decide (c.e=d.e))) w:=eqE_run2 _ _;obtain⟨a1,a2,hae⟩:=h1.shape;obtain⟨b1,b2,hbe⟩:=h2.shape;obtain⟨a3,a4,hae'⟩:=g1.shape;obtain⟨b3,b4,hbe'⟩:=g2.shape;have hs:Hid (sameC c d=(decide (c.kind=d.kind)&&decide (c.v=d.v)&&decide (c.e=d.e)&&decide (c.id=d.id)&&decide (c.n=d.n)&&decide (c.ends=d.ends)&&decide (c.deps=d.deps))):=rfl;have e0:(c.kind==d.kind)=decide (c.kind=d.kind):=rfl;have e3:(c.id==d.id)=decide (c.id=d.id):=rfl;have e4:(c.n==d.n)=decide (c.n=d.n):=rfl;generalize sameC c d=R at *
 generalize decide (c.kind=d.kind)=x0 at *
 generalize decide (c.v=d.v)=x1 at *
 generalize decide (c.e=d.e)=x2 at *
 generalize decide (c.id=d.id)=x3 at *
 generalize decide (c.n=d.n)=x4 at *
 generalize decide (c.ends=d.ends)=x5 at *
 generalize decide (c.deps=d.deps)=x6 at *
 have B1:=Below.refl w1.heap.size w1;have hw2:=Hd hw1;clear hw1 hn hm hB hbox h1 h2 g1 g2;unfold chCells at hw2 ⊢;subst hae hbe hae' hbe';generalize c.ends.length=n1 at *
 generalize c.deps.length=n2 at *
 generalize d.ends.length=n3 at *
 generalize d.deps.length=n4 at *
 cases x0 with
 | false =>
  have hr:Hid (R=false):=by show _=_;rw[hs.out];simp
  clear hs;go_enter Tryz.func40,Tryz.ntmps40;go_wp2_with fail;go_ret;refine⟨ret_bool hr.out.symm,?_⟩;have:=hB0.out _ B1;rw[hw2.out]at this;exact this
 | true =>
  cases x1 with
  | false =>
   have hr:Hid (R=false):=by show _=_;rw[hs.out];simp
   clear hs;go_enter Tryz.func40,Tryz.ntmps40;go_wp2_with fail;go_ret;refine⟨ret_bool hr.out.symm,?_⟩;have:=hB0.out _ B1;rw[hw2.out]at this;exact this
  | true =>
   cases x2 with
   | false =>
    have hr:Hid (R=false):=by show _=_;rw[hs.out];simp
    clear hs;go_enter Tryz.func40,Tryz.ntmps40;go_wp2_with fail;go_ret;refine⟨ret_bool hr.out.symm,?_⟩;have:=hB0.out _ B1;rw[hw2.out]at this;exact this
   | true =>
    cases x3 with
    | false =>
     have hr:Hid (R=false):=by show _=_;rw[hs.out];simp
     clear hs;go_enter Tryz.func40,Tryz.ntmps40;go_wp2_with fail;go_ret;refine⟨ret_bool hr.out.symm,?_⟩;have:=hB0.out _ B1;rw[hw2.out]at this;exact this
    | true =>
     cases x4 with
     | false =>
      have hr:Hid (R=false):=by show _=_;rw[hs.out];simp
      clear hs;go_enter Tryz.func40,Tryz.ntmps40;go_wp2_with fail;go_ret;refine⟨ret_bool hr.out.symm,?_⟩;have:=hB0.out _ B1;rw[hw2.out]at this;exact this
     | true =>
      have hR:Hid (R=(x5&&x6)):=by show _=_;rw[hs.out];simp
      clear hs;cases x5 with
      | false =>
       go_enter Tryz.func40,Tryz.ntmps40;go_wp2_with fail;rw[<-hw2.out];refine(k1.out _ B1).mono ?_;rintro e w2 ⟨rfl,b2⟩;have B2:=B1.trans (b2.mono B1.size);obtain⟨⟨q0,q1,q2,q3,q4,q5,q6,q7,q8,q9,q10,q11,q12⟩,⟨p0,p1,p2,p3,p4,p5,p6,p7,p8,p9,p10,p11,p12⟩⟩:=hcell.out _ B2;go_wp2_with fail;go_ret;exact⟨ret_bool (by rw[hR.out];rfl),hB0.out _ B2⟩
      | true =>
       go_enter Tryz.func40,Tryz.ntmps40;go_wp2_with fail;rw[<-hw2.out];refine(k1.out _ B1).mono ?_;rintro e w2 ⟨rfl,b2⟩;have B2:=B1.trans (b2.mono B1.size);obtain⟨⟨q0,q1,q2,q3,q4,q5,q6,q7,q8,q9,q10,q11,q12⟩,⟨p0,p1,p2,p3,p4,p5,p6,p7,p8,p9,p10,p11,p12⟩⟩:=hcell.out _ B2;go_wp2_with fail;clear q0 q1 q2 q3 q4 q5 q6 q7 q8 q9 q10 q11 q12 p0 p1 p2 p3 p4 p5 p6 p7 p8 p9 p10 p11 p12;refine(k2.out _ B2).mono ?_;rintro e w3 ⟨rfl,b3⟩;have B3:=B2.trans (b3.mono B2.size);obtain⟨⟨q0,q1,q2,q3,q4,q5,q6,q7,q8,q9,q10,q11,q12⟩,⟨p0,p1,p2,p3,p4,p5,p6,p7,p8,p9,p10,p11,p12⟩⟩:=hcell.out _ B3;go_wp2_with fail;go_ret;exact⟨ret_bool (by rw[hR.out];rfl),hB0.out _ B3⟩
end Go.Proofs.YtlaldnlgapeckaaGreat
