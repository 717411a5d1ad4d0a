/- Facts. -/
import Derived.Laws.StructEq
import Derived.Test.YtlnbobclbaieoaaUNVYK
set_option maxRecDepth 100000
set_option maxHeartbeats 4000000
namespace Go.Proofs.Ytlnbobclbaieoaa
open Go.RowKit
theorem snocX(B:Nat)(T e:TypeId)(i0:TypeInfo)(z:Value)(k by_:Nat)(hT:Try.prog.underlying T=some (.slice e))(hi:Try.prog.info? e=some i0)(hz:i0.zero=some z)(hk:i0.size=k)(hby:i0.bytes=by_)(hzs:z.cells.size=k)(h0:0<k)(hb48:by_<=200)
  (W:World) (v:Value) (n:Nat) (xs:List Value) (cs:Array Value) (hcs:cs.size=k) (hall:∀u∈cs.toList,u.oneCell'=true) (hown:W.ownsRow B e k v n xs) (hn:n<=1000000) (hB:B<=W.heap.size) :
  ∃g cap w',(Builtin.append_ #[T,T] T #[v,.slice (some ⟨W.heap.size,0,none⟩) 1 1]).run Try.prog (W.alloc (.cells cs e))= .ok (.slice (some ⟨g,0,none⟩) (n+1) cap) w'/\w'.ownsRow B e k (.slice (some ⟨g,0,none⟩) (n+1) cap) (n+1) (xs++cs.toList)/\(W.alloc (.cells cs e)).grownBy w' v.ownBlock:=by
 have hmul:(n+1)*by_<=1000001*200:=Nat.mul_le_mul (by omega) hb48;obtain⟨g,cap,w',hr,ho,hg,_,_⟩:=run_append_lies (P:=Try.prog) (W.alloc (.cells cs e)) T T B e i0 z k by_ hT hi hz hk hby hzs h0 v n xs (hown.alloc _) ⟨W.heap.size,0,none⟩ 1 1 cs.toList (by simp[hcs])
  (World.news_of_block (cs:=cs) (t:=e) (fr:=(0,0)) (heap_alloc_new W _)) hall (by omega) (by unfold maxLen;omega) (by omega) (by simp;omega) (W.heap.size+1) (by simp)
 exact⟨g,cap,w',hr,ho,hg⟩
theorem grown_keep{W W':World}{o:Obj}{v:Value}{B e k n:Nat}{xs:List Value}(hg:(W.alloc o).grownBy W' v.ownBlock)(ho:W.ownsRow B e k v n xs)(j:Nat)(hj:j<W.heap.size)(hne:B<=j->∃p,W.heap[j]?=some p/\ ∀cs,p≠ .cells cs e (0,0)):W'.heap[j]?=W.heap[j]?:=by
 rw[hg.block j (by simp;omega) (fun q=>?_)]
 ·exact Below.heap_alloc _ _ _ hj
 ·obtain⟨q1,cur,q2⟩:=own_row ho j q.symm;obtain⟨p,hp,hno⟩:=hne q1;rw[q2]at hp;injection hp with hp
  exact hno cur hp.symm
theorem grown_size{W W':World}{o:Obj}{r:Option Nat}(hg:(W.alloc o).grownBy W' r):W.heap.size<=W'.heap.size:=by
 have:=((Below.refl 0 _).grown hg (Nat.zero_le _) (fun j hj=>Nat.zero_le _)).size;simp at this;omega
theorem own_grown{W W':World}{o:Obj}{v v2:Value}{B e e2 k k2 n n2:Nat}{xs ys:List Value}(hg:(W.alloc o).grownBy W' v.ownBlock)(ho:W.ownsRow B e k v n xs)(h2:W.ownsRow B e2 k2 v2 n2 ys)(hne:e≠e2):W'.ownsRow B e2 k2 v2 n2 ys:=by
 refine⟨h2.1,?_⟩;rcases h2.2 with h|⟨g,cap,cur,h1,h3,h4,h5⟩
 ·exact .inl h
 ·refine .inr ⟨g,cap,cur,h1,h3,?_,h5⟩;rw[grown_keep hg ho g (Array.getElem?_eq_some_iff.1 h4).1 (fun _=>⟨_,h4,fun cs e3=>by simp at e3;exact hne e3.2.symm⟩)];exact h4
structure MkS(w0:World)(b:Nat)(x y z:Value)(g:Gr)(W:World):Prop where
 res:W.heap[b]?=some (.cells #[.slice none 0 0,.slice none 0 0,.slice none 0 0] 28 (0,0))
 box:W.heap[b+1]?=some (.cells #[x,y,z] 28 (0,0))
 v:OwnV W (b+2) x g.vs
 e:OwnEd W (b+2) y g.es
 d:OwnI W (b+2) z g.ds
 below:Below b w0 W
 sz:b+2<=W.heap.size
theorem MkS.drew{w0 W:World}{b:Nat}{x y z:Value}{g:Gr}(h:MkS w0 b x y z g W):MkS w0 b x y z g W.drew :=
 ⟨h.res,h.box,h.v,h.e,h.d,h.below.drew,h.sz⟩
theorem MkS.same{w0 W W':World}{b:Nat}{x y z:Value}{g:Gr}(h:MkS w0 b x y z g W)(hb:Below W.heap.size W W'):MkS w0 b x y z g W' :=
 ⟨(hb.block _ (by have:=h.sz;omega)).trans h.res,(hb.block _ (by have:=h.sz;omega)).trans h.box,own_below h.v hb,own_below h.e hb,own_below h.d hb,h.below.trans (hb.mono (by have:=h.sz;omega)),Nat.le_trans h.sz hb.size⟩
theorem MkS.grown{w0 W W':World}{b:Nat}{x y z v:Value}{g:Gr}{o:Obj}{e k n:Nat}{xs:List Value}(h:MkS w0 b x y z g W)(hg:(W.alloc o).grownBy W' v.ownBlock)(ho:W.ownsRow (b+2) e k v n xs):
  W'.heap[b]?=some (.cells #[.slice none 0 0,.slice none 0 0,.slice none 0 0] 28 (0,0))/\W'.heap[b+1]?=some (.cells #[x,y,z] 28 (0,0))/\Below b w0 W'/\b+2<=W'.heap.size:=by
 have hs:=h.sz;refine⟨(grown_keep hg ho b (by omega) (fun q=>absurd q (by omega))).trans h.res,(grown_keep hg ho (b+1) (by omega) (fun q=>absurd q (by omega))).trans h.box,?_,Nat.le_trans hs (grown_size hg)⟩;exact(h.below.alloc (by omega) _).grown hg (by simp;omega) (fun j hj=>by have:=(own_row ho j hj).1;omega)
theorem own_setBox{W:World}{b i:Nat}{x y z u v:Value}{B e k n:Nat}{xs:List Value}(h:W.ownsRow B e k v n xs)(_:W.heap[b]?=some (.cells #[x,y,z] 28 (0,0)))(hlt:b<B):(W.setCell ⟨b,i,none⟩ u).ownsRow B e k v n xs :=
 ownsRow_setCell_other h (fun e2=>by have:=(own_row h b e2).1;omega) u
theorem MkS.addV{w0 W:World}{b:Nat}{x y z:Value}{g:Gr}(h:MkS w0 b x y z g W)(u:Vx)(hl:g.vs.length<=1000):
  ∃x1 x2 x3 w',(Builtin.append_ #[24,24] 24 #[x,.slice (some ⟨W.heap.size,0,none⟩) 1 1]).run Try.prog (W.alloc (.cells #[.int .i64 u.id,.int .i64 u.side] 31))= .ok (.slice x1 x2 x3) w'/\w'.heap[b+1]?=some (.cells #[x,y,z] 28 (0,0))/\MkS w0 b (.slice x1 x2 x3) y z {g with vs:=g.vs++[u]} (w'.setCell ⟨b+1,0,none⟩ (.slice x1 x2 x3))/\ ∀j,j<W.heap.size->x.ownBlock≠some j->w'.heap[j]?=W.heap[j]?:=by
 obtain⟨i0,hi,hz0,hz1,hz2⟩:=info_parts info29;obtain⟨gg,cap,w',hr,ho,hg⟩:=snocX (b+2) 24 31 i0 _ 2 16 Try.underlying24 hi hz0 hz1 hz2 rfl (by omega) (by omega) W x g.vs.length (cVx g.vs) #[.int .i64 u.id,.int .i64 u.side] rfl (by simp[Value.oneCell']) h.v (by omega) h.sz;obtain⟨k1,k2,k3,k4⟩:=h.grown hg h.v;refine⟨_,_,_,w',hr,k2,?_,fun j h1 h2=>(hg.block j (by simp;omega) (fun q=>h2 q.symm)).trans (Below.heap_alloc _ _ _ h1)⟩;have hown:OwnV w' (b+2) (.slice (some ⟨gg,0,none⟩) (g.vs.length+1) cap) (g.vs++[u]):=by
  unfold OwnV;rw[List.length_append,cVx,List.flatMap_append];simpa[cVx,vxCells]using ho
 refine⟨?_,heap_setCell_same w' (b+1) 0 _ 28 _ k2,own_setBox hown k2 (by omega),own_setBox (own_grown hg h.v h.e (by decide)) k2 (by omega),own_setBox (own_grown hg h.v h.d (by decide)) k2 (by omega),k3.setCell (by simp) _,by simp;omega⟩;rw[heap_setCell_other w' ⟨b+1,0,none⟩ b _ (by simp)];exact k1
theorem MkS.addE{w0 W:World}{b:Nat}{x y z:Value}{g:Gr}(h:MkS w0 b x y z g W)(u:Ed)(hl:g.es.length<=1000):
  ∃x1 x2 x3 w',(Builtin.append_ #[25,25] 25 #[y,.slice (some ⟨W.heap.size,0,none⟩) 1 1]).run Try.prog (W.alloc (.cells (edCells u) 40))= .ok (.slice x1 x2 x3) w'/\w'.heap[b+1]?=some (.cells #[x,y,z] 28 (0,0))/\MkS w0 b x (.slice x1 x2 x3) z {g with es:=g.es++[u]} (w'.setCell ⟨b+1,1,none⟩ (.slice x1 x2 x3))/\ ∀j,j<W.heap.size->y.ownBlock≠some j->w'.heap[j]?=W.heap[j]?:=by
 obtain⟨i0,hi,hz0,hz1,hz2⟩:=info_parts info31;obtain⟨gg,cap,w',hr,ho,hg⟩:=snocX (b+2) 25 40 i0 _ 6 48 Try.underlying25 hi hz0 hz1 hz2 rfl (by omega) (by omega) W y g.es.length (cEd g.es) (edCells u) rfl (by simp[edCells,Value.oneCell']) h.e (by omega) h.sz;obtain⟨k1,k2,k3,k4⟩:=h.grown hg h.e;refine⟨_,_,_,w',hr,k2,?_,fun j h1 h2=>(hg.block j (by simp;omega) (fun q=>h2 q.symm)).trans (Below.heap_alloc _ _ _ h1)⟩;have hown:OwnEd w' (b+2) (.slice (some ⟨gg,0,none⟩) (g.es.length+1) cap) (g.es++[u]):=by
  unfold OwnEd;rw[List.length_append,cEd,List.flatMap_append];simpa[cEd]using ho
 refine⟨?_,heap_setCell_same w' (b+1) 1 _ 28 _ k2,own_setBox (own_grown hg h.e h.v (by decide)) k2 (by omega),own_setBox hown k2 (by omega),own_setBox (own_grown hg h.e h.d (by decide)) k2 (by omega),k3.setCell (by simp) _,by simp;omega⟩;rw[heap_setCell_other w' ⟨b+1,1,none⟩ b _ (by simp)];exact k1
theorem MkS.addD{w0 W:World}{b:Nat}{x y z:Value}{g:Gr}(h:MkS w0 b x y z g W)(u:Int)(hl:g.ds.length<=1000):
  ∃x1 x2 x3 w',(Builtin.append_ #[26,26] 26 #[z,.slice (some ⟨W.heap.size,0,none⟩) 1 1]).run Try.prog (W.alloc (.cells #[.int .i64 u] 3))= .ok (.slice x1 x2 x3) w'/\w'.heap[b+1]?=some (.cells #[x,y,z] 28 (0,0))/\MkS w0 b x y (.slice x1 x2 x3) {g with ds:=g.ds++[u]} (w'.setCell ⟨b+1,2,none⟩ (.slice x1 x2 x3))/\ ∀j,j<W.heap.size->z.ownBlock≠some j->w'.heap[j]?=W.heap[j]?:=by
 obtain⟨i0,hi,hz0,hz1,hz2⟩:=info_parts info3;obtain⟨gg,cap,w',hr,ho,hg⟩:=snocX (b+2) 26 3 i0 _ 1 8 Try.underlying26 hi hz0 hz1 hz2 rfl (by omega) (by omega) W z g.ds.length (cI g.ds) #[.int .i64 u] rfl (by simp[Value.oneCell']) h.d (by omega) h.sz;obtain⟨k1,k2,k3,k4⟩:=h.grown hg h.d;refine⟨_,_,_,w',hr,k2,?_,fun j h1 h2=>(hg.block j (by simp;omega) (fun q=>h2 q.symm)).trans (Below.heap_alloc _ _ _ h1)⟩;have hown:OwnI w' (b+2) (.slice (some ⟨gg,0,none⟩) (g.ds.length+1) cap) (g.ds++[u]):=by
  unfold OwnI;rw[List.length_append,cI,List.map_append];simpa[cI]using ho
 refine⟨?_,heap_setCell_same w' (b+1) 2 _ 28 _ k2,own_setBox (own_grown hg h.d h.v (by decide)) k2 (by omega),own_setBox (own_grown hg h.d h.e (by decide)) k2 (by omega),own_setBox hown k2 (by omega),k3.setCell (by simp) _,by simp;omega⟩;rw[heap_setCell_other w' ⟨b+1,2,none⟩ b _ (by simp)];exact k1
theorem al_keep1{W:World}{k:Nat}{o p:Obj}(h:W.heap[k]?=some o):(W.alloc p).heap[k]?=some o:=by
 rw[Below.heap_alloc _ _ _ (Array.getElem?_eq_some_iff.1 h).1];exact h
end Go.Proofs.Ytlnbobclbaieoaa
