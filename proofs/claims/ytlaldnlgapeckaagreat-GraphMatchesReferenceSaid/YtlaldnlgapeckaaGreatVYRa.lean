/- Facts. -/
import Derived.Test.YtlaldnlgapeckaaGreatVYRf
set_option linter.unusedSimpArgs false
set_option maxRecDepth 100000
set_option maxHeartbeats 4000000
namespace Go.Proofs.YtlaldnlgapeckaaGreat
open Go.RowKit
def RowGe(B:Nat)(v:Value):Prop:=∀k,v.ownBlock=some k->B<=k
theorem own_ge{W:World}{B e k n:Nat}{v:Value}{xs:List Value}(h:W.ownsRow B e k v n xs):RowGe B v:=fun j hj=>(own_row h j hj).1
theorem rowGe_at{B gb n c:Nat}(h:B<=gb):RowGe B (.slice (some ⟨gb,0,none⟩) n c):=fun j hj=>by simp[Value.ownBlock]at hj;omega
def K26(w0 w':World):Prop:=∀(k:Nat) (cs:Array Value),w0.heap[k]?=some (Obj.cells cs 26 (0,0))->w'.heap[k]?=some (Obj.cells cs 26 (0,0))
def BelK(B0:Nat)(w0 w':World):Prop:=Below B0 w0 w'/\K26 w0 w'
theorem BelK.of{B0 B:Nat}{w0 W:World}(h:Below B w0 W)(hB:B=w0.heap.size)(hB0:B0<=B):BelK B0 w0 W :=
 ⟨h.mono hB0,fun k cs e=>(h.block k (by rw[hB];exact(Array.getElem?_eq_some_iff.1 e).1)).trans e⟩
theorem belK_no{B0 B:Nat}{w0 w1 W:World}(hBw:Below B w0 w1)(hB:B=w0.heap.size)(hB0:B0<=B)(hs:B<=w1.heap.size)(BB:Below w1.heap.size w1 W)(cs:Array Value):BelK B0 w0 (W.setRow (B+2) cs) :=
 BelK.of (below_row (hBw.trans (BB.mono hs)) (by omega) cs) hB hB0
theorem belK_at{B0 B gb:Nat}{w0 w4 W:World}(h4:Below B w0 w4)(hB:B=w0.heap.size)(hB0:B0<=B)(hb:Below B0 w0 W)(hne:∀cs,w4.heap[gb]?≠some (.cells cs 26 (0,0)))(hoth:∀j,j<w4.heap.size->j≠gb->W.heap[j]?=w4.heap[j]?)(cs:Array Value):BelK B0 w0 (W.setRow (B+2) cs):=by
 refine⟨below_row hb (by omega) cs,fun k c e=>?_⟩;have hk:k<w0.heap.size:=(Array.getElem?_eq_some_iff.1 e).1;have e4:=(h4.block k (by omega)).trans e;rw[setRow_other _ _ _ _ (by omega),hoth k (Array.getElem?_eq_some_iff.1 e4).1 (fun q=>by subst q;exact hne c e4)];exact e4
def RowsGe(B:Nat)(r:Value):Prop:=∀a b c,r= .agg #[a,b,c]->RowGe B a/\RowGe B b/\RowGe B c
def ActR(g:Gr)(c:Ch)(B0:Nat)(w0:World)(e:Ending)(w':World):Prop :=
 ∃r,(match actK g c with|some (g',_)=>e= .returned (.tuple #[r,.bool true])/\GV w' r g'/\RowsGe B0 r|none=>e= .returned (.tuple #[r,.bool false]))/\(∃a1 n1 d1 a2 n2 d2 a3 n3 d3,r= .agg #[.slice a1 n1 d1,.slice a2 n2 d2,.slice a3 n3 d3])/\BelK B0 w0 w'
theorem ActR.no{g:Gr}{c:Ch}{B0:Nat}{w0 w':World}{e:Ending}{a1 a2 a3:Option Addr}{n1 n2 n3 d1 d2 d3:Nat}(h:actK g c=none)(he:e= .returned (.tuple #[.agg #[.slice a1 n1 d1,.slice a2 n2 d2,.slice a3 n3 d3],.bool false]))(hb:BelK B0 w0 w'):ActR g c B0 w0 e w' :=
 ⟨_,by rw[h];exact he,⟨_,_,_,_,_,_,_,_,_,rfl⟩,hb⟩
theorem ActR.yes{g g':Gr}{c u:Ch}{B0:Nat}{w0 w':World}{e:Ending}{a1 a2 a3:Option Addr}{n1 n2 n3 d1 d2 d3:Nat}(h:actK g c=some (g',u))(he:e= .returned (.tuple #[.agg #[.slice a1 n1 d1,.slice a2 n2 d2,.slice a3 n3 d3],.bool true]))(hg:GV w' (.agg #[.slice a1 n1 d1,.slice a2 n2 d2,.slice a3 n3 d3]) g')(hk:RowGe B0 (.slice a1 n1 d1)/\RowGe B0 (.slice a2 n2 d2)/\RowGe B0 (.slice a3 n3 d3))(hb:BelK B0 w0 w'):ActR g c B0 w0 e w' :=
 ⟨_,by rw[h];exact⟨he,hg,fun a b c e=>by injection e with e;simp at e;obtain⟨rfl,rfl,rfl⟩:=e;exact hk⟩,⟨_,_,_,_,_,_,_,_,_,rfl⟩,hb⟩
def NoInt(cs:Array Value):Prop:=∀(i:Nat) (n:Int),cs[i]?≠some (Value.int .i64 n)
theorem noInt3(a b c:Option Addr)(n1 n2 n3 d1 d2 d3:Nat):NoInt #[.slice a n1 d1,.slice b n2 d2,.slice c n3 d3]:=by
 intro i n h;have hi:i<3:=(Array.getElem?_eq_some_iff.1 h).1;have:i=0\/i=1\/i=2:=by omega
 rcases this with rfl|rfl|rfl<;>simp at h
theorem not_int{W:World}{q i:Nat}{cs:Array Value}{t:TypeId}{n:Int}(h:W.heap[q]?=some (.cells cs t (0,0)))(hn:NoInt cs):W.cell? ⟨q,i,none⟩≠some (.int .i64 n):=by
 rw[cell_of_row _ _ _ _ _ _ h];exact hn i n
theorem VL.apart{W W':World}{v:Value}{l:List Vx}{q:Nat}{cs:Array Value}{t:TypeId}(h:VL W v l)(hq:W.heap[q]?=some (.cells cs t (0,0)))(hn:NoInt cs)(hk:∀k,k≠q->W'.heap[k]?=W.heap[k]?)(hs:W.heap.size<=W'.heap.size):VL W' v l:=by
 rcases h with h|⟨h0,b,o,c,rfl,h2,h3,h4⟩
 ·exact .inl h
 ·have hb:b≠q:=fun e=>by
   subst e;cases l with
   | nil=>exact h0 rfl
   | cons u l'=>exact not_int hq hn (h4 0 u rfl).1
  exact .inr ⟨h0,b,o,c,rfl,h2,Nat.lt_of_lt_of_le h3 hs,fun j x hx=>by rw[keep_cell (hk b hb),keep_cell (hk b hb)];exact h4 j x hx⟩
theorem EL.apart{W W':World}{v:Value}{l:List Ed}{q:Nat}{cs:Array Value}{t:TypeId}(h:EL W v l)(hq:W.heap[q]?=some (.cells cs t (0,0)))(hn:NoInt cs)(hk:∀k,k≠q->W'.heap[k]?=W.heap[k]?)(hs:W.heap.size<=W'.heap.size):EL W' v l:=by
 rcases h with h|⟨h0,b,o,c,rfl,h2,h3,h4⟩
 ·exact .inl h
 ·have hb:b≠q:=fun e=>by
   subst e;cases l with
   | nil=>exact h0 rfl
   | cons u l'=>exact not_int hq hn (h4 0 u rfl).1
  refine .inr ⟨h0,b,o,c,rfl,h2,Nat.lt_of_lt_of_le h3 hs,fun j x hx=>?_⟩;obtain⟨d0,d1,d2,d3,d4,d5⟩:=h4 j x hx;exact⟨by rw[keep_cell (hk b hb)];exact d0,by rw[keep_cell (hk b hb)];exact d1,by rw[keep_cell (hk b hb)];exact d2,by rw[keep_cell (hk b hb)];exact d3,by rw[keep_cell (hk b hb)];exact d4,by rw[keep_cell (hk b hb)];exact d5⟩
theorem DL.apart{W W':World}{v:Value}{l:List Int}{q:Nat}{cs:Array Value}{t:TypeId}(h:DL W v l)(hq:W.heap[q]?=some (.cells cs t (0,0)))(hn:NoInt cs)(hk:∀k,k≠q->W'.heap[k]?=W.heap[k]?)(hs:W.heap.size<=W'.heap.size):DL W' v l:=by
 rcases h with h|⟨h0,b,o,c,rfl,h2,h3,h4⟩
 ·exact .inl h
 ·have hb:b≠q:=fun e=>by
   subst e;cases l with
   | nil=>exact h0 rfl
   | cons u l'=>exact not_int hq hn (h4 0 u rfl)
  exact .inr ⟨h0,b,o,c,rfl,h2,Nat.lt_of_lt_of_le h3 hs,fun j x hx=>by rw[keep_cell (hk b hb)];exact h4 j x hx⟩
theorem GV.apart{W W':World}{v:Value}{g:Gr}{q:Nat}{cs:Array Value}{t:TypeId}(h:GV W v g)(hq:W.heap[q]?=some (.cells cs t (0,0)))(hn:NoInt cs)(hk:∀k,k≠q->W'.heap[k]?=W.heap[k]?)(hs:W.heap.size<=W'.heap.size):GV W' v g:=by
 obtain⟨a,b,c,e,h1,h2,h3⟩:=h;exact⟨a,b,c,e,h1.apart hq hn hk hs,h2.apart hq hn hk hs,h3.apart hq hn hk hs⟩
theorem GV.shut{W:World}{v:Value}{g:Gr}{q:Nat}{o:Obj}{a b c:Option Addr}{n1 n2 n3 d1 d2 d3:Nat}(h:GV W v g)(hq:W.heap[q]?=some (.cells #[.slice a n1 d1,.slice b n2 d2,.slice c n3 d3] 26 (0,0)))(cs:Array Value):GV ((W.alloc o).setRow q cs) v g :=
 (h.below ((Below.refl _ W).alloc (Nat.le_refl _) o)).apart (al_keep1 hq) (noInt3 _ _ _ _ _ _ _ _ _) (fun k hk=>setRow_other _ _ _ _ hk) (by simp)
theorem GV.shut0{W:World}{v:Value}{g:Gr}{q:Nat}{a b c:Option Addr}{n1 n2 n3 d1 d2 d3:Nat}(h:GV W v g)(hq:W.heap[q]?=some (.cells #[.slice a n1 d1,.slice b n2 d2,.slice c n3 d3] 26 (0,0)))(cs:Array Value):GV (W.setRow q cs) v g :=
 h.apart hq (noInt3 _ _ _ _ _ _ _ _ _) (fun k hk=>setRow_other _ _ _ _ hk) (by simp)
theorem act_pre(K:Int){g:Gr}{c:Ch}{B0:Nat}{w0:World}{a1 b1 c1 e1 f1:Option Addr}{N1 N2 N3 m1 m2 a2 b2 c2 e2 f2:Nat}(h1:OwnV w0 B0 (.slice a1 N1 a2) g.vs)(h2:OwnEd w0 B0 (.slice b1 N2 b2) g.es)(h3:OwnI w0 B0 (.slice c1 N3 c2) g.ds)(h4:DL w0 (.slice e1 m1 e2) c.ends)(h5:DL w0 (.slice f1 m2 f2) c.deps)(hN1:N1=g.vs.length)(hN2:N2=g.es.length)(z1:N1<=24)(z2:N2<=40)(hB0:B0<=w0.heap.size):
  ∃(B:Nat) (w1:World),Hid (B=w0.heap.size)/\Hid (w1=((w0.alloc (.cells #[.slice a1 N1 a2,.slice b1 N2 b2,.slice c1 N3 c2] 26)).alloc (.cells #[.int .i64 K,.int .i64 c.v.id,.int .i64 c.v.side,.int .i64 c.e.id,.int .i64 c.e.src,.int .i64 c.e.dst,.bool c.e.dir,.int .i64 c.e.wt,.int .i64 c.e.cap,.int .i64 c.id,.int .i64 c.n,.slice e1 m1 e2,.slice f1 m2 f2] 33)).alloc (.cells #[.slice none 0 0,.slice none 0 0,.slice none 0 0] 26))/\w1.heap.size=B+3/\B0<=B/\Hid (Below B w0 w1)/\Hid (w1.heap[B]?=some (.cells #[.slice a1 N1 a2,.slice b1 N2 b2,.slice c1 N3 c2] 26 (0,0)))/\Hid (w1.heap[B+1]?=some (.cells #[.int .i64 K,.int .i64 c.v.id,.int .i64 c.v.side,.int .i64 c.e.id,.int .i64 c.e.src,.int .i64 c.e.dst,.bool c.e.dir,.int .i64 c.e.wt,.int .i64 c.e.cap,.int .i64 c.id,.int .i64 c.n,.slice e1 m1 e2,.slice f1 m2 f2] 33 (0,0)))/\Hid (w1.heap[B+2]?=some (.cells #[.slice none 0 0,.slice none 0 0,.slice none 0 0] 26 (0,0))) /\
   Hid (∀W,Below w1.heap.size w1 W->OwnV W B0 (.slice a1 N1 a2) g.vs)/\Hid (∀W,Below w1.heap.size w1 W->OwnEd W B0 (.slice b1 N2 b2) g.es)/\Hid (∀W,Below w1.heap.size w1 W->OwnI W B0 (.slice c1 N3 c2) g.ds)/\Hid (∀W,Below w1.heap.size w1 W->DL W (.slice e1 m1 e2) c.ends)/\Hid (∀W,Below w1.heap.size w1 W->DL W (.slice f1 m2 f2) c.deps) /\
   Hid (∀W,Below w1.heap.size w1 W->GV W (.agg #[.slice a1 N1 a2,.slice b1 N2 b2,.slice c1 N3 c2]) g)/\Hid (∀W,Below w1.heap.size w1 W->Below B0 w0 W) /\
   Hid (∀W,Below w1.heap.size w1 W->(W.cell? ⟨B,0,none⟩=some (.slice a1 N1 a2)/\W.cell? ⟨B,1,none⟩=some (.slice b1 N2 b2)/\W.cell? ⟨B,2,none⟩=some (.slice c1 N3 c2))/\W.cell? ⟨B+1,0,none⟩=some (.int .i64 K)/\W.cell? ⟨B+1,1,none⟩=some (.int .i64 c.v.id)/\W.cell? ⟨B+1,2,none⟩=some (.int .i64 c.v.side)/\W.cell? ⟨B+1,3,none⟩=some (.int .i64 c.e.id)/\W.cell? ⟨B+1,4,none⟩=some (.int .i64 c.e.src)/\W.cell? ⟨B+1,5,none⟩=some (.int .i64 c.e.dst)/\W.cell? ⟨B+1,6,none⟩=some (.bool c.e.dir)/\W.cell? ⟨B+1,7,none⟩=some (.int .i64 c.e.wt)/\W.cell? ⟨B+1,8,none⟩=some (.int .i64 c.e.cap)/\W.cell? ⟨B+1,9,none⟩=some (.int .i64 c.id)/\W.cell? ⟨B+1,10,none⟩=some (.int .i64 c.n)/\W.cell? ⟨B+1,11,none⟩=some (.slice e1 m1 e2)/\W.cell? ⟨B+1,12,none⟩=some (.slice f1 m2 f2)) /\
   Hid (∀W,Below w1.heap.size w1 W->W.heap[B+2]?=some (.cells #[.slice none 0 0,.slice none 0 0,.slice none 0 0] 26 (0,0))) /\
   Hid (∀W,Below w1.heap.size w1 W->Calls Tryz.prog 43 #[.agg #[.slice a1 N1 a2,.slice b1 N2 b2,.slice c1 N3 c2],.int .i64 c.id] W fun e w'=>e= .returned (.int .i64 (plI (keysV g.vs) c.id))/\Below W.heap.size W w') /\
   Hid (∀W,Below w1.heap.size w1 W->Calls Tryz.prog 42 #[.agg #[.slice a1 N1 a2,.slice b1 N2 b2,.slice c1 N3 c2],.int .i64 c.id] W fun e w'=>e= .returned (.int .i64 (plI (keysE g.es) c.id))/\Below W.heap.size W w') /\
   Hid ((∀k,(Value.slice a1 N1 a2).ownBlock=some k->k<B)/\(∀k,(Value.slice b1 N2 b2).ownBlock=some k->k<B))/\Hid (∀k,(Value.slice c1 N3 c2).ownBlock=some k->k<B):=by
 obtain⟨w1,hw1⟩:∃W,W=((w0.alloc (.cells #[.slice a1 N1 a2,.slice b1 N2 b2,.slice c1 N3 c2] 26)).alloc (.cells #[.int .i64 K,.int .i64 c.v.id,.int .i64 c.v.side,.int .i64 c.e.id,.int .i64 c.e.src,.int .i64 c.e.dst,.bool c.e.dir,.int .i64 c.e.wt,.int .i64 c.e.cap,.int .i64 c.id,.int .i64 c.n,.slice e1 m1 e2,.slice f1 m2 f2] 33)).alloc (.cells #[.slice none 0 0,.slice none 0 0,.slice none 0 0] 26):=⟨_,rfl⟩;have hBw:Below w0.heap.size w0 w1:=by rw[hw1];exact(((Below.refl _ w0).alloc (Nat.le_refl _) _).alloc (by simp) _).alloc (by simp;omega) _
 have hsz:w1.heap.size=w0.heap.size+3:=by rw[hw1];simp
 have hbox:w1.heap[w0.heap.size]?=some (.cells #[.slice a1 N1 a2,.slice b1 N2 b2,.slice c1 N3 c2] 26 (0,0)):=by rw[hw1];exact al_keep1 (al_keep1 (heap_alloc_new w0 _))
 have hcbx:w1.heap[w0.heap.size+1]?=some (.cells #[.int .i64 K,.int .i64 c.v.id,.int .i64 c.v.side,.int .i64 c.e.id,.int .i64 c.e.src,.int .i64 c.e.dst,.bool c.e.dir,.int .i64 c.e.wt,.int .i64 c.e.cap,.int .i64 c.id,.int .i64 c.n,.slice e1 m1 e2,.slice f1 m2 f2] 33 (0,0)):=by rw[hw1];have h:=al_keep1 (p:= .cells #[.slice none 0 0,.slice none 0 0,.slice none 0 0] 26) (heap_alloc_new (w0.alloc (.cells #[.slice a1 N1 a2,.slice b1 N2 b2,.slice c1 N3 c2] 26)) (.cells #[.int .i64 K,.int .i64 c.v.id,.int .i64 c.v.side,.int .i64 c.e.id,.int .i64 c.e.src,.int .i64 c.e.dst,.bool c.e.dir,.int .i64 c.e.wt,.int .i64 c.e.cap,.int .i64 c.id,.int .i64 c.n,.slice e1 m1 e2,.slice f1 m2 f2] 33));simpa using h
 have hres:w1.heap[w0.heap.size+2]?=some (.cells #[.slice none 0 0,.slice none 0 0,.slice none 0 0] 26 (0,0)):=by rw[hw1];have h:=heap_alloc_new ((w0.alloc (.cells #[.slice a1 N1 a2,.slice b1 N2 b2,.slice c1 N3 c2] 26)).alloc (.cells #[.int .i64 K,.int .i64 c.v.id,.int .i64 c.v.side,.int .i64 c.e.id,.int .i64 c.e.src,.int .i64 c.e.dst,.bool c.e.dir,.int .i64 c.e.wt,.int .i64 c.e.cap,.int .i64 c.id,.int .i64 c.n,.slice e1 m1 e2,.slice f1 m2 f2] 33)) (.cells #[.slice none 0 0,.slice none 0 0,.slice none 0 0] 26);simpa using h
 have bb:∀W,Below w1.heap.size w1 W->Below w0.heap.size w0 W:=fun W BB=>hBw.trans (BB.mono hBw.size);have hgv:∀W,Below w1.heap.size w1 W->GV W (.agg #[.slice a1 N1 a2,.slice b1 N2 b2,.slice c1 N3 c2]) g:=fun W BB=>⟨_,_,_,rfl,OwnV.VL (own_below h1 (bb W BB)),OwnEd.EL (own_below h2 (bb W BB)),OwnI.DL (own_below h3 (bb W BB))⟩;exact⟨w0.heap.size,w1,rfl,hw1,hsz,hB0,hBw,hbox,hcbx,hres,fun W BB=>own_below h1 (bb W BB),fun W BB=>own_below h2 (bb W BB),fun W BB=>own_below h3 (bb W BB),fun W BB=>h4.below (bb W BB),fun W BB=>h5.below (bb W BB),hgv,fun W BB=>(bb W BB).mono hB0,
  fun W BB=>⟨box3 ((BB.block _ (by omega)).trans hbox),ch_cells (c:={c with kind:=K}) (a:= .slice e1 m1 e2) (b:= .slice f1 m2 f2) ((BB.block _ (by omega)).trans hcbx)⟩,
  fun W BB=>(BB.block _ (by omega)).trans hres,fun W BB=>PlaceR_any _ g c.id W (hgv W BB) (by omega),fun W BB=>FindR_any _ g c.id W (hgv W BB) (by omega),
  ⟨fun k hk=>by obtain⟨_,cur,h⟩:=own_row h1 k hk;exact(Array.getElem?_eq_some_iff.1 h).1,fun k hk=>by obtain⟨_,cur,h⟩:=own_row h2 k hk;exact(Array.getElem?_eq_some_iff.1 h).1⟩,fun k hk=>by obtain⟨_,cur,h⟩:=own_row h3 k hk;exact(Array.getElem?_eq_some_iff.1 h).1⟩
theorem actR_1(va vb vc ca cb:Value)(g:Gr)(c:Ch)(B0:Nat)(w0:World)(h1:OwnV w0 B0 va g.vs)(h2:OwnEd w0 B0 vb g.es)(h3:OwnI w0 B0 vc g.ds)(h4:DL w0 ca c.ends)(h5:DL w0 cb c.deps)(hok:Ok g)(hB0:B0<=w0.heap.size)(hl:c.ends.length<=100000/\c.deps.length<=100000)(hk:c.kind=1):
  Calls Tryz.prog 58 #[.agg #[va,vb,vc],.agg (chCells c ca cb)] w0 (ActR g c B0 w0):=by
 obtain⟨a1,a2,rfl⟩:=h1.VL.shape;obtain⟨b1,b2,rfl⟩:=h2.EL.shape;obtain⟨c1,c2,rfl⟩:=h3.DL.shape;obtain⟨e1,e2,rfl⟩:=h4.shape;obtain⟨f1,f2,rfl⟩:=h5.shape;obtain⟨N1,hN1⟩:∃N,Hid (N=g.vs.length):=⟨_,rfl⟩;obtain⟨N2,hN2⟩:∃N,Hid (N=g.es.length):=⟨_,rfl⟩;obtain⟨N3,hN3⟩:∃N,Hid (N=g.ds.length):=⟨_,rfl⟩;obtain⟨m1,hm1⟩:∃N,Hid (N=c.ends.length):=⟨_,rfl⟩;obtain⟨m2,hm2⟩:∃N,Hid (N=c.deps.length):=⟨_,rfl⟩;have z1:=hok.vlen;have z2:=hok.elen;have z3:=hok.dlen;obtain⟨l1,l2⟩:=hl;rw[<-hN1.out]at h1 z1 ⊢;rw[<-hN2.out]at h2 z2 ⊢;rw[<-hN3.out]at h3 z3 ⊢;rw[<-hm1.out]at h4 l1 ⊢;rw[<-hm2.out]at h5 l2 ⊢;unfold chCells;rw[hk];obtain⟨B,w1,hB,hwh,hsz,hB0,hBw,hbox,hcbx,hres,hO1,hO2,hO3,hL4,hL5,hgv,hbase,hT,hR,cP,cF,hlow,hlow3⟩:=act_pre 1 h1 h2 h3 h4 h5 hN1.out hN2.out z1 z2 hB0;have hokh:=Hd hok;have hkh:=Hd hk;have hact:=Hd (show actK g c=act1 g c by unfold actK;simp[hk]);obtain⟨⟨t0,t1,t2⟩,p0,p1,p2,p3,p4,p5,p6,p7,p8,p9,pA,pB,pC⟩:=hT.out w1 (Below.refl _ _);try dsimp only at p0 p1 p2 p3 p4 p5 p6 p7 p8 p9 pA
 clear h1 h2 h3 h4 h5 hok hk;go_enter Tryz.func58,Tryz.ntmps58;go_wp2_with fail;rw[<-hwh.out,<-hB.out];with_reducible refine(cP.out w1 (Below.refl _ _)).mono ?_
 rintro e w2 ⟨rfl,k2⟩;have K2:=Hd k2;clear k2 t0 t1 t2 p0 p1 p2 p3 p4 p5 p6 p7 p8 p9 pA pB pC;obtain⟨⟨t0,t1,t2⟩,p0,p1,p2,p3,p4,p5,p6,p7,p8,p9,pA,pB,pC⟩:=hT.out w2 K2.out;try dsimp only at p0 p1 p2 p3 p4 p5 p6 p7 p8 p9 pA
 go_wp2_with fail;with_reducible refine(cF.out w2 K2.out).mono ?_
 rintro e w3 ⟨rfl,k3⟩;have K3:=Hd (K2.out.trans (k3.mono K2.out.size));clear k3 K2 t0 t1 t2 p0 p1 p2 p3 p4 p5 p6 p7 p8 p9 pA pB pC;obtain⟨⟨t0,t1,t2⟩,p0,p1,p2,p3,p4,p5,p6,p7,p8,p9,pA,pB,pC⟩:=hT.out w3 K3.out;try dsimp only at p0 p1 p2 p3 p4 p5 p6 p7 p8 p9 pA
 generalize plI (keysV g.vs) c.id=P1 at *
 generalize plI (keysE g.es) c.id=P2 at *
 have cW:=Hd (withVertexR_own (.slice a1 N1 a2) (.slice b1 N2 b2) (.slice c1 N3 c2) g c.v w3 (OwnV.VL (hO1.out w3 K3.out)) (OwnEd.EL (hO2.out w3 K3.out)) (OwnI.DL (hO3.out w3 K3.out)) hokh.out.vasc (by rw[<-hN1.out];omega));go_wp2_with fail;with_reducible refine cW.out.mono ?_
 rintro e w4 ⟨r,hcond,⟨x1,y1,x2,rfl⟩,b4⟩;have K4:=Hd (K3.out.trans (b4.mono K3.out.size));clear b4 cW;clear t0 t1 t2 p0 p1 p2 p3 p4 p5 p6 p7 p8 p9 pA pB pC;have r8:=Hd (al_keep1 (p:= .cells #[.slice x1 y1 x2,.slice b1 N2 b2,.slice c1 N3 c2] 26) (hR.out w4 K4.out));have hfin:=Hd (belK_no hBw.out hB.out hB0 (by omega) (K4.out.alloc (by have:=K4.out.size;omega) (.cells #[.slice x1 y1 x2,.slice b1 N2 b2,.slice c1 N3 c2] 26)) #[.slice x1 y1 x2,.slice b1 N2 b2,.slice c1 N3 c2]);by_cases hc:(c.v.ok&&!decide (c.v.id∈keysV g.vs))=true
 ·rw[if_pos hc]at hcond;obtain⟨rfl,hgr,hgo⟩:=hcond;have hgh:=Hd (show GV w4 (.agg #[.slice x1 y1 x2,.slice b1 N2 b2,.slice c1 N3 c2]) {g with vs:=insV g.vs c.v}from⟨_,_,_,rfl,hgr,OwnEd.EL (hO2.out w4 K4.out),OwnI.DL (hO3.out w4 K4.out)⟩);have hge:=Hd (show RowGe B0 (.slice x1 y1 x2)from fun j hj=>by have:=hgo j hj;have:=K3.out.size;omega);clear hgo;have hch:=Hd hc;clear hgr hc
  go_wp2_with (refine wpList_store_row rfl 26 (.tmp 4) (.tmp 36) rfl (B+2) #[.slice x1 y1 x2,.slice b1 N2 b2,.slice c1 N3 c2] rfl rfl 26 _ r8.out (size26b _ _ _) rfl (by simp[Value.oneCell']) ?_)
  refine bodyPost_ret (results_cell_tmp_row (fn:=Tryz.f58) rfl _ _ (B+2) 26 #[.slice x1 y1 x2,.slice b1 N2 b2,.slice c1 N3 c2] (0,0) _ _ rfl rfl (setRow_heap _ _ _ _ _ _ r8.out) Tryz.underlying26 rfl (size26b _ _ _)) rfl ?_;exact ActR.yes (by rw[hact.out];exact if_pos hch.out) rfl (GV.shut hgh.out (hR.out w4 K4.out) _) ⟨hge.out,own_ge (hO2.out w4 K4.out),own_ge (hO3.out w4 K4.out)⟩ hfin.out
 ·rw[if_neg hc]at hcond;subst hcond;have hch:=Hd hc;clear hc
  go_wp2_with (refine wpList_store_row rfl 26 (.tmp 4) (.tmp 36) rfl (B+2) #[.slice x1 y1 x2,.slice b1 N2 b2,.slice c1 N3 c2] rfl rfl 26 _ r8.out (size26b _ _ _) rfl (by simp[Value.oneCell']) ?_)
  refine bodyPost_ret (results_cell_tmp_row (fn:=Tryz.f58) rfl _ _ (B+2) 26 #[.slice x1 y1 x2,.slice b1 N2 b2,.slice c1 N3 c2] (0,0) _ _ rfl rfl (setRow_heap _ _ _ _ _ _ r8.out) Tryz.underlying26 rfl (size26b _ _ _)) rfl ?_;exact ActR.no (by rw[hact.out];exact if_neg hch.out) rfl hfin.out
theorem actR_2(va vb vc ca cb:Value)(g:Gr)(c:Ch)(B0:Nat)(w0:World)(h1:OwnV w0 B0 va g.vs)(h2:OwnEd w0 B0 vb g.es)(h3:OwnI w0 B0 vc g.ds)(h4:DL w0 ca c.ends)(h5:DL w0 cb c.deps)(hok:Ok g)(hB0:B0<=w0.heap.size)(hl:c.ends.length<=100000/\c.deps.length<=100000)(hk:c.kind=2):
  Calls Tryz.prog 58 #[.agg #[va,vb,vc],.agg (chCells c ca cb)] w0 (ActR g c B0 w0):=by
 obtain⟨a1,a2,rfl⟩:=h1.VL.shape;obtain⟨b1,b2,rfl⟩:=h2.EL.shape;obtain⟨c1,c2,rfl⟩:=h3.DL.shape;obtain⟨e1,e2,rfl⟩:=h4.shape;obtain⟨f1,f2,rfl⟩:=h5.shape;obtain⟨N1,hN1⟩:∃N,Hid (N=g.vs.length):=⟨_,rfl⟩;obtain⟨N2,hN2⟩:∃N,Hid (N=g.es.length):=⟨_,rfl⟩;obtain⟨N3,hN3⟩:∃N,Hid (N=g.ds.length):=⟨_,rfl⟩;obtain⟨m1,hm1⟩:∃N,Hid (N=c.ends.length):=⟨_,rfl⟩;obtain⟨m2,hm2⟩:∃N,Hid (N=c.deps.length):=⟨_,rfl⟩;have z1:=hok.vlen;have z2:=hok.elen;have z3:=hok.dlen;obtain⟨l1,l2⟩:=hl;rw[<-hN1.out]at h1 z1 ⊢;rw[<-hN2.out]at h2 z2 ⊢;rw[<-hN3.out]at h3 z3 ⊢;rw[<-hm1.out]at h4 l1 ⊢;rw[<-hm2.out]at h5 l2 ⊢;unfold chCells;rw[hk];obtain⟨B,w1,hB,hwh,hsz,hB0,hBw,hbox,hcbx,hres,hO1,hO2,hO3,hL4,hL5,hgv,hbase,hT,hR,cP,cF,hlow,hlow3⟩:=act_pre 2 h1 h2 h3 h4 h5 hN1.out hN2.out z1 z2 hB0;have hokh:=Hd hok;have hkh:=Hd hk;have hact:=Hd (show actK g c=act2 g c by unfold actK;simp[hk]);obtain⟨⟨t0,t1,t2⟩,p0,p1,p2,p3,p4,p5,p6,p7,p8,p9,pA,pB,pC⟩:=hT.out w1 (Below.refl _ _);try dsimp only at p0 p1 p2 p3 p4 p5 p6 p7 p8 p9 pA
 clear h1 h2 h3 h4 h5 hok hk;go_enter Tryz.func58,Tryz.ntmps58;go_wp2_with fail;rw[<-hwh.out,<-hB.out];with_reducible refine(cP.out w1 (Below.refl _ _)).mono ?_
 rintro e w2 ⟨rfl,k2⟩;have K2:=Hd k2;clear k2 t0 t1 t2 p0 p1 p2 p3 p4 p5 p6 p7 p8 p9 pA pB pC;obtain⟨⟨t0,t1,t2⟩,p0,p1,p2,p3,p4,p5,p6,p7,p8,p9,pA,pB,pC⟩:=hT.out w2 K2.out;try dsimp only at p0 p1 p2 p3 p4 p5 p6 p7 p8 p9 pA
 go_wp2_with fail;with_reducible refine(cF.out w2 K2.out).mono ?_
 rintro e w3 ⟨rfl,k3⟩;have K3:=Hd (K2.out.trans (k3.mono K2.out.size));clear k3 K2 t0 t1 t2 p0 p1 p2 p3 p4 p5 p6 p7 p8 p9 pA pB pC;obtain⟨⟨t0,t1,t2⟩,p0,p1,p2,p3,p4,p5,p6,p7,p8,p9,pA,pB,pC⟩:=hT.out w3 K3.out;try dsimp only at p0 p1 p2 p3 p4 p5 p6 p7 p8 p9 pA
 have hnoB:=Hd (show ∀W,Below w1.heap.size w1 W->BelK B0 w0 (W.setRow (B+2) #[.slice a1 N1 a2,.slice b1 N2 b2,.slice c1 N3 c2])from fun W BB=>belK_no hBw.out hB.out hB0 (by omega) BB _);generalize plI (keysE g.es) c.id=P2 at *
 by_cases hm:c.id∈keysV g.vs;rotate_left
 ·rw[plI_no _ _ hm];have hno:=Hd (show act2 g c=none by unfold act2;simp[hm]);have r8:=Hd (hR.out w3 K3.out);have hf:=Hd (hnoB.out w3 K3.out);clear hm
  go_wp2_with (refine wpList_store_row rfl 26 (.tmp 4) (.tmp 57) rfl (B+2) #[.slice a1 N1 a2,.slice b1 N2 b2,.slice c1 N3 c2] rfl rfl 26 _ r8.out (size26b _ _ _) rfl (by simp[Value.oneCell']) ?_)
  refine bodyPost_ret (results_cell_tmp_row (fn:=Tryz.f58) rfl _ _ (B+2) 26 #[.slice a1 N1 a2,.slice b1 N2 b2,.slice c1 N3 c2] (0,0) _ _ rfl rfl (setRow_heap _ _ _ _ _ _ r8.out) Tryz.underlying26 rfl (size26b _ _ _)) rfl ?_;exact ActR.no (by rw[hact.out];exact hno.out) rfl hf.out
 ·obtain⟨p,hp,hpe,hpv⟩:=plV_mem g.vs c.id hm;have hpi:g.vs[p].id=c.id:=by
   rw[hpv];obtain⟨hq,hqx⟩:=posV_lt g.vs c.id hokh.out.vasc hm;rw[getV_eq g.vs c.id hokh.out.vasc hq hqx];exact hqx
  rw[hpe];have cA:=Hd (AtR_any (.agg #[.slice a1 N1 a2,.slice b1 N2 b2,.slice c1 N3 c2]) g c.id w3 (hgv.out w3 K3.out) (by rw[<-hN2.out];omega));have i0:(0:Int)<=(p:Int):=by omega
  have hmh:=Hd hm;have hdel:=Hd (pos_del g.vs c.id hokh.out.vasc p hp hpi);have hW:=Hd (fun W (BB:Below w1.heap.size w1 W)=>withoutR_own (.slice a1 N1 a2) (.slice b1 N2 b2) (.slice c1 N3 c2) g p W (OwnV.VL (hO1.out W BB)) (OwnEd.EL (hO2.out W BB)) (OwnI.DL (hO3.out W BB)) (by rw[<-hN1.out];omega) hp);have hl:atF g.es c.id=[]↔endsF g.es c.id=[]:=by
   rw[endsF_nil];unfold atF;rw[List.filter_eq_nil_iff]
   simp
  have hlh:=Hd hl;clear hm hp hpe hpv hpi hl;go_wp2_with fail;with_reducible refine cA.out.mono ?_
  rintro e w4 ⟨r,rfl,hA,b4⟩;have K4:=Hd (K3.out.trans (b4.mono K3.out.size));obtain⟨x1,x2,rfl⟩:=hA.shape;obtain⟨M,hM⟩:∃M,Hid (M=(atF g.es c.id).length):=⟨_,rfl⟩;rw[<-hM.out];clear b4 cA hA;clear t0 t1 t2 p0 p1 p2 p3 p4 p5 p6 p7 p8 p9 pA pB pC;obtain⟨⟨t0,t1,t2⟩,p0,p1,p2,p3,p4,p5,p6,p7,p8,p9,pA,pB,pC⟩:=hT.out w4 K4.out;try dsimp only at p0 p1 p2 p3 p4 p5 p6 p7 p8 p9 pA
  by_cases hM0:0<M
  ·have hno:=Hd (show act2 g c=none by
    have:endsF g.es c.id≠[]:=fun e=>by
     have:=hlh.out.2 e;rw[hM.out,this]at hM0;simp at hM0
    unfold act2;simp[this])
   have q1:(0:Int)<(M:Int):=by omega
   have r8:=Hd (hR.out w4 K4.out);have hf:=Hd (hnoB.out w4 K4.out);clear hM0
   go_wp2_with (refine wpList_store_row rfl 26 (.tmp 4) (.tmp 57) rfl (B+2) #[.slice a1 N1 a2,.slice b1 N2 b2,.slice c1 N3 c2] rfl rfl 26 _ r8.out (size26b _ _ _) rfl (by simp[Value.oneCell']) ?_)
   refine bodyPost_ret (results_cell_tmp_row (fn:=Tryz.f58) rfl _ _ (B+2) 26 #[.slice a1 N1 a2,.slice b1 N2 b2,.slice c1 N3 c2] (0,0) _ _ rfl rfl (setRow_heap _ _ _ _ _ _ r8.out) Tryz.underlying26 rfl (size26b _ _ _)) rfl ?_;exact ActR.no (by rw[hact.out];exact hno.out) rfl hf.out
  ·have hM1:M=0:=by omega
   have hen:=Hd (show endsF g.es c.id=[]from hlh.out.1 (List.length_eq_zero_iff.1 (by rw[<-hM.out];exact hM1)));subst hM1;have cH:=Hd (hasR_any (.slice c1 N3 c2) g.ds c.id w4 (OwnI.DL (hO3.out w4 K4.out)) (by rw[<-hN3.out];omega));clear hM0;go_wp2_with fail;with_reducible refine cH.out.mono ?_
   rintro e w5 ⟨rfl,rfl⟩;by_cases hd:c.id∈g.ds
   ·have hno:=Hd (show act2 g c=none by unfold act2;simp[hd]);rw[decide_eq_true hd];have r8:=Hd (hR.out w4 K4.out);have hf:=Hd (hnoB.out w4 K4.out);clear hd
    go_wp2_with (refine wpList_store_row rfl 26 (.tmp 4) (.tmp 57) rfl (B+2) #[.slice a1 N1 a2,.slice b1 N2 b2,.slice c1 N3 c2] rfl rfl 26 _ r8.out (size26b _ _ _) rfl (by simp[Value.oneCell']) ?_)
    refine bodyPost_ret (results_cell_tmp_row (fn:=Tryz.f58) rfl _ _ (B+2) 26 #[.slice a1 N1 a2,.slice b1 N2 b2,.slice c1 N3 c2] (0,0) _ _ rfl rfl (setRow_heap _ _ _ _ _ _ r8.out) Tryz.underlying26 rfl (size26b _ _ _)) rfl ?_;exact ActR.no (by rw[hact.out];exact hno.out) rfl hf.out
   ·have hyes:=Hd (show act2 g c=some ({g with vs:=delV g.vs c.id},{zC with kind:=1,v:=getV g.vs c.id})by unfold act2;simp[hd,hen.out,hmh.out]);rw[decide_eq_false hd];clear hd cH;go_wp2_with fail;with_reducible refine(hW.out w4 K4.out).mono ?_
    rintro e w5 ⟨r,rfl,hgr,hob,b5⟩;have K5:=Hd (K4.out.trans (b5.mono K4.out.size));rw[hdel.out]at hgr;obtain⟨g1,g2,g3⟩:=hgr;obtain⟨y1,y2,rfl⟩:=g1.shape;have hge:=Hd (show RowGe B0 (.slice y1 (delV g.vs c.id).length y2)from fun j hj=>(hob j hj).elim (fun h=>own_ge (hO1.out w4 K4.out) j h) (fun h=>by have:=K4.out.size;omega));clear hob;have hgh:=Hd (show GV w5 (.agg #[.slice y1 (delV g.vs c.id).length y2,.slice b1 N2 b2,.slice c1 N3 c2]) {g with vs:=delV g.vs c.id}from⟨_,_,_,rfl,g1,g2,g3⟩);obtain⟨M1,hM1⟩:∃M,Hid (M=(delV g.vs c.id).length):=⟨_,rfl⟩;dsimp only;rw[<-hM1.out]at hgh ⊢;have r8:=Hd (hR.out w5 K5.out);have hf:=Hd (belK_no hBw.out hB.out hB0 (by omega) K5.out #[.slice y1 M1 y2,.slice b1 N2 b2,.slice c1 N3 c2]);clear b5 g1 g2 g3
    go_wp2_with (refine wpList_store_row rfl 26 (.tmp 4) (.tmp 60) rfl (B+2) #[.slice y1 M1 y2,.slice b1 N2 b2,.slice c1 N3 c2] rfl rfl 26 _ r8.out (size26b _ _ _) rfl (by simp[Value.oneCell']) ?_)
    refine bodyPost_ret (results_cell_tmp_row (fn:=Tryz.f58) rfl _ _ (B+2) 26 #[.slice y1 M1 y2,.slice b1 N2 b2,.slice c1 N3 c2] (0,0) _ _ rfl rfl (setRow_heap _ _ _ _ _ _ r8.out) Tryz.underlying26 rfl (size26b _ _ _)) rfl ?_;exact ActR.yes (by rw[hact.out];exact hyes.out) rfl (GV.shut0 hgh.out r8.out _) ⟨fun j hj=>hge.out j (by cases y1 with|none=>exact hj|some a=>exact hj),own_ge (hO2.out w4 K4.out),own_ge (hO3.out w4 K4.out)⟩ hf.out
end Go.Proofs.YtlaldnlgapeckaaGreat
