/- Facts. -/
import Derived.Test.YtlaldnlgapeckaaGreatVYM
set_option linter.unusedSimpArgs false
set_option maxRecDepth 100000
set_option maxHeartbeats 4000000
namespace Go.Proofs.YtlaldnlgapeckaaGreat
open Go.RowKit
theorem results_ctc{P:Program}{fn:Func}{p q r:Tmp}{ty ty2:TypeId}(h:fn.results= #[.cell p ty,.tmp q,.cell r ty2])(tmps:Array Value)(w:World)(g:Nat)(t:TypeId)(cs:Array Value)(fr:Nat × Nat)(d:TypeDesc)(u v:Value)(a:Addr)
  (hp:tmps.getD p undef= .pointer (some ⟨g,0,none⟩)) (hq:tmps.getD q undef=u) (hr:tmps.getD r undef= .pointer (some a)) (hg:w.heap[g]?=some (.cells cs t fr))
  (hu:P.underlying ty=some d) (hd:(match d with| .struct _| .array _ _=>true|_=>false)=true) (hi:(P.info? ty).map (·.size)=some cs.size) (hv:(loadVar ty2 a).run P w= .ok v w) :
  (results fn tmps).run P w= .ok (.tuple #[.agg cs,u,v]) w:=by
 have hp':tmps[p]?.getD undef= .pointer (some ⟨g,0,none⟩):=by simpa using hp
 have hq':tmps[q]?.getD undef=u:=by simpa using hq
 have hr':tmps[r]?.getD undef= .pointer (some a):=by simpa using hr
 simp[results,h,hp',hq',hr',asAddr,run_loadVar_row w g t ty cs fr d hg hu hd hi,hv]
def DPost(s:ByteArray)(a:Int)(w:World)(e:Ending)(w':World):Prop :=
 match rGr s.data.toList a with
 | none=>e= .returned (.tuple #[.agg zG,.int .i64 0,.int .i64 30])/\Below w.heap.size w w'
 | some (g,m)=>∃x y z,e= .returned (.tuple #[.agg #[x,y,z],.int .i64 (m:Nat),.int .i64 0])/\OwnV w' w.heap.size x g.vs/\OwnEd w' w.heap.size y g.es/\OwnI w' w.heap.size z g.ds/\Below w.heap.size w w'
theorem decodeG_bad(s:ByteArray)(a:Int)(w:World)(hs:s.size<=maxLen)(h1 : -9223372036854775808<=a)(h2:a<=9223372036854775807)(hr:rGr s.data.toList a=none):
  Calls Tryz.prog 74 #[.string s,.int .i64 a,.func (.func 75) #[] #[]] w (DPost s a w):=by
 have hmf:∀(fn:Fn) (first cap:Array Value) (w:World),(Instr.makeFunc fn first cap).run Tryz.prog w= .ok (.func fn first cap) w:=fun _ _ _ _=>rfl;obtain⟨w1,hw1⟩:∃w1,w1=((w.alloc (.cells zG 26)).alloc (.cells #[.int .i64 0] 45)).alloc (.cells #[.string s,.int .i64 a] 140):=⟨_,rfl⟩;have z1:w1.heap.size=w.heap.size+3:=by rw[hw1];simp
 have hrd:Rd w1 (w.heap.size+1+1) s a:=by
  unfold Rd;rw[hw1];have:=heap_alloc_new ((w.alloc (.cells zG 26)).alloc (.cells #[.int .i64 0] 45)) (.cells #[.string s,.int .i64 a] 140);simpa using this
 have g26:w1.heap[w.heap.size]?=some (.cells zG 26 (0,0)):=by rw[hw1];exact al_keep (al_keep (heap_alloc_new w _))
 have g45:w1.heap[w.heap.size+1]?=some (.cells #[.int .i64 0] 45 (0,0)):=by
  rw[hw1];refine al_keep ?_;have:=heap_alloc_new (w.alloc (.cells zG 26)) (.cells #[.int .i64 0] 45);simpa using this
 have B1:Below w.heap.size w w1:=by rw[hw1];exact(((Below.refl _ w).alloc (Nat.le_refl _) _).alloc (by simp) _).alloc (by simp;omega) _
 have hB1:=Hd B1;have k1:=Hd (rgraph_any (w.heap.size+1+1) s a w1 hrd hs h1 h2);rw[hr]at k1;have hw1h:=Hd hw1;unfold zG nilS at hw1h;have hrh:=Hd hr;clear hw1 hr
 go_enter_defers Tryz.func74,Tryz.ntmps74
 go_wp2_with fail;rw[<-hw1h.out];with_reducible refine k1.out.mono ?_
 rintro e w2 ⟨⟨v,rfl⟩,hk⟩;have r26:=(hk.keep w.heap.size (by omega) (by omega)).trans g26;have r45:=(hk.keep (w.heap.size+1) (by omega) (by omega)).trans g45;have c45:w2.cell? ⟨w.heap.size+1,0,none⟩=some (.int .i64 0):=by rw[cell_of_row _ _ _ _ _ _ r45];rfl
 have f45:w2.frozen? ⟨w.heap.size+1,0,none⟩=false:=frozen_of_row _ _ _ _ _ r45;go_wp2_with fail;refine leaves_cons (f:=98) (args:= #[.pointer (some ⟨w.heap.size+1,0,none⟩)]) (by simp) (by simp[go_sem]) ?_;refine(catch98 ⟨w.heap.size+1,0,none⟩ 0 45 _ [] _ c45 f45).mono ?_;rintro e u' w'' ⟨rfl,rfl,rfl⟩;have q26:(w2.setCell ⟨w.heap.size+1,0,none⟩ (.int .i64 30)).heap[w.heap.size]?=some (.cells zG 26 (0,0)):=by rw[heap_setCell_other _ _ _ _ (by simp)];exact r26
 have q45:(w2.setCell ⟨w.heap.size+1,0,none⟩ (.int .i64 30)).cell? ⟨w.heap.size+1,0,none⟩=some (.int .i64 30):=by
  rw[cell_of_row _ _ _ _ _ _ (heap_setCell_same _ _ _ _ _ _ r45)];rfl
 show Leaves _ _ _ _ [] (settle _) _;refine⟨_,results_ctc (fn:=Tryz.f74) rfl _ _ w.heap.size 26 zG (0,0) _ (.int .i64 0) (.int .i64 30) ⟨w.heap.size+1,0,none⟩ rfl rfl rfl q26 Tryz.underlying26 rfl size26 (by simp[go_sem,q45]) ,?_⟩;unfold DPost;rw[hrh.out];exact⟨rfl,(hB1.out.trans (hk.below.mono (by omega))).setCell (p:=⟨w.heap.size+1,0,none⟩) (by simp) _⟩
def GSt(w:World)(x y z:Value)(g:Gr)(s:ByteArray)(m:Nat)(W:World):Prop :=
 W.heap[w.heap.size]?=some (.cells #[x,y,z] 26 (0,0))/\W.heap[w.heap.size+1]?=some (.cells #[.int .i64 0] 45 (0,0))/\Rd W (w.heap.size+1+1) s m/\OwnV W (w.heap.size+3) x g.vs/\OwnEd W (w.heap.size+3) y g.es/\OwnI W (w.heap.size+3) z g.ds/\Below w.heap.size w W
theorem own_other{W W':World}{B n k:Nat}{e:TypeId}{size:Nat}{v:Value}{xs:List Value}(h:W.ownsRow B e size v n xs)(hk:k<B)(ho:∀j,j≠k->W'.heap[j]?=W.heap[j]?):W'.ownsRow B e size v n xs:=by
 refine⟨h.1,?_⟩;rcases h.2 with q2|⟨g,cap,cur,q1,q2,q3,q4⟩
 ·exact .inl q2
 ·exact .inr ⟨g,cap,cur,q1,q2,(ho g (by omega)).trans q3,q4⟩
theorem leaves_congr{P:Program}{fn:Func}{t1 t2:Array Value}{R:Ending->World->Prop}(h:results fn t1=results fn t2):∀(ds:List Deferred) (u:FrameMode) (w:World),Leaves P fn t1 R ds u w->Leaves P fn t2 R ds u w:=by
 intro ds
 induction ds with
 | nil =>
  intro u w q;cases u with
  | returning=>obtain⟨v,q1,q2⟩:=q;exact⟨v,by rw[<-h];exact q1,q2⟩
  | panicking c=>exact q
  | run=>exact q
 | cons d ds ih =>
  intro u w q;obtain⟨q1,fv,cap,f,args,q2,q3,q4⟩:=q;refine⟨q1,fv,cap,f,args,q2,q3,q4.mono ?_⟩;intro e u' w' q5;cases e with
  | returned v=>exact ih _ _ q5
  | panicked c=>exact ih _ _ q5
  | outgrown=>exact q5
theorem res74(t:Array Value)(d:Tmp)(v:Value)(h6:d≠6)(h7:d≠7)(h8:d≠8):results Tryz.f74 (t.setIfInBounds d v)=results Tryz.f74 t:=by
 have e6:(t.setIfInBounds d v)[6]?=t[6]?:=by rw[Array.getElem?_setIfInBounds];simp[h6]
 have e7:(t.setIfInBounds d v)[7]?=t[7]?:=by rw[Array.getElem?_setIfInBounds];simp[h7]
 have e8:(t.setIfInBounds d v)[8]?=t[8]?:=by rw[Array.getElem?_setIfInBounds];simp[h8]
 simp[results,Tryz.results74,e6,e7,e8]
theorem GSt.row{w W:World}{x y z:Value}{g:Gr}{s:ByteArray}{m:Nat}(h:GSt w x y z g s m W):GSt w x y z g s m (W.setRow w.heap.size #[x,y,z]):=by
 obtain⟨h1,h2,h3,h4,h5,h6,h7⟩:=h;have ho:∀j,j≠w.heap.size->(W.setRow w.heap.size #[x,y,z]).heap[j]?=W.heap[j]?:=fun j hj=>setRow_other W _ j _ hj;exact⟨setRow_heap _ _ _ _ _ _ h1,(ho _ (by omega)).trans h2,(ho _ (by omega)).trans h3,own_other h4 (by omega) ho,own_other h5 (by omega) ho,own_other h6 (by omega) ho,below_setRow' h7 (Nat.le_refl _) _⟩
theorem GSt.zero{w W:World}{x y z:Value}{g:Gr}{s:ByteArray}{m:Nat}(h:GSt w x y z g s m W):GSt w x y z g s m (W.setCell ⟨w.heap.size+1,0,none⟩ (.int .i64 0)):=by
 obtain⟨h1,h2,h3,h4,h5,h6,h7⟩:=h;have ho:∀j,j≠w.heap.size+1->(W.setCell ⟨w.heap.size+1,0,none⟩ (.int .i64 0)).heap[j]?=W.heap[j]?:=fun j hj=>heap_setCell_other W ⟨w.heap.size+1,0,none⟩ j _ hj;exact⟨(ho _ (by omega)).trans h1,by rw[heap_setCell_same W _ _ _ _ _ h2];rfl,(ho _ (by omega)).trans h3,own_other h4 (by omega) ho,own_other h5 (by omega) ho,own_other h6 (by omega) ho,h7.setCell (p:=⟨w.heap.size+1,0,none⟩) (by simp) _⟩
theorem GSt.drew{w W:World}{x y z:Value}{g:Gr}{s:ByteArray}{m:Nat}(h:GSt w x y z g s m W):GSt w x y z g s m W.drew:=by
 obtain⟨h1,h2,h3,h4,h5,h6,h7⟩:=h;exact⟨h1,h2,h3,h4,h5,h6,h7.drew⟩
theorem decodeG_ok(s:ByteArray)(a:Int)(w:World)(hs:s.size<=maxLen)(h1 : -9223372036854775808<=a)(h2:a<=9223372036854775807)(g:Gr)(m:Nat)(hr:rGr s.data.toList a=some (g,m)):
  Calls Tryz.prog 74 #[.string s,.int .i64 a,.func (.func 75) #[] #[]] w (DPost s a w):=by
 have hmf:∀(fn:Fn) (first cap:Array Value) (w:World),(Instr.makeFunc fn first cap).run Tryz.prog w= .ok (.func fn first cap) w:=fun _ _ _ _=>rfl;obtain⟨w1,hw1⟩:∃w1,w1=((w.alloc (.cells zG 26)).alloc (.cells #[.int .i64 0] 45)).alloc (.cells #[.string s,.int .i64 a] 140):=⟨_,rfl⟩;have z1:w1.heap.size=w.heap.size+3:=by rw[hw1];simp
 have hrd:Rd w1 (w.heap.size+1+1) s a:=by
  unfold Rd;rw[hw1];have:=heap_alloc_new ((w.alloc (.cells zG 26)).alloc (.cells #[.int .i64 0] 45)) (.cells #[.string s,.int .i64 a] 140);simpa using this
 have g26:w1.heap[w.heap.size]?=some (.cells zG 26 (0,0)):=by rw[hw1];exact al_keep (al_keep (heap_alloc_new w _))
 have g45:w1.heap[w.heap.size+1]?=some (.cells #[.int .i64 0] 45 (0,0)):=by
  rw[hw1];refine al_keep ?_;have:=heap_alloc_new (w.alloc (.cells zG 26)) (.cells #[.int .i64 0] 45);simpa using this
 have B1:Below w.heap.size w w1:=by rw[hw1];exact(((Below.refl _ w).alloc (Nat.le_refl _) _).alloc (by simp) _).alloc (by simp;omega) _
 have hB1:=Hd B1;have k1:=Hd (rgraph_any (w.heap.size+1+1) s a w1 hrd hs h1 h2);rw[hr]at k1;have hw1h:=Hd hw1;unfold zG nilS at hw1h;have hrh:=Hd hr;clear hw1 hr
 go_enter_defers Tryz.func74,Tryz.ntmps74
 go_wp2_with fail;rw[<-hw1h.out];with_reducible refine k1.out.mono ?_
 rintro e w2 ⟨x,y,z,rfl,o1,o2,o3,hrd2,hk⟩;have r26:=(hk.keep w.heap.size (by omega) (by omega)).trans g26;have r45:=(hk.keep (w.heap.size+1) (by omega) (by omega)).trans g45;have hS0:GSt w x y z g s m (w2.setRow w.heap.size #[x,y,z]):=by
  have ho:∀j,j≠w.heap.size->(w2.setRow w.heap.size #[x,y,z]).heap[j]?=w2.heap[j]?:=fun j hj=>setRow_other w2 _ j _ hj;exact⟨setRow_heap _ _ _ _ _ _ r26,(ho _ (by omega)).trans r45,(ho _ (by omega)).trans hrd2,own_other (own_le o1 (by omega)) (by omega) ho,own_other (own_le o2 (by omega)) (by omega) ho,own_other (own_le o3 (by omega)) (by omega) ho,below_setRow' (hB1.out.trans (hk.below.mono (by omega))) (Nat.le_refl _) _⟩
 obtain⟨xa,xb,rfl⟩:=o1.VL.shape;obtain⟨ya,yb,rfl⟩:=o2.EL.shape;obtain⟨za,zb,rfl⟩:=o3.DL.shape;have hS0h:=Hd hS0;clear o1 o2 o3 hk k1 hS0 hrd2 r45 g26 g45 B1 hrd;have hfin:Hid (∀W x y z,GSt w x y z g s m W->DPost s a w (.returned (.tuple #[.agg #[x,y,z],.int .i64 (m:Nat),.int .i64 0])) W):=fun W x y z q=>by
  unfold DPost;rw[hrh.out];exact⟨_,_,_,rfl,own_le q.2.2.2.1 (by omega),own_le q.2.2.2.2.1 (by omega),own_le q.2.2.2.2.2.1 (by omega),q.2.2.2.2.2.2⟩
 go_wp2_with (refine wpList_store_row rfl 26 (.tmp 6) (.tmp 17) rfl w.heap.size #[.slice xa g.vs.length xb,.slice ya g.es.length yb,.slice za g.ds.length zb] rfl rfl 26 _ r26 size26 rfl (by simp[Value.oneCell']) ?_)
 clear r26;refine wp_region_F (GSt w (.slice xa g.vs.length xb) (.slice ya g.es.length yb) (.slice za g.ds.length zb) g s m) 999 (by kernel_rfl) hS0h.out.drew (fun hHeld=>?_);refine wpAnyF_take (i:=0) (oi:=⟨some 18,.load 26 (.tmp 6),_,_,_,none⟩) (v:=?_) rfl (by kernel_rfl) (by kernel_rfl) (by kernel_rfl) (by kernel_rfl) (fun _ x _ h=>leaves_congr (res74 x.tmps 18 _ (by decide) (by decide) (by decide)) _ _ _ h) (Or.inl ⟨by rfl,?_⟩) (by assumption) ?_;rotate_left
 ·((intro W hSw;have q0:W.cell? ⟨w.heap.size,0,none⟩=some (.slice xa g.vs.length xb):=(by rw[cell_of_row _ _ _ _ _ _ hSw.1];rfl);have q1:W.cell? ⟨w.heap.size,1,none⟩=some (.slice ya g.es.length yb):=(by rw[cell_of_row _ _ _ _ _ _ hSw.1];rfl);have q2:W.cell? ⟨w.heap.size,2,none⟩=some (.slice za g.ds.length zb):=(by rw[cell_of_row _ _ _ _ _ _ hSw.1];rfl);clear hSw;go_simp)<;>with_reducible rfl)
 try simp only[Act.put,zT,z0,zS]
 refine wpAnyF_take (i:=1) (oi:=⟨some 19,.move (.tmp 9),_,_,_,none⟩) (v:=?_) rfl (by kernel_rfl) (by kernel_rfl) (by kernel_rfl) (by kernel_rfl) (fun _ x _ h=>leaves_congr (res74 x.tmps 19 _ (by decide) (by decide) (by decide)) _ _ _ h) (Or.inl ⟨by rfl,?_⟩) (by assumption) ?_;rotate_left
 ·((intro w hSw;clear hSw;go_simp)<;>with_reducible rfl)
 try simp only[Act.put,zT,z0,zS]
 refine wpAnyF_take (i:=2) (oi:=⟨some 20,.nilCheck (.tmp 19),_,_,_,none⟩) (v:=?_) rfl (by kernel_rfl) (by kernel_rfl) (by kernel_rfl) (by kernel_rfl) (fun _ x _ h=>leaves_congr (res74 x.tmps 20 _ (by decide) (by decide) (by decide)) _ _ _ h) (Or.inl ⟨by rfl,?_⟩) (by assumption) ?_;rotate_left
 ·((intro w hSw;clear hSw;go_simp)<;>with_reducible rfl)
 try simp only[Act.put,zT,z0,zS]
 refine wpAnyF_take (i:=3) (oi:=⟨some 21,.fieldAddr 140 (.tmp 20) 1,_,_,_,none⟩) (v:=?_) rfl (by kernel_rfl) (by kernel_rfl) (by kernel_rfl) (by kernel_rfl) (fun _ x _ h=>leaves_congr (res74 x.tmps 21 _ (by decide) (by decide) (by decide)) _ _ _ h) (Or.inl ⟨by rfl,?_⟩) (by assumption) ?_;rotate_left
 ·((intro w hSw;clear hSw;go_simp)<;>with_reducible rfl)
 try simp only[Act.put,zT,z0,zS]
 refine wpAnyF_take (i:=4) (oi:=⟨some 22,.load 3 (.tmp 21),_,_,_,none⟩) (v:=?_) rfl (by kernel_rfl) (by kernel_rfl) (by kernel_rfl) (by kernel_rfl) (fun _ x _ h=>leaves_congr (res74 x.tmps 22 _ (by decide) (by decide) (by decide)) _ _ _ h) (Or.inl ⟨by rfl,?_⟩) (by assumption) ?_;rotate_left
 ·((intro W hSw;have q1:=hSw.2.2.1.cells.2;clear hSw;go_simp)<;>with_reducible rfl)
 try simp only[Act.put,zT,z0,zS]
 refine rdy [5] ?_;refine arC rfl (fun K hK=>?_) ?_
 ·skip
  refine wp_store_row 26 (.tmp 6) (.tmp 18) rfl w.heap.size #[.slice xa g.vs.length xb,.slice ya g.es.length yb,.slice za g.ds.length zb] rfl rfl 26 _ hHeld.1 size26 rfl (by simp[Value.oneCell']) ?_;have hS1:=hHeld.row;refine hK.out _ _ ?_ (fun hHeld=>?_)
  ·exact hS1
  clear hK K;try simp only[Act.put,zT,z0,zS]
  refine rdy [6] ?_;refine arC rfl (fun K hK=>?_) ?_
  ·skip
   go_simp;refine hK.out _ _ ?_ (fun hHeld=>?_)
   ·exact hHeld
   clear hK K;try simp only[Act.put,zT,z0,zS]
   refine rdy [7] ?_;refine arC rfl (fun K hK=>?_) ?_
   ·skip
    go_simp;have c45:=cell_of_row _ _ 0 _ _ _ hHeld.2.1;have f45:=frozen_of_row _ _ 0 _ _ hHeld.2.1;have hS2:=hHeld.zero;go_simp;refine hK.out _ _ ?_ (fun hHeld=>?_)
    ·exact hS2
    clear hK K;try simp only[Act.put,zT,z0,zS]
    refine wpAnyF_done (by kernel_rfl) ?_ _;have hH:=Hd hHeld;go_wp2_with fail;refine leaves_cons (f:=98) (args:= #[.pointer (some ⟨w.heap.size+1,0,none⟩)]) (by simp) (by simp[go_sem]) ?_;refine(idle98 ⟨w.heap.size+1,0,none⟩ _).mono ?_;rintro e u' w'' ⟨rfl,rfl,rfl⟩;have q45:=cell_of_row _ _ 0 _ _ _ hH.out.2.1;show Leaves _ _ _ _ [] (settle _) _;exact⟨_,results_ctc (fn:=Tryz.f74) rfl _ _ w.heap.size 26 _ (0,0) _ (.int .i64 (m:Nat)) (.int .i64 0) ⟨w.heap.size+1,0,none⟩ rfl rfl rfl hH.out.1 Tryz.underlying26 rfl size26 (by simp[go_sem,q45]),hfin.out _ _ _ _ hH.out⟩
   exact AllReadyF.nil
  exact AllReadyF.nil
 exact AllReadyF.nil
theorem Decode_any(s:ByteArray)(a:Int)(w:World)(hs:s.size<=maxLen)(h1 : -9223372036854775808<=a)(h2:a<=9223372036854775807):
  Calls Tryz.prog 38 #[.string s,.int .i64 a] w (DPost s a w):=by
 obtain⟨w0,hw0⟩:∃w0,w0=w.alloc (.cells zG 26):=⟨_,rfl⟩;have B0:Below w.heap.size w w0:=by rw[hw0];exact(Below.refl _ _).alloc (Nat.le_refl _) _
 have z0:w0.heap.size=w.heap.size+1:=by rw[hw0];simp
 have g0:w0.heap[w.heap.size]?=some (.cells zG 26 (0,0)):=by rw[hw0];exact heap_alloc_new w _
 have hw0h:=Hd hw0;unfold zG nilS at hw0h;clear hw0;cases hr:rGr s.data.toList a with
 | none =>
  have k1:=Hd (decodeG_bad s a w0 hs h1 h2 hr);have hrh:=Hd hr;clear hr;go_enter Tryz.func38,Tryz.ntmps38;go_wp2_with fail;rw[<-hw0h.out];with_reducible refine k1.out.mono ?_
  intro e w2 q;unfold DPost at q;rw[hrh.out]at q;obtain⟨rfl,hb⟩:=q;have g2:=(hb.block w.heap.size (by omega)).trans g0;have hf:Hid (DPost s a w (.returned (.tuple #[.agg zG,.int .i64 0,.int .i64 30])) (w2.setRow w.heap.size zG)):=by
   unfold DPost;rw[hrh.out];exact⟨rfl,below_setRow' (B0.trans (hb.mono (by omega))) (Nat.le_refl _) _⟩
  clear hb k1
  go_wp2_with (refine wpList_store_row rfl 26 (.tmp 4) (.tmp 10) rfl w.heap.size zG rfl rfl 26 _ g2 info26' rfl zG_all ?_)
  refine bodyPost_ret (results_cell_tmp2_row (fn:=Tryz.f38) rfl _ _ w.heap.size 26 zG (0,0) _ _ _ rfl rfl rfl (setRow_heap _ _ _ _ _ _ g2) Tryz.underlying26 rfl info26') rfl ?_;exact hf.out
 | some p =>
  obtain⟨g,m⟩:=p;have k1:=Hd (decodeG_ok s a w0 hs h1 h2 g m hr);have hrh:=Hd hr;clear hr;go_enter Tryz.func38,Tryz.ntmps38;go_wp2_with fail;rw[<-hw0h.out];with_reducible refine k1.out.mono ?_
  intro e w2 q;unfold DPost at q;rw[hrh.out]at q;obtain⟨x,y,z,rfl,o1,o2,o3,hb⟩:=q;have g2:=(hb.block w.heap.size (by omega)).trans g0;have hf:Hid (DPost s a w (.returned (.tuple #[.agg #[x,y,z],.int .i64 (m:Nat),.int .i64 0])) (w2.setRow w.heap.size #[x,y,z])):=by
   unfold DPost;rw[hrh.out];exact⟨_,_,_,rfl,own_row26 (own_le o1 (by omega)) (by decide) g2 _,own_row26 (own_le o2 (by omega)) (by decide) g2 _,own_row26 (own_le o3 (by omega)) (by decide) g2 _,below_setRow' (B0.trans (hb.mono (by omega))) (Nat.le_refl _) _⟩
  obtain⟨xa,xb,rfl⟩:=o1.VL.shape;obtain⟨ya,yb,rfl⟩:=o2.EL.shape;obtain⟨za,zb,rfl⟩:=o3.DL.shape;clear hb k1 o1 o2 o3
  go_wp2_with (refine wpList_store_row rfl 26 (.tmp 4) (.tmp 10) rfl w.heap.size #[.slice xa g.vs.length xb,.slice ya g.es.length yb,.slice za g.ds.length zb] rfl rfl 26 _ g2 size26 rfl (by simp[Value.oneCell']) ?_)
  refine bodyPost_ret (results_cell_tmp2_row (fn:=Tryz.f38) rfl _ _ w.heap.size 26 #[.slice xa g.vs.length xb,.slice ya g.es.length yb,.slice za g.ds.length zb] (0,0) _ _ _ rfl rfl rfl (setRow_heap _ _ _ _ _ _ g2) Tryz.underlying26 rfl size26) rfl ?_;exact hf.out
end Go.Proofs.YtlaldnlgapeckaaGreat
