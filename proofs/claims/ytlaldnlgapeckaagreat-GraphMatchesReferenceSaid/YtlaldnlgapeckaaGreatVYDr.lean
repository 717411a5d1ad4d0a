/- Facts. -/
import Derived.Test.YtlaldnlgapeckaaGreatVYAk
set_option linter.unusedSimpArgs false
set_option maxRecDepth 100000
set_option maxHeartbeats 4000000
namespace Go.Proofs.YtlaldnlgapeckaaGreat
open Go.RowKit
theorem own_le{W:World}{base base' n:Nat}{e:TypeId}{size:Nat}{v:Value}{xs:List Value}(h:W.ownsRow base e size v n xs)(hb:base'<=base):W.ownsRow base' e size v n xs:=by
 refine⟨h.1,?_⟩;rcases h.2 with q|⟨g,cap,cur,q1,q2,q3⟩
 ·exact .inl q
 ·exact .inr ⟨g,cap,cur,q1,Nat.le_trans hb q2,q3⟩
theorem Acts.le{W:World}{B B':Nat}{m:Value}(h:Acts W B m)(hb:B'<=B):Acts W B' m:=by
 obtain⟨b,x5,x6,x9,h1,h2,h3,⟨p5,a1,a2,a3⟩,⟨p6,b1,b2,b3⟩,⟨p9,c1,c2,c3⟩⟩:=h;exact⟨b,x5,x6,x9,h1,Nat.le_trans hb h2,h3,⟨p5,a1,Nat.le_trans hb a2,a3⟩,⟨p6,b1,Nat.le_trans hb b2,b3⟩,⟨p9,c1,Nat.le_trans hb c2,c3⟩⟩
theorem size26:(Tryz.prog.info? 26).map (·.size)=some 3:=by kernel_rfl
theorem own_row26{W:World}{base n b:Nat}{e:TypeId}{size:Nat}{v:Value}{xs:List Value}{cs:Array Value}{fr:Nat × Nat}(h:W.ownsRow base e size v n xs)(he:e≠26)(hb:W.heap[b]?=some (.cells cs 26 fr))(cs':Array Value):(W.setRow b cs').ownsRow base e size v n xs:=by
 refine⟨h.1,?_⟩;rcases h.2 with q|⟨g,cap,cur,q1,q2,q3,q4⟩
 ·exact .inl q
 ·refine .inr ⟨g,cap,cur,q1,q2,?_,q4⟩;rw[setRow_other _ _ _ _ (fun e2=>by rw[e2,hb]at q3;injection q3 with q3;injection q3 with _ q3;exact he q3.symm)];exact q3
def zG:Array Value:= #[nilS,nilS,nilS]
theorem draftOf_any(v:Value)(g:Gr)(w:World)(hv:GV w v g)(hn:g.vs.length<=1000000/\g.es.length<=1000000/\g.ds.length<=1000000):
  Calls Tryz.prog 60 #[v] w fun e w'=>∃db,e= .returned (.pointer (some ⟨db,0,none⟩))/\Draft w' w.heap.size db g/\Below w.heap.size w w':=by
 obtain⟨a,b,c,rfl,h1,h2,h3⟩:=hv;obtain⟨hn1,hn2,hn3⟩:=hn;obtain⟨w1,hw1⟩:∃w1,w1=w.alloc (.cells #[a,b,c] 26):=⟨_,rfl⟩;obtain⟨hB,hz,hcell0⟩:=one_box w w1 a b c 26 hw1;have hcell:=Hd hcell0;have k1:=Hd (fun(W:World) (b0:Below w1.heap.size w1 W)=>show Calls Tryz.prog 83 #[a] W fun e w'=>∃x y z,e= .returned (.slice x y z)/\Hid (∀W2,Below w'.heap.size w' W2->OwnV W2 w.heap.size (.slice x y z) g.vs)/\Below W.heap.size W w' from by
  have hs:=b0.size;refine(CloneV_any a g.vs W ((h1.below hB).below b0) (by omega)).mono ?_;rintro e w' ⟨v',rfl,ho,hb⟩;obtain⟨x,z,rfl⟩:=ho.VL.shape;exact⟨_,_,_,rfl,fun W2 b2=>own_below (own_le ho (by omega)) b2,hb⟩)
 have k2:=Hd (fun(W:World) (b0:Below w1.heap.size w1 W)=>show Calls Tryz.prog 84 #[b] W fun e w'=>∃x y z,e= .returned (.slice x y z)/\Hid (∀W2,Below w'.heap.size w' W2->OwnEd W2 w.heap.size (.slice x y z) g.es)/\Below W.heap.size W w' from by
  have hs:=b0.size;refine(CloneE_any b g.es W ((h2.below hB).below b0) (by omega)).mono ?_;rintro e w' ⟨v',rfl,ho,hb⟩;obtain⟨x,z,rfl⟩:=ho.EL.shape;exact⟨_,_,_,rfl,fun W2 b2=>own_below (own_le ho (by omega)) b2,hb⟩)
 have k3:=Hd (fun(W:World) (b0:Below w1.heap.size w1 W)=>show Calls Tryz.prog 85 #[c] W fun e w'=>∃x y z,e= .returned (.slice x y z)/\Hid (∀W2,Below w'.heap.size w' W2->OwnI W2 w.heap.size (.slice x y z) g.ds)/\Below W.heap.size W w' from by
  have hs:=b0.size;refine(CloneI_any c g.ds W ((h3.below hB).below b0) (by omega)).mono ?_;rintro e w' ⟨v',rfl,ho,hb⟩;obtain⟨x,z,rfl⟩:=ho.DL.shape;exact⟨_,_,_,rfl,fun W2 b2=>own_below (own_le ho (by omega)) b2,hb⟩)
 have hfin:=Hd (fun(W5:World) (b5:Below w1.heap.size w1 W5) (x:Nat) (vv ev dv:Value) (hx:W5.heap[x]?=some (.cells zG 26 (0,0))) (hxl:w1.heap.size<=x) (o1:OwnV W5 w.heap.size vv g.vs) (o2:OwnEd W5 w.heap.size ev g.es) (o3:OwnI W5 w.heap.size dv g.ds) (w7:World) (b7:Below (W5.setRow x #[vv,ev,dv]).heap.size (W5.setRow x #[vv,ev,dv]) w7) (m:Value) (hm:Acts w7 (W5.setRow x #[vv,ev,dv]).heap.size m) =>
  show Draft (w7.alloc (.cells #[vv,ev,dv,m] 94)) w.heap.size w7.heap.size g/\Below w.heap.size w (w7.alloc (.cells #[vv,ev,dv,m] 94))from by
   have s5:=b5.size;have s7:=b7.size;have hsr:(W5.setRow x #[vv,ev,dv]).heap.size=W5.heap.size:=by simp
   have q1:=own_below (own_row26 o1 (by decide) hx #[vv,ev,dv]) b7;have q2:=own_below (own_row26 o2 (by decide) hx #[vv,ev,dv]) b7;have q3:=own_below (own_row26 o3 (by decide) hx #[vv,ev,dv]) b7;have ba:Below w7.heap.size w7 (w7.alloc (.cells #[vv,ev,dv,m] 94)):=(Below.refl _ w7).alloc (Nat.le_refl _) _;have bw:Below w.heap.size w w7:=(hB.trans ((b5.mono (Nat.le_refl _)).mono hB.size)).trans (⟨rfl,rfl,rfl,by simp,fun k hk=>setRow_other W5 x k _ (by omega)⟩:Below w.heap.size W5 (W5.setRow x #[vv,ev,dv])) |>.trans (b7.mono (by omega));exact⟨⟨vv,ev,dv,m,by omega,heap_alloc_new w7 _,own_below q1 ba,own_below q2 ba,own_below q3 ba,(hm.le (by omega)).kd (KD.of ba (Nat.zero_le _))⟩,bw.alloc (by omega) _⟩)
 have ka:=Hd acts_any;obtain⟨a1,a2,rfl⟩:=h1.shape;obtain⟨b1,b2,rfl⟩:=h2.shape;obtain⟨c1,c2,rfl⟩:=h3.shape;have hw2:=Hd hw1;clear hw1 hcell0 hB h1 h2 h3 hn1 hn2 hn3;generalize g.vs.length=n1 at *
 generalize g.es.length=n2 at *
 generalize g.ds.length=n3 at *
 go_enter Tryz.func60,Tryz.ntmps60;go_wp2_with fail;rw[<-hw2.out];refine wp_region_F (fun w':World=>Below w1.heap.size w1 w') 11 (by kernel_rfl) (Below.refl _ _).drew (fun hHeld=>?_);refine tkP 0 rfl ?_;refine tkP 1 rfl ?_ (by(intro w hSw;obtain⟨q0,q1,q2⟩:=hcell.out w hSw;go_simp)<;>with_reducible rfl);refine tkP 3 rfl ?_;refine tkP 4 rfl ?_ (by(intro w hSw;obtain⟨q0,q1,q2⟩:=hcell.out w hSw;go_simp)<;>with_reducible rfl);refine tkP 6 rfl ?_;refine tkP 7 rfl ?_ (by(intro w hSw;obtain⟨q0,q1,q2⟩:=hcell.out w hSw;go_simp)<;>with_reducible rfl);refine rdy [2,10] ?_;refine arC rfl (fun K hK=>?_) ?_
 ·skip
  go_simp;with_reducible refine(k1.out _ hHeld).mono ?_
  rintro e wv ⟨xv,yv,zv,rfl,oV0,b⟩;have hv:Below w1.heap.size w1 wv:=hHeld.trans (b.mono hHeld.size);have Bwv:=Hd b;clear b;go_wp2_with fail;refine hK.out _ _ ?_ (fun hHeld=>?_)
  ·exact hv
  clear hK K;try simp only[Act.put,zT,z0,zS]
  refine rdy [5,10] ?_;refine arC rfl (fun K hK=>?_) ?_
  ·skip
   go_simp;with_reducible refine(k2.out _ hHeld).mono ?_
   rintro e we ⟨xe,ye,ze,rfl,oE0,b⟩;have he:Below w1.heap.size w1 we:=hHeld.trans (b.mono hHeld.size);have Bwe:=Hd b;clear b;go_wp2_with fail;refine hK.out _ _ ?_ (fun hHeld=>?_)
   ·exact he
   clear hK K;try simp only[Act.put,zT,z0,zS]
   refine rdy [8,10] ?_;refine arC rfl (fun K hK=>?_) ?_
   ·skip
    go_simp;with_reducible refine(k3.out _ hHeld).mono ?_
    rintro e wi ⟨xi,yi,zi,rfl,oI0,b⟩;have hi:Below w1.heap.size w1 wi:=hHeld.trans (b.mono hHeld.size);have Bwi:=Hd b;clear b;go_wp2_with fail;refine hK.out _ _ ?_ (fun hHeld=>?_)
    ·exact hi
    clear hK K;try simp only[Act.put,zT,z0,zS]
    refine tkP 9 rfl ?_;refine rdy [10] ?_;refine arC rfl (fun K hK=>?_) ?_
    ·skip
     go_simp;have hA:=hHeld.alloc hHeld.size (.cells zG 26);obtain⟨xA,hxA,hxl⟩:∃xA,xA=(wi).heap.size/\Hid (w1.heap.size<=xA):=⟨_,rfl,hHeld.size⟩;obtain⟨wA,hwA⟩:∃wA,wA=(wi).alloc (.cells zG 26):=⟨_,rfl⟩;have BA:=Hd (show Below (wi).heap.size (wi) wA from by rw[hwA];exact(Below.refl _ (wi)).alloc (Nat.le_refl _) _);have hx0:=Hd (show ∀W2,Below wA.heap.size wA W2->W2.heap[xA]?=some (.cells zG 26 (0,0))from fun W2 b2=>by rw[b2.block _ (by rw[hwA,hxA];simp[heap_drew]),hwA,hxA];exact heap_alloc_new (wi) _);replace hA:Below w1.heap.size w1 wA:=by rw[hwA];exact hA
     unfold zG nilS at hwA;refine hK.out _ _ ?_ (fun hHeld=>?_)
     ·rw[<-hwA];exact hA
     clear hK K;try simp only[Act.put,zT,z0,zS]
     rw[<-hwA];replace hHeld:=hA;have hxAh:=hxA;clear hwA hA;rw[<-hxAh];clear hxA hxAh;refine rdy [11] ?_;refine AllReadyF.last (o:=⟨none,.store 26 (.tmp 3) (.tmp 13),_,_,_,none⟩) rfl (fun K hK=>?_) ?_
     ·skip
      have oV:=oV0.out _ (((((((Below.refl (wv).heap.size (wv))).trans (Bwe.out.mono ((Below.refl (wv).heap.size (wv))).size))).trans (Bwi.out.mono ((((Below.refl (wv).heap.size (wv))).trans (Bwe.out.mono ((Below.refl (wv).heap.size (wv))).size))).size))).trans (BA.out.mono ((((((Below.refl (wv).heap.size (wv))).trans (Bwe.out.mono ((Below.refl (wv).heap.size (wv))).size))).trans (Bwi.out.mono ((((Below.refl (wv).heap.size (wv))).trans (Bwe.out.mono ((Below.refl (wv).heap.size (wv))).size))).size))).size));have oE:=oE0.out _ (((((Below.refl (we).heap.size (we))).trans (Bwi.out.mono ((Below.refl (we).heap.size (we))).size))).trans (BA.out.mono ((((Below.refl (we).heap.size (we))).trans (Bwi.out.mono ((Below.refl (we).heap.size (we))).size))).size));have oI:=oI0.out _ (((Below.refl (wi).heap.size (wi))).trans (BA.out.mono ((Below.refl (wi).heap.size (wi))).size));have hx:=hx0.out _ (Below.refl (wA).heap.size (wA));refine wp_store_row 26 (.tmp 3) (.tmp 13) rfl xA #[.slice xv yv zv,.slice xe ye ze,.slice xi yi zi] rfl rfl 26 _ hx size26 rfl (by simp[Value.oneCell']) ?_;refine hK.out _ _ ?_;have hHb:=Hd hHeld;clear hK K;try simp only[Act.put,zT,z0,zS]
      refine wpAnyF_done (by kernel_rfl) ?_ _;have hf:=Hd (hfin.out wA hHb.out xA _ _ _ hx hxl.out oV oE oI);obtain⟨W6,hW6⟩:∃W6,W6=World.setRow wA xA #[.slice xv yv zv,.slice xe ye ze,.slice xi yi zi]:=⟨_,rfl⟩;have c6:W6.heap[xA]?=some (.cells #[.slice xv yv zv,.slice xe ye ze,.slice xi yi zi] 26 (0,0)):=by rw[hW6];exact setRow_heap _ _ _ _ _ _ hx
      rw[<-hW6]at hf ⊢;have c6c:=Hd (show ∀W,Below W6.heap.size W6 W->W.cell? ⟨xA,0,none⟩=some (.slice xv yv zv)/\W.cell? ⟨xA,1,none⟩=some (.slice xe ye ze)/\W.cell? ⟨xA,2,none⟩=some (.slice xi yi zi)from fun W bq=>by
       have c7:=(bq.block xA (Array.getElem?_eq_some_iff.1 c6).1).trans c6;exact⟨by rw[cell_of_row _ _ _ _ _ _ c7];rfl,by rw[cell_of_row _ _ _ _ _ _ c7];rfl,by rw[cell_of_row _ _ _ _ _ _ c7];rfl⟩)
      clear c6 hW6 hx oV oE oI;go_wp2_with fail;refine wp_region_F (fun w':World=>Below W6.heap.size W6 w') 999 (by kernel_rfl) (Below.refl _ _).drew (fun hHeld=>?_);refine tkP 0 rfl ?_ (by(intro w hSw;obtain⟨t0,t1,t2⟩:=c6c.out w hSw;go_simp)<;>with_reducible rfl);refine rdy [1] ?_;refine arC rfl (fun K hK=>?_) ?_
      ·skip
       go_simp;with_reducible refine(ka.out _).mono ?_
       rintro e w7 ⟨m,rfl,hm,b⟩;have hmc:=hm;obtain⟨mb,_,_,_,rfl,_⟩:=hmc;have h7:Below W6.heap.size W6 w7:=hHeld.trans (b.mono hHeld.size);have hm7:=Hd (hf.out w7 h7 _ (hm.le (by have:=hHeld.size;omega)));clear b hm;go_wp2_with fail;refine hK.out _ _ ?_ (fun hHeld=>?_)
       ·exact h7
       clear hK K;try simp only[Act.put,zT,z0,zS]
       refine tkP 2 rfl ?_;refine rdy [3] ?_;refine arC rfl (fun K hK=>?_) ?_
       ·skip
        go_simp;refine hK.out _ _ ?_ (fun hHeld=>?_)
        ·exact(h7.alloc h7.size _)
        clear hK K;try simp only[Act.put,zT,z0,zS]
        refine tkP 4 rfl ?_;refine wpAnyF_done (by kernel_rfl) ?_ _;go_wp2_with fail;go_ret;exact⟨_,rfl,hm7.out.1,hm7.out.2⟩
       exact AllReadyF.nil
      exact AllReadyF.nil
     exact AllReadyF.nil
    exact AllReadyF.nil
   refine arC rfl (fun K hK=>?_) ?_
   ·skip
    go_simp;have hA:=hHeld.alloc hHeld.size (.cells zG 26);obtain⟨xA,hxA,hxl⟩:∃xA,xA=(we).heap.size/\Hid (w1.heap.size<=xA):=⟨_,rfl,hHeld.size⟩;obtain⟨wA,hwA⟩:∃wA,wA=(we).alloc (.cells zG 26):=⟨_,rfl⟩;have BA:=Hd (show Below (we).heap.size (we) wA from by rw[hwA];exact(Below.refl _ (we)).alloc (Nat.le_refl _) _);have hx0:=Hd (show ∀W2,Below wA.heap.size wA W2->W2.heap[xA]?=some (.cells zG 26 (0,0))from fun W2 b2=>by rw[b2.block _ (by rw[hwA,hxA];simp[heap_drew]),hwA,hxA];exact heap_alloc_new (we) _);replace hA:Below w1.heap.size w1 wA:=by rw[hwA];exact hA
    unfold zG nilS at hwA;refine hK.out _ _ ?_ (fun hHeld=>?_)
    ·rw[<-hwA];exact hA
    clear hK K;try simp only[Act.put,zT,z0,zS]
    rw[<-hwA];replace hHeld:=hA;have hxAh:=hxA;clear hwA hA;rw[<-hxAh];clear hxA hxAh;refine rdy [8] ?_;refine arC rfl (fun K hK=>?_) ?_
    ·skip
     go_simp;with_reducible refine(k3.out _ hHeld).mono ?_
     rintro e wi ⟨xi,yi,zi,rfl,oI0,b⟩;have hi:Below w1.heap.size w1 wi:=hHeld.trans (b.mono hHeld.size);have Bwi:=Hd b;clear b;go_wp2_with fail;refine hK.out _ _ ?_ (fun hHeld=>?_)
     ·exact hi
     clear hK K;try simp only[Act.put,zT,z0,zS]
     refine tkP 9 rfl ?_;refine rdy [11] ?_;refine AllReadyF.last (o:=⟨none,.store 26 (.tmp 3) (.tmp 13),_,_,_,none⟩) rfl (fun K hK=>?_) ?_
     ·skip
      have oV:=oV0.out _ (((((((Below.refl (wv).heap.size (wv))).trans (Bwe.out.mono ((Below.refl (wv).heap.size (wv))).size))).trans (BA.out.mono ((((Below.refl (wv).heap.size (wv))).trans (Bwe.out.mono ((Below.refl (wv).heap.size (wv))).size))).size))).trans (Bwi.out.mono ((((((Below.refl (wv).heap.size (wv))).trans (Bwe.out.mono ((Below.refl (wv).heap.size (wv))).size))).trans (BA.out.mono ((((Below.refl (wv).heap.size (wv))).trans (Bwe.out.mono ((Below.refl (wv).heap.size (wv))).size))).size))).size));have oE:=oE0.out _ (((((Below.refl (we).heap.size (we))).trans (BA.out.mono ((Below.refl (we).heap.size (we))).size))).trans (Bwi.out.mono ((((Below.refl (we).heap.size (we))).trans (BA.out.mono ((Below.refl (we).heap.size (we))).size))).size));have oI:=oI0.out _ (Below.refl (wi).heap.size (wi));have hx:=hx0.out _ (((Below.refl (wA).heap.size (wA))).trans (Bwi.out.mono ((Below.refl (wA).heap.size (wA))).size));refine wp_store_row 26 (.tmp 3) (.tmp 13) rfl xA #[.slice xv yv zv,.slice xe ye ze,.slice xi yi zi] rfl rfl 26 _ hx size26 rfl (by simp[Value.oneCell']) ?_;refine hK.out _ _ ?_;have hHb:=Hd hHeld;clear hK K;try simp only[Act.put,zT,z0,zS]
      refine wpAnyF_done (by kernel_rfl) ?_ _;have hf:=Hd (hfin.out wi hHb.out xA _ _ _ hx hxl.out oV oE oI);obtain⟨W6,hW6⟩:∃W6,W6=World.setRow wi xA #[.slice xv yv zv,.slice xe ye ze,.slice xi yi zi]:=⟨_,rfl⟩;have c6:W6.heap[xA]?=some (.cells #[.slice xv yv zv,.slice xe ye ze,.slice xi yi zi] 26 (0,0)):=by rw[hW6];exact setRow_heap _ _ _ _ _ _ hx
      rw[<-hW6]at hf ⊢;have c6c:=Hd (show ∀W,Below W6.heap.size W6 W->W.cell? ⟨xA,0,none⟩=some (.slice xv yv zv)/\W.cell? ⟨xA,1,none⟩=some (.slice xe ye ze)/\W.cell? ⟨xA,2,none⟩=some (.slice xi yi zi)from fun W bq=>by
       have c7:=(bq.block xA (Array.getElem?_eq_some_iff.1 c6).1).trans c6;exact⟨by rw[cell_of_row _ _ _ _ _ _ c7];rfl,by rw[cell_of_row _ _ _ _ _ _ c7];rfl,by rw[cell_of_row _ _ _ _ _ _ c7];rfl⟩)
      clear c6 hW6 hx oV oE oI;go_wp2_with fail;refine wp_region_F (fun w':World=>Below W6.heap.size W6 w') 999 (by kernel_rfl) (Below.refl _ _).drew (fun hHeld=>?_);refine tkP 0 rfl ?_ (by(intro w hSw;obtain⟨t0,t1,t2⟩:=c6c.out w hSw;go_simp)<;>with_reducible rfl);refine rdy [1] ?_;refine arC rfl (fun K hK=>?_) ?_
      ·skip
       go_simp;with_reducible refine(ka.out _).mono ?_
       rintro e w7 ⟨m,rfl,hm,b⟩;have hmc:=hm;obtain⟨mb,_,_,_,rfl,_⟩:=hmc;have h7:Below W6.heap.size W6 w7:=hHeld.trans (b.mono hHeld.size);have hm7:=Hd (hf.out w7 h7 _ (hm.le (by have:=hHeld.size;omega)));clear b hm;go_wp2_with fail;refine hK.out _ _ ?_ (fun hHeld=>?_)
       ·exact h7
       clear hK K;try simp only[Act.put,zT,z0,zS]
       refine tkP 2 rfl ?_;refine rdy [3] ?_;refine arC rfl (fun K hK=>?_) ?_
       ·skip
        go_simp;refine hK.out _ _ ?_ (fun hHeld=>?_)
        ·exact(h7.alloc h7.size _)
        clear hK K;try simp only[Act.put,zT,z0,zS]
        refine tkP 4 rfl ?_;refine wpAnyF_done (by kernel_rfl) ?_ _;go_wp2_with fail;go_ret;exact⟨_,rfl,hm7.out.1,hm7.out.2⟩
       exact AllReadyF.nil
      exact AllReadyF.nil
     exact AllReadyF.nil
    exact AllReadyF.nil
   exact AllReadyF.nil
  refine arC rfl (fun K hK=>?_) ?_
  ·skip
   go_simp;have hA:=hHeld.alloc hHeld.size (.cells zG 26);obtain⟨xA,hxA,hxl⟩:∃xA,xA=(wv).heap.size/\Hid (w1.heap.size<=xA):=⟨_,rfl,hHeld.size⟩;obtain⟨wA,hwA⟩:∃wA,wA=(wv).alloc (.cells zG 26):=⟨_,rfl⟩;have BA:=Hd (show Below (wv).heap.size (wv) wA from by rw[hwA];exact(Below.refl _ (wv)).alloc (Nat.le_refl _) _);have hx0:=Hd (show ∀W2,Below wA.heap.size wA W2->W2.heap[xA]?=some (.cells zG 26 (0,0))from fun W2 b2=>by rw[b2.block _ (by rw[hwA,hxA];simp[heap_drew]),hwA,hxA];exact heap_alloc_new (wv) _);replace hA:Below w1.heap.size w1 wA:=by rw[hwA];exact hA
   unfold zG nilS at hwA;refine hK.out _ _ ?_ (fun hHeld=>?_)
   ·rw[<-hwA];exact hA
   clear hK K;try simp only[Act.put,zT,z0,zS]
   rw[<-hwA];replace hHeld:=hA;have hxAh:=hxA;clear hwA hA;rw[<-hxAh];clear hxA hxAh;refine rdy [5] ?_;refine arC rfl (fun K hK=>?_) ?_
   ·skip
    go_simp;with_reducible refine(k2.out _ hHeld).mono ?_
    rintro e we ⟨xe,ye,ze,rfl,oE0,b⟩;have he:Below w1.heap.size w1 we:=hHeld.trans (b.mono hHeld.size);have Bwe:=Hd b;clear b;go_wp2_with fail;refine hK.out _ _ ?_ (fun hHeld=>?_)
    ·exact he
    clear hK K;try simp only[Act.put,zT,z0,zS]
    refine rdy [8] ?_;refine arC rfl (fun K hK=>?_) ?_
    ·skip
     go_simp;with_reducible refine(k3.out _ hHeld).mono ?_
     rintro e wi ⟨xi,yi,zi,rfl,oI0,b⟩;have hi:Below w1.heap.size w1 wi:=hHeld.trans (b.mono hHeld.size);have Bwi:=Hd b;clear b;go_wp2_with fail;refine hK.out _ _ ?_ (fun hHeld=>?_)
     ·exact hi
     clear hK K;try simp only[Act.put,zT,z0,zS]
     refine tkP 9 rfl ?_;refine rdy [11] ?_;refine AllReadyF.last (o:=⟨none,.store 26 (.tmp 3) (.tmp 13),_,_,_,none⟩) rfl (fun K hK=>?_) ?_
     ·skip
      have oV:=oV0.out _ (((((((Below.refl (wv).heap.size (wv))).trans (BA.out.mono ((Below.refl (wv).heap.size (wv))).size))).trans (Bwe.out.mono ((((Below.refl (wv).heap.size (wv))).trans (BA.out.mono ((Below.refl (wv).heap.size (wv))).size))).size))).trans (Bwi.out.mono ((((((Below.refl (wv).heap.size (wv))).trans (BA.out.mono ((Below.refl (wv).heap.size (wv))).size))).trans (Bwe.out.mono ((((Below.refl (wv).heap.size (wv))).trans (BA.out.mono ((Below.refl (wv).heap.size (wv))).size))).size))).size));have oE:=oE0.out _ (((Below.refl (we).heap.size (we))).trans (Bwi.out.mono ((Below.refl (we).heap.size (we))).size));have oI:=oI0.out _ (Below.refl (wi).heap.size (wi));have hx:=hx0.out _ (((((Below.refl (wA).heap.size (wA))).trans (Bwe.out.mono ((Below.refl (wA).heap.size (wA))).size))).trans (Bwi.out.mono ((((Below.refl (wA).heap.size (wA))).trans (Bwe.out.mono ((Below.refl (wA).heap.size (wA))).size))).size));refine wp_store_row 26 (.tmp 3) (.tmp 13) rfl xA #[.slice xv yv zv,.slice xe ye ze,.slice xi yi zi] rfl rfl 26 _ hx size26 rfl (by simp[Value.oneCell']) ?_;refine hK.out _ _ ?_;have hHb:=Hd hHeld;clear hK K;try simp only[Act.put,zT,z0,zS]
      refine wpAnyF_done (by kernel_rfl) ?_ _;have hf:=Hd (hfin.out wi hHb.out xA _ _ _ hx hxl.out oV oE oI);obtain⟨W6,hW6⟩:∃W6,W6=World.setRow wi xA #[.slice xv yv zv,.slice xe ye ze,.slice xi yi zi]:=⟨_,rfl⟩;have c6:W6.heap[xA]?=some (.cells #[.slice xv yv zv,.slice xe ye ze,.slice xi yi zi] 26 (0,0)):=by rw[hW6];exact setRow_heap _ _ _ _ _ _ hx
      rw[<-hW6]at hf ⊢;have c6c:=Hd (show ∀W,Below W6.heap.size W6 W->W.cell? ⟨xA,0,none⟩=some (.slice xv yv zv)/\W.cell? ⟨xA,1,none⟩=some (.slice xe ye ze)/\W.cell? ⟨xA,2,none⟩=some (.slice xi yi zi)from fun W bq=>by
       have c7:=(bq.block xA (Array.getElem?_eq_some_iff.1 c6).1).trans c6;exact⟨by rw[cell_of_row _ _ _ _ _ _ c7];rfl,by rw[cell_of_row _ _ _ _ _ _ c7];rfl,by rw[cell_of_row _ _ _ _ _ _ c7];rfl⟩)
      clear c6 hW6 hx oV oE oI;go_wp2_with fail;refine wp_region_F (fun w':World=>Below W6.heap.size W6 w') 999 (by kernel_rfl) (Below.refl _ _).drew (fun hHeld=>?_);refine tkP 0 rfl ?_ (by(intro w hSw;obtain⟨t0,t1,t2⟩:=c6c.out w hSw;go_simp)<;>with_reducible rfl);refine rdy [1] ?_;refine arC rfl (fun K hK=>?_) ?_
      ·skip
       go_simp;with_reducible refine(ka.out _).mono ?_
       rintro e w7 ⟨m,rfl,hm,b⟩;have hmc:=hm;obtain⟨mb,_,_,_,rfl,_⟩:=hmc;have h7:Below W6.heap.size W6 w7:=hHeld.trans (b.mono hHeld.size);have hm7:=Hd (hf.out w7 h7 _ (hm.le (by have:=hHeld.size;omega)));clear b hm;go_wp2_with fail;refine hK.out _ _ ?_ (fun hHeld=>?_)
       ·exact h7
       clear hK K;try simp only[Act.put,zT,z0,zS]
       refine tkP 2 rfl ?_;refine rdy [3] ?_;refine arC rfl (fun K hK=>?_) ?_
       ·skip
        go_simp;refine hK.out _ _ ?_ (fun hHeld=>?_)
        ·exact(h7.alloc h7.size _)
        clear hK K;try simp only[Act.put,zT,z0,zS]
        refine tkP 4 rfl ?_;refine wpAnyF_done (by kernel_rfl) ?_ _;go_wp2_with fail;go_ret;exact⟨_,rfl,hm7.out.1,hm7.out.2⟩
       exact AllReadyF.nil
      exact AllReadyF.nil
     exact AllReadyF.nil
    exact AllReadyF.nil
   exact AllReadyF.nil
  exact AllReadyF.nil
 refine arC rfl (fun K hK=>?_) ?_
 ·skip
  go_simp;have hA:=hHeld.alloc hHeld.size (.cells zG 26);obtain⟨xA,hxA,hxl⟩:∃xA,xA=(w1.drew).heap.size/\Hid (w1.heap.size<=xA):=⟨_,rfl,hHeld.size⟩;obtain⟨wA,hwA⟩:∃wA,wA=(w1.alloc (.cells zG 26)).drew:=⟨_,rfl⟩;have BA:=Hd (show Below (w1.drew).heap.size (w1.drew) wA from by rw[hwA];exact(Below.refl _ (w1.drew)).alloc (Nat.le_refl _) _);have hx0:=Hd (show ∀W2,Below wA.heap.size wA W2->W2.heap[xA]?=some (.cells zG 26 (0,0))from fun W2 b2=>by rw[b2.block _ (by rw[hwA,hxA];simp[heap_drew]),hwA,hxA];exact heap_alloc_new (w1.drew) _);replace hA:Below w1.heap.size w1 wA:=by rw[hwA];exact hA
  unfold zG nilS at hwA;refine hK.out _ _ ?_ (fun hHeld=>?_)
  ·rw[<-hwA];exact hA
  clear hK K;try simp only[Act.put,zT,z0,zS]
  rw[<-hwA];replace hHeld:=hA;clear hwA hA;simp only[heap_drew]at hxA;subst hxA;refine rdy [2] ?_;refine arC rfl (fun K hK=>?_) ?_
  ·skip
   go_simp;with_reducible refine(k1.out _ hHeld).mono ?_
   rintro e wv ⟨xv,yv,zv,rfl,oV0,b⟩;have hv:Below w1.heap.size w1 wv:=hHeld.trans (b.mono hHeld.size);have Bwv:=Hd b;clear b;go_wp2_with fail;refine hK.out _ _ ?_ (fun hHeld=>?_)
   ·exact hv
   clear hK K;try simp only[Act.put,zT,z0,zS]
   refine rdy [5] ?_;refine arC rfl (fun K hK=>?_) ?_
   ·skip
    go_simp;with_reducible refine(k2.out _ hHeld).mono ?_
    rintro e we ⟨xe,ye,ze,rfl,oE0,b⟩;have he:Below w1.heap.size w1 we:=hHeld.trans (b.mono hHeld.size);have Bwe:=Hd b;clear b;go_wp2_with fail;refine hK.out _ _ ?_ (fun hHeld=>?_)
    ·exact he
    clear hK K;try simp only[Act.put,zT,z0,zS]
    refine rdy [8] ?_;refine arC rfl (fun K hK=>?_) ?_
    ·skip
     go_simp;with_reducible refine(k3.out _ hHeld).mono ?_
     rintro e wi ⟨xi,yi,zi,rfl,oI0,b⟩;have hi:Below w1.heap.size w1 wi:=hHeld.trans (b.mono hHeld.size);have Bwi:=Hd b;clear b;go_wp2_with fail;refine hK.out _ _ ?_ (fun hHeld=>?_)
     ·exact hi
     clear hK K;try simp only[Act.put,zT,z0,zS]
     refine tkP 9 rfl ?_;refine rdy [11] ?_;refine AllReadyF.last (o:=⟨none,.store 26 (.tmp 3) (.tmp 13),_,_,_,none⟩) rfl (fun K hK=>?_) ?_
     ·skip
      have oV:=oV0.out _ (((((Below.refl (wv).heap.size (wv))).trans (Bwe.out.mono ((Below.refl (wv).heap.size (wv))).size))).trans (Bwi.out.mono ((((Below.refl (wv).heap.size (wv))).trans (Bwe.out.mono ((Below.refl (wv).heap.size (wv))).size))).size));have oE:=oE0.out _ (((Below.refl (we).heap.size (we))).trans (Bwi.out.mono ((Below.refl (we).heap.size (we))).size));have oI:=oI0.out _ (Below.refl (wi).heap.size (wi));have hx:=hx0.out _ (((((((Below.refl (wA).heap.size (wA))).trans (Bwv.out.mono ((Below.refl (wA).heap.size (wA))).size))).trans (Bwe.out.mono ((((Below.refl (wA).heap.size (wA))).trans (Bwv.out.mono ((Below.refl (wA).heap.size (wA))).size))).size))).trans (Bwi.out.mono ((((((Below.refl (wA).heap.size (wA))).trans (Bwv.out.mono ((Below.refl (wA).heap.size (wA))).size))).trans (Bwe.out.mono ((((Below.refl (wA).heap.size (wA))).trans (Bwv.out.mono ((Below.refl (wA).heap.size (wA))).size))).size))).size));refine wp_store_row 26 (.tmp 3) (.tmp 13) rfl w1.heap.size #[.slice xv yv zv,.slice xe ye ze,.slice xi yi zi] rfl rfl 26 _ hx size26 rfl (by simp[Value.oneCell']) ?_;refine hK.out _ _ ?_;have hHb:=Hd hHeld;clear hK K;try simp only[Act.put,zT,z0,zS]
      refine wpAnyF_done (by kernel_rfl) ?_ _;have hf:=Hd (hfin.out wi hHb.out w1.heap.size _ _ _ hx hxl.out oV oE oI);obtain⟨W6,hW6⟩:∃W6,W6=World.setRow wi w1.heap.size #[.slice xv yv zv,.slice xe ye ze,.slice xi yi zi]:=⟨_,rfl⟩;have c6:W6.heap[w1.heap.size]?=some (.cells #[.slice xv yv zv,.slice xe ye ze,.slice xi yi zi] 26 (0,0)):=by rw[hW6];exact setRow_heap _ _ _ _ _ _ hx
      rw[<-hW6]at hf ⊢;have c6c:=Hd (show ∀W,Below W6.heap.size W6 W->W.cell? ⟨w1.heap.size,0,none⟩=some (.slice xv yv zv)/\W.cell? ⟨w1.heap.size,1,none⟩=some (.slice xe ye ze)/\W.cell? ⟨w1.heap.size,2,none⟩=some (.slice xi yi zi)from fun W bq=>by
       have c7:=(bq.block w1.heap.size (Array.getElem?_eq_some_iff.1 c6).1).trans c6;exact⟨by rw[cell_of_row _ _ _ _ _ _ c7];rfl,by rw[cell_of_row _ _ _ _ _ _ c7];rfl,by rw[cell_of_row _ _ _ _ _ _ c7];rfl⟩)
      clear c6 hW6 hx oV oE oI;go_wp2_with fail;refine wp_region_F (fun w':World=>Below W6.heap.size W6 w') 999 (by kernel_rfl) (Below.refl _ _).drew (fun hHeld=>?_);refine tkP 0 rfl ?_ (by(intro w hSw;obtain⟨t0,t1,t2⟩:=c6c.out w hSw;go_simp)<;>with_reducible rfl);refine rdy [1] ?_;refine arC rfl (fun K hK=>?_) ?_
      ·skip
       go_simp;with_reducible refine(ka.out _).mono ?_
       rintro e w7 ⟨m,rfl,hm,b⟩;have hmc:=hm;obtain⟨mb,_,_,_,rfl,_⟩:=hmc;have h7:Below W6.heap.size W6 w7:=hHeld.trans (b.mono hHeld.size);have hm7:=Hd (hf.out w7 h7 _ (hm.le (by have:=hHeld.size;omega)));clear b hm;go_wp2_with fail;refine hK.out _ _ ?_ (fun hHeld=>?_)
       ·exact h7
       clear hK K;try simp only[Act.put,zT,z0,zS]
       refine tkP 2 rfl ?_;refine rdy [3] ?_;refine arC rfl (fun K hK=>?_) ?_
       ·skip
        go_simp;refine hK.out _ _ ?_ (fun hHeld=>?_)
        ·exact(h7.alloc h7.size _)
        clear hK K;try simp only[Act.put,zT,z0,zS]
        refine tkP 4 rfl ?_;refine wpAnyF_done (by kernel_rfl) ?_ _;go_wp2_with fail;go_ret;exact⟨_,rfl,hm7.out.1,hm7.out.2⟩
       exact AllReadyF.nil
      exact AllReadyF.nil
     exact AllReadyF.nil
    exact AllReadyF.nil
   exact AllReadyF.nil
  exact AllReadyF.nil
 exact AllReadyF.nil
end Go.Proofs.YtlaldnlgapeckaaGreat
