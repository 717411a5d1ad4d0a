/- Facts. -/
import Derived.Test.YtlaldnlgapeckaaGreatVZI
set_option linter.unusedSimpArgs false
set_option maxRecDepth 1000000
set_option maxHeartbeats 8000000
namespace Go.Proofs.YtlaldnlgapeckaaGreat
open Go.RowKit
theorem OtherR_any(e:Ed)(i:Int)(w:World):
    Calls Tryz.prog 31 #[e.val,.int .i64 i] w fun r w'=>r= .returned (.int .i64 (otherI e i))/\Below w.heap.size w w':=by
  have B1:Below w.heap.size w (w.alloc (.cells (edCells e) 31)):=(Below.refl _ w).alloc (Nat.le_refl _) _
  unfold Ed.val
  by_cases h1:e.src=i
  · have hr:otherI e i=e.dst:=by unfold otherI;rw[if_pos h1]
    rw[hr]
    have t1:(e.src==i)=true:=by simp[h1]
    have h1h:=Lib.hid h1
    clear h1 hr
    go_enter Tryz.func31,Tryz.ntmps31
    go_wp2_with fail
    go_ret
    exact⟨rfl,B1⟩
  · have t1:(e.src==i)=false:=by rw[beq_eq_false_iff_ne];exact h1
    by_cases h2:e.dst=i
    · have hr:otherI e i=e.src:=by unfold otherI;rw[if_neg h1,if_pos h2]
      rw[hr]
      have t2:(e.dst==i)=true:=by simp[h2]
      have h2h:=Lib.hid h2
      clear h1 hr h2
      go_enter Tryz.func31,Tryz.ntmps31
      go_wp2_with fail
      go_ret
      exact⟨rfl,B1⟩
    · have hr:otherI e i= -1:=by unfold otherI;rw[if_neg h1,if_neg h2]
      rw[hr]
      have t2:(e.dst==i)=false:=by rw[beq_eq_false_iff_ne];exact h2
      clear h1 hr h2
      go_enter Tryz.func31,Tryz.ntmps31
      go_wp2_with fail
      go_ret
      exact⟨rfl,B1⟩
def Qn(K:Act->World->Prop):Exit->Act->World->Prop
 | .normal,a,w=>K a w
 | _,_,_=>False
def sA:Code->Code
 | .seq a _=>a
 | c=>c
def sB:Code->Code
 | .seq _ b=>b
 | c=>c
def cN:Code->Code
 | .block _ c=>c
 | .loop c=>c
 | c=>c
noncomputable def tl3(n:Nat):Code:=dropC n (cN (sA (sB (sB (cN (cN (sB (sA (dropC 4 (Tryz.f3.body.getD .skip))))))))))
theorem gmr4(q0 q1 q2 q3 q4 q5 q7 q8 q9 q10 q11 q12 q13 q14 q15 q16 q17 q19 q20 q21 q22 q23 q24 q25 q26 q27 q28 q29 q30 q31 q32 q33 q34 q35 q36 q37 q38 q39 q40 q41 q42 q43 q44 q45 q46 q47 q48 q49 q50 q51 q52 q53 q54 q55 q56 q57 q58 q59 q60 q61 q62 q63 q64 q65 q66 q67 q68 q69 q70 q71 q72 q73 q74 q75 q76 q77 q78 q79 q80 q81 q82 q83 q84 q85 q86 q87 q88 q89 q90 q91 q92 q93 q94 q95 q96 q97 q98 q99 q100 q101 q102 q103 q104 q105 q106 q107 q108 q109 q110 q111 q112 q113 q114 q115 q116 q117 q118 q119 q120 q121 q122 q123 q124 q125 q126 q127 q128 q129 q130 q131 q132 q133 q134 q135 q136 q137 q138 q139 q140 q141 q142 q143 q144 q145 q146 q147 q148 q149 q150 q151 q152 q153 q154 q155 q156 q157 q158 q159 q160 q161 q162 q163 q164 q165 q166 q167 q168 q169 q170 q171 q172 q173 q174 q175 q176 q177 q178 q179 q180 q181 q182 q183 q184 q185 q186 q187 q188 q189 q190 q191 q192 q193 q194 q195 q196 q197 q198 q199 q200 q201 q202 q203 q204 q205 q206 q207 q208 q209 q210 q211 q212 q213 q214 q215 q216 q217 q218 q219 q220 q221 q222 q223 q224 q225 q226 q227 q228 q229 q230:Value)(K1:Act->World->Prop)(w0:World)(id:Int)(p18:Nat)(C:Gr)(a1 a3 a5:Option Addr)(e1 a2 e2 a4 e3 a6:Nat)(hid:Hid (inI id))(hF:Hid (Few C))
  (hg:Hid (∀W,Below w0.heap.size w0 W->W.heap[p18]?=some (.cells #[.slice a1 e1 a2,.slice a3 e2 a4,.slice a5 e3 a6] 26 (0,0))/\GV W (.agg #[.slice a1 e1 a2,.slice a3 e2 a4,.slice a5 e3 a6]) C))
  (hK1:∀(r14 r37 r38 r189 r190 r191 r192 r193 r194 r195 r196 r197 r198 r199 r200 r201 r202 r203 r204 r205 r206 r207 r208 r209 r210 r211 r212 r213 r214 r215 r216 r217 r218 r219 r220 r221 r222 r223 r224 r225 r226 r227 r228:Value) (W:World),Below w0.heap.size w0 W->K1 ⟨(q0::q1::q2::q3::q4::q5:: .int .i64 id::q7::q8::q9::q10::q11::q12::q13::r14::q15::q16::q17:: .pointer (some ⟨p18,0,none⟩)::q19::q20::q21::q22::q23::q24::q25::q26::q27::q28::q29::q30::q31::q32::q33::q34::q35::q36::r37::r38::q39::q40::q41::q42::q43::q44::q45::q46::q47::q48::q49::q50::q51::q52::q53::q54::q55::q56::q57::q58::q59::q60::q61::q62::q63::q64::q65::q66::q67::q68::q69::q70::q71::q72::q73::q74::q75::q76::q77::q78::q79::q80::q81::q82::q83::q84::q85::q86::q87::q88::q89::q90::q91::q92::q93::q94::q95::q96::q97::q98::q99::q100::q101::q102::q103::q104::q105::q106::q107::q108::q109::q110::q111::q112::q113::q114::q115::q116::q117::q118::q119::q120::q121::q122::q123::q124::q125::q126::q127::q128::q129::q130::q131::q132::q133::q134::q135::q136::q137::q138::q139::q140::q141::q142::q143::q144::q145::q146::q147::q148::q149::q150::q151::q152::q153::q154::q155::q156::q157::q158::q159::q160::q161::q162::q163::q164::q165::q166::q167::q168::q169::q170::q171::q172::q173::q174::q175::q176::q177::q178::q179::q180::q181::q182::q183::q184::q185::q186::q187::q188::r189::r190::r191::r192::r193::r194::r195::r196::r197::r198::r199::r200::r201::r202::r203::r204::r205::r206::r207::r208::r209::r210::r211::r212::r213::r214::r215::r216::r217::r218::r219::r220::r221::r222::r223::r224::r225::r226::r227::r228::q229::q230::[]).toArray,[]⟩ W) :
  Code.wp Tryz.prog (tl3 8) (Qn K1) ⟨(q0::q1::q2::q3::q4::q5:: .int .i64 id::q7::q8::q9::q10::q11::q12::q13::q14::q15::q16::q17:: .pointer (some ⟨p18,0,none⟩)::q19::q20::q21::q22::q23::q24::q25::q26::q27::q28::q29::q30::q31::q32::q33::q34::q35::q36::q37::q38::q39::q40::q41::q42::q43::q44::q45::q46::q47::q48::q49::q50::q51::q52::q53::q54::q55::q56::q57::q58::q59::q60::q61::q62::q63::q64::q65::q66::q67::q68::q69::q70::q71::q72::q73::q74::q75::q76::q77::q78::q79::q80::q81::q82::q83::q84::q85::q86::q87::q88::q89::q90::q91::q92::q93::q94::q95::q96::q97::q98::q99::q100::q101::q102::q103::q104::q105::q106::q107::q108::q109::q110::q111::q112::q113::q114::q115::q116::q117::q118::q119::q120::q121::q122::q123::q124::q125::q126::q127::q128::q129::q130::q131::q132::q133::q134::q135::q136::q137::q138::q139::q140::q141::q142::q143::q144::q145::q146::q147::q148::q149::q150::q151::q152::q153::q154::q155::q156::q157::q158::q159::q160::q161::q162::q163::q164::q165::q166::q167::q168::q169::q170::q171::q172::q173::q174::q175::q176::q177::q178::q179::q180::q181::q182::q183::q184::q185::q186::q187::q188::q189::q190::q191::q192::q193::q194::q195::q196::q197::q198::q199::q200::q201::q202::q203::q204::q205::q206::q207::q208::q209::q210::q211::q212::q213::q214::q215::q216::q217::q218::q219::q220::q221::q222::q223::q224::q225::q226::q227::q228::q229::q230::[]).toArray,[]⟩ w0:=by
  conv=>arg 2;whnf
  have hK1:=Hd hK1
  obtain⟨pv,hpv⟩:∃x,Hid (x=pk id 12):=⟨_,rfl⟩
  have cP:=Hd (fun W=>pick_any id 12 W (by have:=hid.out;unfold inI at this;omega) (by have:=hid.out;unfold inI at this;omega) (by omega) (by omega))
  rw[<-hpv.out]at cP
  have hM:e2=C.es.length:=by
   obtain⟨x,y,z,e,_,h2,_⟩:=(hg.out w0 (Below.refl _ _)).2
   injection e with e
   simp at e
   obtain⟨_,e,_⟩:=e
   rw[<-e]at h2
   obtain⟨_,_,e⟩:=h2.shape
   injection e
  replace hM:=Hd hM
  have hE:=Hd (show ∀k (hk:k<C.es.length),∃b o,a3=some ⟨b,o,none⟩/\ ∀W',Below w0.heap.size w0 W'->EdAt W' b (o+k*6) C.es[k]from fun k hk=>by
   obtain⟨x,y,z,e,_,h2,_⟩:=(hg.out w0 (Below.refl _ _)).2
   injection e with e
   simp at e
   obtain⟨_,e,_⟩:=e
   rw[<-e]at h2
   exact el_cells h2 k hk)
  have hT:=Hd (fun W (BB:Below w0.heap.size w0 W)=>box3 (hg.out W BB).1)
  have hG:=Hd (fun W (BB:Below w0.heap.size w0 W)=>(hg.out W BB).2)
  have cA:=Hd (fun W (BB:Below w0.heap.size w0 W) x=>At_any _ C x W (hG.out W BB) (by have:=hF.out.2.1;omega))
  have cR:=Hd (fun W (BB:Below w0.heap.size w0 W) x=>AtR_any _ C x W (hG.out W BB) (by have:=hF.out.2.1;omega))
  have hal:=Hd (show ∀x,(atF C.es x).length<=1000000000000 from fun x=>by
   have h:=hF.out.2.1
   have h2:(atF C.es x).length<=C.es.length:=by unfold atF;exact List.length_filter_le _ _
   omega)
  clear hg hid hG
  go_wp2_with fail
  refine(cP.out w0).mono ?_
  rintro e w' ⟨rfl,rfl⟩
  obtain⟨w1,hw1⟩:∃W,W=w0.alloc (.cells #[.int .i64 id,.int .i64 pv] 3):=⟨_,rfl⟩
  obtain⟨hb1,hrow0⟩:=box_new hw1
  obtain⟨p,hp⟩:∃p,Hid (p=w0.heap.size):=⟨_,rfl⟩
  have hb1:=Hd hb1
  have hv:=Hd (show ∀k,k<2-> ∃v:Int,∀W,Below w1.heap.size w1 W->W.cell? ⟨p,k,none⟩=some (.int .i64 v)from fun k hk=>by
   rw[hp.out]
   rcases(by omega:k=0\/k=1)with rfl|rfl
   · exact⟨id,fun W BB=>by rw[cell_of_row W _ _ _ _ _ (hrow0 W BB)];rfl⟩
   · exact⟨pv,fun W BB=>by rw[cell_of_row W _ _ _ _ _ (hrow0 W BB)];rfl⟩)
  have hfin:=Hd (show ∀W,Below w1.heap.size w1 W->Below w0.heap.size w0 W from fun W BB=>hb1.out.trans (BB.mono hb1.out.size))
  replace hw1:=Hd hw1
  clear hrow0 cP hpv hb1
  go_wp2_with fail
  rw[<-hw1.out,<-hp.out]
  clear hw1
  go_loopw [194] (fun i wr=>∃(k:Nat),k<=2/\i= .int .i64 k/\Hid (Below w1.heap.size w1 wr)) (fun i _=>2-(intOf i).toNat)
  case atStart=>exact⟨0,Nat.zero_le _,rfl,Below.refl _ _⟩
  case round =>
   obtain⟨k,hk,rfl,hb⟩:=hrel
   by_cases hlt:k<2
   rotate_left
   · have i1:¬(k:Int)<2:=by omega
     go_wp2_with fail
     exact hK1.out _ _ _ _ _ _ _ _ _ _ _ _ _ _ _ _ _ _ _ _ _ _ _ _ _ _ _ _ _ _ _ _ _ _ _ _ _ _ _ _ _ _ _ _ (hfin.out _ hb.out)
   · have i0':(0:Int)<=(k:Int):=by omega
     have i1:(k:Int)<2:=by omega
     obtain⟨x,hx⟩:=hv.out k hlt
     have u0:=hx wr hb.out
     have hr:=Hd (fun W (BB:Below wr.heap.size wr W)=>hfin.out W (hb.out.trans (BB.mono hb.out.size)))
     clear hx hv hK1
     go_upto_region 31 with(fail)
     clear u0
     refine wp_region_F (fun W=>Below wr.heap.size wr W) 999 (by kernel_rfl) (Below.refl _ wr).drew (fun hHeld=>?_)
     refine tkP 0 rfl ?_ (by(intro w h;obtain⟨u0,u1,u2⟩:=hT.out w (hr.out w h);clear h;go_simp)<;>with_reducible rfl)
     refine tkP 1 rfl ?_
     refine tkP 3 rfl ?_ (by(intro w h;obtain⟨u0,u1,u2⟩:=hT.out w (hr.out w h);clear h;go_simp)<;>with_reducible rfl)
     refine tkP 4 rfl ?_
     refine rdy [2] ?_
     refine arC rfl (fun K hK=>?_) AllReadyF.nil
     go_simp
     refine(cA.out _ (hr.out _ hHeld) x).mono ?_
     rintro e w5 ⟨v5,rfl,hv5,b5⟩
     obtain⟨c5,d5,rfl⟩:=hv5.shape
     have hb5:Below wr.heap.size wr w5:=hHeld.trans (b5.mono hHeld.size)
     have hv5:=Hd hv5
     clear b5
     go_wp2_with fail
     refine hK.out _ _ hb5 (fun hHeld=>?_)
     clear hK K
     try simp only[Act.put,zT,z0,zS]
     refine rdy [5] ?_
     refine arC rfl (fun K hK=>?_) AllReadyF.nil
     go_simp
     refine(cR.out _ (hr.out _ hb5) x).mono ?_
     rintro e w6 ⟨v6,rfl,hv6,b6⟩
     obtain⟨c6,d6,rfl⟩:=hv6.shape
     have hb6:Below wr.heap.size wr w6:=hb5.trans (b6.mono hb5.size)
     have cS:=SameEdges_any _ _ (atF C.es x) (atF C.es x) w6 (hv5.out.below b6) hv6 (hal.out x) (hal.out x)
     rw[show decide (atF C.es x=atF C.es x)=true by simp]at cS
     have cS:=Hd cS
     clear b6 hv5 hv6
     go_wp2_with fail
     refine hK.out _ _ hb6 (fun hHeld=>?_)
     clear hK K
     try simp only[Act.put,zT,z0,zS]
     refine rdy [6] ?_
     refine arC rfl (fun K hK=>?_) AllReadyF.nil
     go_simp
     refine cS.out.mono ?_
     rintro e w7 ⟨rfl,b7⟩
     have hb7:Below wr.heap.size wr w7:=hb6.trans (b7.mono hb6.size)
     clear b7 cS
     go_wp2_with fail
     refine hK.out _ _ hb7 (fun hHeld=>?_)
     clear hK K
     try simp only[Act.put,zT,z0,zS]
     refine tkP 7 rfl ?_
     refine wpAnyF_done (by kernel_rfl) ?_ _
     have hb8:=Hd hb7
     clear hHeld hb5 hb6 hb7
     go_wp2_with fail
     have hr7:=Hd (fun W (BB:Below w7.heap.size w7 W)=>hr.out W (hb8.out.trans (BB.mono hb8.out.size)))
     have hbw:=Hd (fun W (BB:Below w7.heap.size w7 W)=>hb.out.trans ((hb8.out.trans (BB.mono hb8.out.size)).mono hb.out.size))
     have hM2:e2<=1000:=by rw[hM.out];exact hF.out.2.1
     clear hr hb8 hb cA cR hal hfin
     go_loopw [38] (fun i wr=>∃(j:Nat),j<=e2/\i= .int .i64 j/\Hid (Below w7.heap.size w7 wr)) (fun i _=>e2-(intOf i).toNat)
     case atStart=>exact⟨0,Nat.zero_le _,rfl,Below.refl _ _⟩
     case round =>
      obtain⟨j,hj,rfl,hb⟩:=hrel
      have j0:(0:Int)<=(j:Int):=by omega
      have hs:=Hd (fun W (BB:Below wr.heap.size wr W)=>hr7.out W (hb.out.trans (BB.mono hb.out.size)))
      obtain⟨u0,u1,u2⟩:=hT.out wr (hs.out wr (Below.refl _ _))
      by_cases hjl:j<e2
      · have j1:(j:Int)<(e2:Int):=by omega
        have hjC:j<C.es.length:=by rw[<-hM.out];exact hjl
        obtain⟨eb,eo,rfl,hec⟩:=hE.out j hjC
        obtain⟨d,hd⟩:∃d,Hid (d=C.es[j]):=⟨C.es[j],Hd rfl⟩
        rw[<-hd.out]at hec
        have hec:=Hd hec
        clear hd
        have c1:=Hd (fun W=>Other_any d x W)
        have c2:=Hd (fun W=>OtherR_any d x W)
        unfold Ed.val at c1 c2
        go_upto_region 36 with(fail)
        clear u0 u1 u2
        refine q_region (fun W=>Below wr.heap.size wr W) (by kernel_rfl) (by kernel_rfl) (Below.refl _ wr).drew ?_
        iterate 6 (refine q_take (v:=?_) (by rfl) ?_ ?_;rotate_left;(first|((intro w h;clear h;go_simp)<;>with_reducible rfl)|((intro w h;obtain⟨u0,u1,u2⟩:=hT.out w (hs.out w h);obtain⟨t0,t1,t2,t3,t4,t5⟩:=hec.out w (hs.out w h);clear h;go_simp)<;>with_reducible rfl));try simp only[Act.put,List.setIfInBounds_toArray,List.set_cons_zero,List.set_cons_succ])
        refine q_call (v:= .int .i64 (otherI d x)) Tryz.f30 (by rfl) rfl Tryz.func30 (by kernel_rfl) (by kernel_rfl) #[.agg #[.int .i64 d.id,.int .i64 d.src,.int .i64 d.dst,.bool d.dir,.int .i64 d.wt,.int .i64 d.cap],.int .i64 x] (by simp[Act.eval]) (fun w h=>(c1.out w).mono fun e w' q=>⟨q.1,h.trans (q.2.mono h.size)⟩) ?_
        try simp only[Act.put,List.setIfInBounds_toArray,List.set_cons_zero,List.set_cons_succ]
        iterate 6 (refine q_take (v:=?_) (by rfl) ?_ ?_;rotate_left;(first|((intro w h;clear h;go_simp)<;>with_reducible rfl)|((intro w h;obtain⟨u0,u1,u2⟩:=hT.out w (hs.out w h);obtain⟨t0,t1,t2,t3,t4,t5⟩:=hec.out w (hs.out w h);clear h;go_simp)<;>with_reducible rfl));try simp only[Act.put,List.setIfInBounds_toArray,List.set_cons_zero,List.set_cons_succ])
        refine q_call (v:= .int .i64 (otherI d x)) Tryz.f31 (by rfl) rfl Tryz.func31 (by kernel_rfl) (by kernel_rfl) #[.agg #[.int .i64 d.id,.int .i64 d.src,.int .i64 d.dst,.bool d.dir,.int .i64 d.wt,.int .i64 d.cap],.int .i64 x] (by simp[Act.eval]) (fun w h=>(c2.out w).mono fun e w' q=>⟨q.1,h.trans (q.2.mono h.size)⟩) ?_
        try simp only[Act.put,List.setIfInBounds_toArray,List.set_cons_zero,List.set_cons_succ]
        refine q_take (v:=?_) (by rfl) ?_ ?_;rotate_left;((intro w h;clear h;go_simp)<;>with_reducible rfl);try simp only[Act.put,List.setIfInBounds_toArray,List.set_cons_zero,List.set_cons_succ]
        refine q_nil ?_
        intro wq hq
        have hq:=Hd (hb.out.trans (hq.mono hb.out.size))
        have hne:(otherI d x != otherI d x)=false:=by simp
        go_wp2_with fail
        go_roundw
        case rel=>exact⟨j+1,by omega,by go_num,hq⟩
        case measure=>simp[intOf];omega
      · have j1:¬(j:Int)<(e2:Int):=by omega
        have hq:=Hd (hbw.out wr hb.out)
        go_wp2_with fail
        go_roundw
        case rel=>exact⟨k+1,by omega,by go_num,hq⟩
        case measure=>simp[intOf];omega
end Go.Proofs.YtlaldnlgapeckaaGreat
