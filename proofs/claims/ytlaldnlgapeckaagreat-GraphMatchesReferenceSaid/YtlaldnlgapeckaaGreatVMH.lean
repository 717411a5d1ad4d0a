/- Facts. -/
import Derived.Test.YtlaldnlgapeckaaGreatVMG
set_option linter.unusedSimpArgs false
set_option maxRecDepth 1000000
set_option maxHeartbeats 8000000
namespace Go.Proofs.YtlaldnlgapeckaaGreat
open Go.RowKit
theorem gmr2(q0 q1 q2 q3 q4 q5 q7 q8 q9 q10 q11 q12 q13 q14 q15 q16 q17 q20 q21 q22 q23 q24 q25 q26 q27 q28 q29 q30 q31 q32 q33 q34 q35 q36 q37 q38 q39 q40 q41 q42 q43 q44 q45 q46 q47 q48 q49 q50 q51 q52 q53 q54 q55 q56 q57 q58 q59 q60 q61 q62 q63 q64 q65 q66 q67 q68 q69 q70 q71 q72 q73 q74 q75 q76 q77 q78 q79 q80 q81 q82 q83 q84 q85 q86 q87 q88 q89 q90 q91 q92 q93 q94 q95 q96 q97 q98 q99 q100 q101 q102 q103 q104 q105 q106 q107 q108 q109 q110 q111 q112 q113 q114 q115 q116 q117 q118 q119 q120 q121 q122 q123 q124 q125 q126 q127 q128 q129 q130 q131 q132 q133 q134 q135 q136 q137 q138 q139 q140 q141 q142 q143 q144 q145 q146 q147 q148 q149 q150 q151 q152 q153 q154 q155 q156 q157 q158 q159 q160 q161 q162 q163 q164 q165 q166 q167 q168 q169 q170 q171 q172 q173 q174 q175 q176 q177 q178 q179 q180 q181 q182 q183 q184 q185 q186 q187 q188 q189 q190 q191 q192 q193 q194 q195 q196 q197 q198 q199 q200 q201 q202 q203 q204 q205 q206 q207 q208 q209 q210 q211 q212 q213 q214 q215 q216 q217 q218 q219 q220 q221 q222 q223 q224 q225 q226 q227 q228 q229 q230:Value)(K1:Act->World->Prop)(w0:World)(id:Int)(p18 xb xo vn vd:Nat)(C:Gr)(c0:Ch)(l:List Ch)(a1 a3 a5:Option Addr)(e1 a2 e2 a4 e3 a6:Nat)(hid:Hid (inI id))(hF:Hid (Few C))
  (hg:Hid (∀W,Below w0.heap.size w0 W->W.heap[p18]?=some (.cells #[.slice a1 e1 a2,.slice a3 e2 a4,.slice a5 e3 a6] 26 (0,0))/\GV W (.agg #[.slice a1 e1 a2,.slice a3 e2 a4,.slice a5 e3 a6]) C))
  (hL:Hid (∀W,Below w0.heap.size w0 W->LC W (.slice (some ⟨xb,xo,none⟩) vn vd) (c0::l))) (hl:Hid ((c0::l).length<=100/\(∀c∈c0::l,c.ends.length<=1000/\c.deps.length<=1000)/\ ∀c∈c0::l,chIn c)) (hvv:Hid (1<=vn/\vn<=vd/\vn<=1000/\vd<=9223372036854775807))
  (hK1:∀(r14 r21 r22 r23 r24 r25 r26 r27 r28 r29 r30 r31 r32 r33 r34 r35 r37 r38 r97 r98 r99 r100 r101 r102 r103 r104 r105 r106 r107 r108 r109 r110 r111 r112 r113 r114 r115 r116 r117 r118 r119 r120 r121 r122 r123 r124 r125 r126 r127 r128 r129 r130 r131 r132 r133 r134 r135 r136 r137 r138 r139 r140 r141 r142 r143 r144 r145 r146 r147 r148 r149 r150 r151 r152 r153 r154 r155 r156 r157 r158 r159 r160 r161 r162 r163 r164 r165 r166 r167 r168 r169 r170 r171 r172 r173 r174 r175 r176 r177 r178 r179 r180 r181 r182 r183 r184 r185 r186 r187 r188 r189 r190 r191 r192 r193 r194 r195 r196 r197 r198 r199 r200 r201 r202 r203 r204 r205 r206 r207 r208 r209 r210 r211 r212 r213 r214 r215 r216 r217 r218 r219 r220 r221 r222 r223 r224 r225 r226 r227 r228:Value) (W:World),Below w0.heap.size w0 W->K1 ⟨(q0::q1::q2::q3::q4::q5:: .int .i64 id::q7::q8::q9::q10::q11::q12::q13::r14::q15::q16::q17:: .pointer (some ⟨p18,0,none⟩):: .slice (some ⟨xb,xo,none⟩) vn vd::q20::r21::r22::r23::r24::r25::r26::r27::r28::r29::r30::r31::r32::r33::r34::r35::q36::r37::r38::q39::q40::q41::q42::q43::q44::q45::q46::q47::q48::q49::q50::q51::q52::q53::q54::q55::q56::q57::q58::q59::q60::q61::q62::q63::q64::q65::q66::q67::q68::q69::q70::q71::q72::q73::q74::q75::q76::q77::q78::q79::q80::q81::q82::q83::q84::q85::q86::q87::q88::q89::q90::q91::q92::q93::q94::q95::q96::r97::r98::r99::r100::r101::r102::r103::r104::r105::r106::r107::r108::r109::r110::r111::r112::r113::r114::r115::r116::r117::r118::r119::r120::r121::r122::r123::r124::r125::r126::r127::r128::r129::r130::r131::r132::r133::r134::r135::r136::r137::r138::r139::r140::r141::r142::r143::r144::r145::r146::r147::r148::r149::r150::r151::r152::r153::r154::r155::r156::r157::r158::r159::r160::r161::r162::r163::r164::r165::r166::r167::r168::r169::r170::r171::r172::r173::r174::r175::r176::r177::r178::r179::r180::r181::r182::r183::r184::r185::r186::r187::r188::r189::r190::r191::r192::r193::r194::r195::r196::r197::r198::r199::r200::r201::r202::r203::r204::r205::r206::r207::r208::r209::r210::r211::r212::r213::r214::r215::r216::r217::r218::r219::r220::r221::r222::r223::r224::r225::r226::r227::r228::q229::q230::[]).toArray,[]⟩ W) :
  Code.wp Tryz.prog (tl3 4) (Qn K1) ⟨(q0::q1::q2::q3::q4::q5:: .int .i64 id::q7::q8::q9::q10::q11::q12::q13::q14::q15::q16::q17:: .pointer (some ⟨p18,0,none⟩):: .slice (some ⟨xb,xo,none⟩) vn vd::q20::q21::q22::q23::q24::q25::q26::q27::q28::q29::q30::q31::q32::q33::q34::q35::q36::q37::q38::q39::q40::q41::q42::q43::q44::q45::q46::q47::q48::q49::q50::q51::q52::q53::q54::q55::q56::q57::q58::q59::q60::q61::q62::q63::q64::q65::q66::q67::q68::q69::q70::q71::q72::q73::q74::q75::q76::q77::q78::q79::q80::q81::q82::q83::q84::q85::q86::q87::q88::q89::q90::q91::q92::q93::q94::q95::q96::q97::q98::q99::q100::q101::q102::q103::q104::q105::q106::q107::q108::q109::q110::q111::q112::q113::q114::q115::q116::q117::q118::q119::q120::q121::q122::q123::q124::q125::q126::q127::q128::q129::q130::q131::q132::q133::q134::q135::q136::q137::q138::q139::q140::q141::q142::q143::q144::q145::q146::q147::q148::q149::q150::q151::q152::q153::q154::q155::q156::q157::q158::q159::q160::q161::q162::q163::q164::q165::q166::q167::q168::q169::q170::q171::q172::q173::q174::q175::q176::q177::q178::q179::q180::q181::q182::q183::q184::q185::q186::q187::q188::q189::q190::q191::q192::q193::q194::q195::q196::q197::q198::q199::q200::q201::q202::q203::q204::q205::q206::q207::q208::q209::q210::q211::q212::q213::q214::q215::q216::q217::q218::q219::q220::q221::q222::q223::q224::q225::q226::q227::q228::q229::q230::[]).toArray,[]⟩ w0:=by
  conv=>arg 2;whnf
  replace hK1:=Hd hK1
  have hN:=Hd (show vn=(c0::l).length by obtain⟨_,_,e⟩:=(hL.out w0 (Below.refl _ _)).shape;injection e)
  have hvb:vn<=1000:=hvv.out.2.2.1
  have hgr:=Hd (fun W (BB:Below w0.heap.size w0 W)=>And.intro (box3 (hg.out W BB).1) (hg.out W BB).2)
  go_wp2_with fail
  go_loopw [21] (fun i wr=>∃(j:Nat),j<=vn/\i= .int .i64 j/\Hid (Below w0.heap.size w0 wr)) (fun i _=>vn-(intOf i).toNat)
  case atStart=>exact⟨0,Nat.zero_le _,rfl,Below.refl _ _⟩
  case round =>
   obtain⟨j,hj,rfl,hb⟩:=hrel
   by_cases hlt:j<vn
   rotate_left
   · have i1:¬(j:Int)<(vn:Int):=by omega
     rename_i K0 hK0
     replace hK0:=Hd hK0
     clear hgr
     go_wp2_with fail
     refine hK0.out _ _ ?_
     refine wp_eq (D:=tl3 5) (by kernel_rfl) ?_
     have hg4:=Hd (show ∀W,Below wr.heap.size wr W->W.heap[p18]?=some (.cells #[.slice a1 e1 a2,.slice a3 e2 a4,.slice a5 e3 a6] 26 (0,0))/\GV W (.agg #[.slice a1 e1 a2,.slice a3 e2 a4,.slice a5 e3 a6]) C from fun W BB=>hg.out W (hb.out.trans (BB.mono hb.out.size)))
     have hL4:=Hd (show ∀W,Below wr.heap.size wr W->LC W (.slice (some ⟨xb,xo,none⟩) vn vd) (c0::l)from fun W BB=>hL.out W (hb.out.trans (BB.mono hb.out.size)))
     have hl4:=Hd (show l.length<=100/\(∀c∈l,c.ends.length<=1000/\c.deps.length<=1000)/\ ∀c∈l,chIn c from⟨by have:=hl.out.1;simp at this;omega,fun c hc=>hl.out.2.1 c (List.mem_cons_of_mem _ hc),fun c hc=>hl.out.2.2 c (List.mem_cons_of_mem _ hc)⟩)
     refine gmr3 _ _ _ _ _ _ _ _ _ _ _ _ _ _ _ _ _ _ _ _ _ _ _ _ _ _ _ _ _ _ _ _ _ _ _ _ _ _ _ _ _ _ _ _ _ _ _ _ _ _ _ _ _ _ _ _ _ _ _ _ _ _ _ _ _ _ _ _ _ _ _ _ _ _ _ _ _ _ _ _ _ _ _ _ _ _ _ _ _ _ _ _ _ _ _ _ _ _ _ _ _ _ _ _ _ _ _ _ _ _ _ _ _ _ _ _ _ _ _ _ _ _ _ _ _ _ _ _ _ _ _ _ _ _ _ _ _ _ _ _ _ _ _ _ _ _ _ _ _ _ _ _ _ _ _ _ _ _ _ _ _ _ _ _ _ _ _ _ _ _ _ _ _ _ _ _ _ _ _ _ _ _ _ _ _ _ _ _ _ _ _ _ _ _ _ _ _ _ _ _ _ _ _ _ _ _ _ _ _ _ _ _ _ _ _ _ _ _ _ _ _ _ _ _ _ _ _ _ _ wr id p18 xb xo vn vd C c0 l a1 a3 a5 e1 a2 e2 a4 e3 a6 hid hF hg4 hL4 hl4 hvv.out (fun _ _ _ _ _ _ _ _ _ _ _ _ _ _ _ _ _ _ _ _ _ _ _ _ _ _ _ _ _ _ _ _ _ _ _ _ _ _ _ _ _ _ _ _ _ _ _ _ _ _ _ _ _ _ _ _ _ _ _ _ _ _ _ _ _ _ _ _ _ _ _ _ _ _ _ _ _ _ _ W BB=>?_)
     exact hK1.out _ _ _ _ _ _ _ _ _ _ _ _ _ _ _ _ _ _ _ _ _ _ _ _ _ _ _ _ _ _ _ _ _ _ _ _ _ _ _ _ _ _ _ _ _ _ _ _ _ _ _ _ _ _ _ _ _ _ _ _ _ _ _ _ _ _ _ _ _ _ _ _ _ _ _ _ _ _ _ _ _ _ _ _ _ _ _ _ _ _ _ _ _ _ _ _ _ _ _ _ _ _ _ _ _ _ _ _ _ _ _ _ _ _ _ _ _ _ _ _ _ _ _ _ _ _ _ _ _ _ _ _ _ _ _ _ _ _ _ _ _ _ _ _ _ _ _ _ _ _ _ (hb.out.trans (BB.mono hb.out.size))
   · have j0:(0:Int)<=(j:Int):=by omega
     have j1:(j:Int)<(vn:Int):=by omega
     have hjl:j<(c0::l).length:=by rw[<-hN.out];exact hlt
     obtain⟨p,po,pc,x,y,e,hp,hat,hx,hy⟩:=(hL.out w0 (Below.refl _ _)).at_ j hjl
     have ee:p=xb/\po=xo:=by
      injection e with e _ _
      injection e with e
      injection e with e e'
      exact⟨e.symm,e'.symm⟩
     obtain⟨rfl,rfl⟩:=ee
     clear e
     obtain⟨xa,xc,rfl⟩:=hx.shape
     obtain⟨ya,yc,rfl⟩:=hy.shape
     have hcs:=Hd (hl.out.2.1 _ (List.getElem_mem hjl))
     have hcn:=Hd (hl.out.2.2 _ (List.getElem_mem hjl))
     obtain⟨c,hc⟩:∃c,Hid (c=(c0::l)[j]):=⟨(c0::l)[j],Hd rfl⟩
     rw[<-hc.out]at hat hx hy hcs hcn
     clear hc
     obtain⟨G,E,hFG,cU⟩:=apU C c hF.out hcs.out hcn.out
     obtain⟨L,E2,hFL,cI⟩:=invU C c hF.out hcs.out hcn.out
     have hCV0:=Hd (fun W (BB:Below w0.heap.size w0 W)=>(⟨_,_,rfl,hx.below BB,hy.below BB⟩:CV W (.agg (chCells c (.slice xa c.ends.length xc) (.slice ya c.deps.length yc))) c))
     have hC0:=Hd (fun W (BB:Below w0.heap.size w0 W)=>(chAt_below hat hp BB).cells)
     obtain⟨M1,hM1⟩:∃N,Hid (N=c.ends.length):=⟨_,rfl⟩
     obtain⟨M2,hM2⟩:∃N,Hid (N=c.deps.length):=⟨_,rfl⟩
     rw[<-hM1.out,<-hM2.out]at hCV0 hC0
     unfold chCells at hCV0
     clear hat hx hy hcs hcn hp hM1 hM2 hK1
     have b0:=Hd (fun W (BB:Below wr.heap.size wr W)=>hb.out.trans (BB.mono hb.out.size))
     have hT:=Hd (fun W (BB:Below wr.heap.size wr W)=>(hgr.out W (b0.out W BB)).1)
     have hC:=Hd (fun W (BB:Below wr.heap.size wr W)=>hC0.out W (b0.out W BB))
     have cU2:=Hd (fun f hf W (BB:Below wr.heap.size wr W)=>cU f hf _ _ W (hgr.out W (b0.out W BB)).2 (hCV0.out W (b0.out W BB)))
     have cI2:=Hd (fun f hf W (BB:Below wr.heap.size wr W)=>cI f hf _ _ W (hgr.out W (b0.out W BB)).2 (hCV0.out W (b0.out W BB)))
     clear cU cI hCV0 hC0
     go_upto_region 18 with(fail)
     obtain⟨nB,hnB⟩:∃n,Hid (n=wr.heap.size):=⟨_,rfl⟩
     have hle:=Hd (show ∀W,Below nB wr W->nB<=W.heap.size from fun W b=>by rw[hnB.out];exact b.size)
     have hRefl:=Hd (show Below nB wr wr from Below.refl _ _)
     have hBel:=Hd (show ∀W,Below nB wr W->Below wr.heap.size wr W from fun W b=>by rw[hnB.out]at b;exact b)
     go_cut [22,23]from 103 to 111 (fun s30 s31 wx=>∃(xA:Nat) (x1:Option Addr) (n1 d1:Nat) (x2:Option Addr) (n2 d2:Nat) (x3:Option Addr) (n3 d3:Nat),s30= .pointer (some ⟨xA,0,none⟩)/\s31= .int .i64 E/\wx.heap[xA]?=some (.cells #[.slice x1 n1 d1,.slice x2 n2 d2,.slice x3 n3 d3] 26 (0,0))/\GV wx (.agg #[.slice x1 n1 d1,.slice x2 n2 d2,.slice x3 n3 d3]) G/\nB<=xA/\Below nB wr wx)
     case first =>
      refine wp_region_F (fun w':World=>Below nB wr w') 999 (by kernel_rfl) hRefl.out.drew (fun hHeld=>?_)
      refine tkP 0 rfl ?_ (by(intro w hSw;obtain⟨t0,t1,t2⟩:=hT.out w (hBel.out _ hSw);obtain⟨u0,u1,u2,u3,u4,u5,u6,u7,u8,u9,u10,u11,u12⟩:=hC.out w (hBel.out _ hSw);clear hSw;go_simp)<;>with_reducible rfl)
      refine tkP 1 rfl ?_
      refine tkP 2 rfl ?_
      refine tkP 3 rfl ?_
      refine tkP 4 rfl ?_ (by(intro w hSw;obtain⟨t0,t1,t2⟩:=hT.out w (hBel.out _ hSw);obtain⟨u0,u1,u2,u3,u4,u5,u6,u7,u8,u9,u10,u11,u12⟩:=hC.out w (hBel.out _ hSw);clear hSw;go_simp)<;>with_reducible rfl)
      refine rdy [5,9] ?_
      refine arC rfl (fun K hK=>?_) ?_
      · skip
        go_simp
        with_reducible refine((fun W (B:Below nB wr W)=>cU2.out 19 (.inl rfl) W (hBel.out _ B)) _ hHeld).mono ?_
        rintro e wc ⟨x1,n1,d1,x2,n2,d2,x3,n3,d3,rfl,hgv,b⟩
        have hgv:=Hd hgv
        have b4:Below nB wr wc:=hHeld.trans (b.mono (hle.out _ hHeld))
        clear b
        go_wp2_with fail
        refine hK.out _ _ ?_ (fun hHeld=>?_)
        · exact b4
        clear hK K
        try simp only[Act.put,zT,z0,zS]
        refine tkP 6 rfl ?_
        refine tkP 7 rfl ?_
        refine tkP 8 rfl ?_
        refine rdy [9] ?_
        refine arC rfl (fun K hK=>?_) ?_
        · skip
          go_simp
          obtain⟨xA,hxA,hxl⟩:∃xA,xA=(wc).heap.size/\Hid (nB<=xA):=⟨_,rfl,Hd (hle.out _ hHeld)⟩
          obtain⟨wA,hwA⟩:∃wA,wA=(wc).alloc (.cells #[.slice none 0 0,.slice none 0 0,.slice none 0 0] 26):=⟨_,rfl⟩
          have hA:Below nB wr wA:=by rw[hwA];exact hHeld.alloc (hle.out _ hHeld) _
          have hBA:=Hd (show Below (wc).heap.size (wc) wA from by rw[hwA];exact(Below.refl _ _).alloc (Nat.le_refl _) _)
          have hx0:=Hd (show ∀W2,Below wA.heap.size wA W2->W2.heap[xA]?=some (.cells #[.slice none 0 0,.slice none 0 0,.slice none 0 0] 26 (0,0))from fun W2 b2=>by rw[b2.block _ (by rw[hwA,hxA];simp[heap_drew]),hwA,hxA];exact heap_alloc_new (wc) _)
          replace hgv:=Hd (hgv.out.below hBA.out)
          have hxA':=Hd hxA
          refine hK.out _ _ ?_ (fun hHeld=>?_)
          · rw[<-hwA];exact hA
          clear hK K
          try simp only[Act.put,zT,z0,zS]
          rw[<-hwA]
          try simp only[heap_drew]at hxA
          rw[<-hxA]
          replace hHeld:=hA
          clear hA hwA hxA hxA' hBA
          refine rdy [10] ?_
          refine arC rfl (fun K hK=>?_) ?_
          · skip
            have hx:=hx0.out _ (Below.refl _ _)
            refine wp_store_row 26 (.tmp 22) (.tmp 110) rfl xA #[.slice x1 n1 d1,.slice x2 n2 d2,.slice x3 n3 d3] rfl rfl 26 _ hx (size26b _ _ _) rfl (by simp[Value.oneCell']) ?_
            obtain⟨W8,hW8⟩:∃W8,W8=World.setRow wA xA #[.slice x1 n1 d1,.slice x2 n2 d2,.slice x3 n3 d3]:=⟨_,rfl⟩
            have b8:Below nB wr W8:=by rw[hW8];exact below_row hHeld hxl.out _
            have c8:W8.heap[xA]?=some (.cells #[.slice x1 n1 d1,.slice x2 n2 d2,.slice x3 n3 d3] 26 (0,0)):=by rw[hW8];exact setRow_heap _ _ _ _ _ _ hx
            have hgv8:=by have h:=GV.shut0 hgv.out hx #[.slice x1 n1 d1,.slice x2 n2 d2,.slice x3 n3 d3];rw[<-hW8]at h;exact Hd h
            refine hK.out _ _ ?_ (fun hHeld=>?_)
            · rw[<-hW8];exact b8
            clear hK K
            try simp only[Act.put,zT,z0,zS]
            rw[<-hW8]
            replace hHeld:=b8
            clear hW8 hx
            refine tkP 11 rfl ?_
            refine wpAnyF_done (by kernel_rfl) ?_ _
            clear cU2 cI2 hC
            go_wp2_with fail
            go_meet
            case rel=>exact⟨xA,_,_,_,_,_,_,_,_,_,rfl,rfl,c8,hgv8.out,hxl.out,b8⟩
          exact AllReadyF.nil
        exact AllReadyF.nil
      refine arC rfl (fun K hK=>?_) ?_
      · skip
        go_simp
        obtain⟨xA,hxA,hxl⟩:∃xA,xA=(wr.drew).heap.size/\Hid (nB<=xA):=⟨_,rfl,Hd (hle.out _ hHeld)⟩
        obtain⟨wA,hwA⟩:∃wA,wA=(wr.alloc (.cells #[.slice none 0 0,.slice none 0 0,.slice none 0 0] 26)).drew:=⟨_,rfl⟩
        have hA:Below nB wr wA:=by rw[hwA];exact hHeld.alloc (hle.out _ hHeld) _
        have hBA:=Hd (show Below (wr.drew).heap.size (wr.drew) wA from by rw[hwA];exact(Below.refl _ _).alloc (Nat.le_refl _) _)
        have hx0:=Hd (show ∀W2,Below wA.heap.size wA W2->W2.heap[xA]?=some (.cells #[.slice none 0 0,.slice none 0 0,.slice none 0 0] 26 (0,0))from fun W2 b2=>by rw[b2.block _ (by rw[hwA,hxA];simp[heap_drew]),hwA,hxA];exact heap_alloc_new (wr.drew) _)
        have hxA':=Hd hxA
        refine hK.out _ _ ?_ (fun hHeld=>?_)
        · rw[<-hwA];exact hA
        clear hK K
        try simp only[Act.put,zT,z0,zS]
        rw[<-hwA]
        try simp only[heap_drew]at hxA
        rw[<-hxA]
        replace hHeld:=hA
        clear hA hwA hxA hxA' hBA
        refine rdy [5] ?_
        refine arC rfl (fun K hK=>?_) ?_
        · skip
          go_simp
          with_reducible refine((fun W (B:Below nB wr W)=>cU2.out 19 (.inl rfl) W (hBel.out _ B)) _ hHeld).mono ?_
          rintro e wc ⟨x1,n1,d1,x2,n2,d2,x3,n3,d3,rfl,hgv,b⟩
          have hgv:=Hd hgv
          have hx1:=Hd (hx0.out _ b)
          have b4:Below nB wr wc:=hHeld.trans (b.mono (hle.out _ hHeld))
          clear b
          go_wp2_with fail
          refine hK.out _ _ ?_ (fun hHeld=>?_)
          · exact b4
          clear hK K
          try simp only[Act.put,zT,z0,zS]
          refine tkP 6 rfl ?_
          refine tkP 7 rfl ?_
          refine tkP 8 rfl ?_
          refine rdy [10] ?_
          refine arC rfl (fun K hK=>?_) ?_
          · skip
            have hx:=hx1.out
            refine wp_store_row 26 (.tmp 22) (.tmp 110) rfl xA #[.slice x1 n1 d1,.slice x2 n2 d2,.slice x3 n3 d3] rfl rfl 26 _ hx (size26b _ _ _) rfl (by simp[Value.oneCell']) ?_
            obtain⟨W8,hW8⟩:∃W8,W8=World.setRow wc xA #[.slice x1 n1 d1,.slice x2 n2 d2,.slice x3 n3 d3]:=⟨_,rfl⟩
            have b8:Below nB wr W8:=by rw[hW8];exact below_row hHeld hxl.out _
            have c8:W8.heap[xA]?=some (.cells #[.slice x1 n1 d1,.slice x2 n2 d2,.slice x3 n3 d3] 26 (0,0)):=by rw[hW8];exact setRow_heap _ _ _ _ _ _ hx
            have hgv8:=by have h:=GV.shut0 hgv.out hx #[.slice x1 n1 d1,.slice x2 n2 d2,.slice x3 n3 d3];rw[<-hW8]at h;exact Hd h
            refine hK.out _ _ ?_ (fun hHeld=>?_)
            · rw[<-hW8];exact b8
            clear hK K
            try simp only[Act.put,zT,z0,zS]
            rw[<-hW8]
            replace hHeld:=b8
            clear hW8 hx
            refine tkP 11 rfl ?_
            refine wpAnyF_done (by kernel_rfl) ?_ _
            clear cU2 cI2 hC
            go_wp2_with fail
            go_meet
            case rel=>exact⟨xA,_,_,_,_,_,_,_,_,_,rfl,rfl,c8,hgv8.out,hxl.out,b8⟩
          exact AllReadyF.nil
        exact AllReadyF.nil
      exact AllReadyF.nil
     case rest =>
      obtain⟨xA,x1,n1,d1,x2,n2,d2,x3,n3,d3,rfl,rfl,hq1,hG1,hx1l,bx⟩:=hcut
      obtain⟨w1,rfl⟩:∃w',w'=wc:=⟨_,rfl⟩
      replace bx:=Hd (hBel.out _ bx)
      replace hq1:=Hd (fun W (BB:Below w1.heap.size w1 W)=>And.intro ((BB.block xA (Array.getElem?_eq_some_iff.1 hq1).1).trans hq1) (hG1.below BB))
      clear hG1 hx1l hle hRefl hBel
      have up1:=Hd (fun W (BB:Below w1.heap.size w1 W)=>bx.out.trans (BB.mono bx.out.size))
      obtain⟨nB,hnB⟩:∃n,Hid (n=w1.heap.size):=⟨_,rfl⟩
      have hle:=Hd (show ∀W,Below nB w1 W->nB<=W.heap.size from fun W b=>by rw[hnB.out];exact b.size)
      have hRefl:=Hd (show Below nB w1 w1 from Below.refl _ _)
      have hBel:=Hd (show ∀W,Below nB w1 W->Below w1.heap.size w1 W from fun W b=>by rw[hnB.out]at b;exact b)
      go_upto_region 19 with(fail)
      go_cut [24,25]from 112 to 120 (fun s30 s31 wx=>∃(xA:Nat) (x1:Option Addr) (n1 d1:Nat) (x2:Option Addr) (n2 d2:Nat) (x3:Option Addr) (n3 d3:Nat),s30= .pointer (some ⟨xA,0,none⟩)/\s31= .int .i64 E/\wx.heap[xA]?=some (.cells #[.slice x1 n1 d1,.slice x2 n2 d2,.slice x3 n3 d3] 26 (0,0))/\GV wx (.agg #[.slice x1 n1 d1,.slice x2 n2 d2,.slice x3 n3 d3]) G/\nB<=xA/\Below nB w1 wx)
      case first =>
       refine wp_region_F (fun w':World=>Below nB w1 w') 999 (by kernel_rfl) hRefl.out.drew (fun hHeld=>?_)
       refine tkP 0 rfl ?_ (by(intro w hSw;obtain⟨t0,t1,t2⟩:=hT.out w (up1.out _ (hBel.out _ hSw));obtain⟨u0,u1,u2,u3,u4,u5,u6,u7,u8,u9,u10,u11,u12⟩:=hC.out w (up1.out _ (hBel.out _ hSw));clear hSw;go_simp)<;>with_reducible rfl)
       refine tkP 1 rfl ?_
       refine tkP 2 rfl ?_
       refine tkP 3 rfl ?_
       refine tkP 4 rfl ?_ (by(intro w hSw;obtain⟨t0,t1,t2⟩:=hT.out w (up1.out _ (hBel.out _ hSw));obtain⟨u0,u1,u2,u3,u4,u5,u6,u7,u8,u9,u10,u11,u12⟩:=hC.out w (up1.out _ (hBel.out _ hSw));clear hSw;go_simp)<;>with_reducible rfl)
       refine rdy [5,9] ?_
       refine arC rfl (fun K hK=>?_) ?_
       · skip
         go_simp
         with_reducible refine((fun W (B:Below nB w1 W)=>cU2.out 20 (.inr rfl) W (up1.out _ (hBel.out _ B))) _ hHeld).mono ?_
         rintro e wc ⟨x1,n1,d1,x2,n2,d2,x3,n3,d3,rfl,hgv,b⟩
         have hgv:=Hd hgv
         have b4:Below nB w1 wc:=hHeld.trans (b.mono (hle.out _ hHeld))
         clear b
         go_wp2_with fail
         refine hK.out _ _ ?_ (fun hHeld=>?_)
         · exact b4
         clear hK K
         try simp only[Act.put,zT,z0,zS]
         refine tkP 6 rfl ?_
         refine tkP 7 rfl ?_
         refine tkP 8 rfl ?_
         refine rdy [9] ?_
         refine arC rfl (fun K hK=>?_) ?_
         · skip
           go_simp
           obtain⟨xA,hxA,hxl⟩:∃xA,xA=(wc).heap.size/\Hid (nB<=xA):=⟨_,rfl,Hd (hle.out _ hHeld)⟩
           obtain⟨wA,hwA⟩:∃wA,wA=(wc).alloc (.cells #[.slice none 0 0,.slice none 0 0,.slice none 0 0] 26):=⟨_,rfl⟩
           have hA:Below nB w1 wA:=by rw[hwA];exact hHeld.alloc (hle.out _ hHeld) _
           have hBA:=Hd (show Below (wc).heap.size (wc) wA from by rw[hwA];exact(Below.refl _ _).alloc (Nat.le_refl _) _)
           have hx0:=Hd (show ∀W2,Below wA.heap.size wA W2->W2.heap[xA]?=some (.cells #[.slice none 0 0,.slice none 0 0,.slice none 0 0] 26 (0,0))from fun W2 b2=>by rw[b2.block _ (by rw[hwA,hxA];simp[heap_drew]),hwA,hxA];exact heap_alloc_new (wc) _)
           replace hgv:=Hd (hgv.out.below hBA.out)
           have hxA':=Hd hxA
           refine hK.out _ _ ?_ (fun hHeld=>?_)
           · rw[<-hwA];exact hA
           clear hK K
           try simp only[Act.put,zT,z0,zS]
           rw[<-hwA]
           try simp only[heap_drew]at hxA
           rw[<-hxA]
           replace hHeld:=hA
           clear hA hwA hxA hxA' hBA
           refine rdy [10] ?_
           refine arC rfl (fun K hK=>?_) ?_
           · skip
             have hx:=hx0.out _ (Below.refl _ _)
             refine wp_store_row 26 (.tmp 24) (.tmp 119) rfl xA #[.slice x1 n1 d1,.slice x2 n2 d2,.slice x3 n3 d3] rfl rfl 26 _ hx (size26b _ _ _) rfl (by simp[Value.oneCell']) ?_
             obtain⟨W8,hW8⟩:∃W8,W8=World.setRow wA xA #[.slice x1 n1 d1,.slice x2 n2 d2,.slice x3 n3 d3]:=⟨_,rfl⟩
             have b8:Below nB w1 W8:=by rw[hW8];exact below_row hHeld hxl.out _
             have c8:W8.heap[xA]?=some (.cells #[.slice x1 n1 d1,.slice x2 n2 d2,.slice x3 n3 d3] 26 (0,0)):=by rw[hW8];exact setRow_heap _ _ _ _ _ _ hx
             have hgv8:=by have h:=GV.shut0 hgv.out hx #[.slice x1 n1 d1,.slice x2 n2 d2,.slice x3 n3 d3];rw[<-hW8]at h;exact Hd h
             refine hK.out _ _ ?_ (fun hHeld=>?_)
             · rw[<-hW8];exact b8
             clear hK K
             try simp only[Act.put,zT,z0,zS]
             rw[<-hW8]
             replace hHeld:=b8
             clear hW8 hx
             refine tkP 11 rfl ?_
             refine wpAnyF_done (by kernel_rfl) ?_ _
             clear cU2 cI2 hC
             go_wp2_with fail
             go_meet
             case rel=>exact⟨xA,_,_,_,_,_,_,_,_,_,rfl,rfl,c8,hgv8.out,hxl.out,b8⟩
           exact AllReadyF.nil
         exact AllReadyF.nil
       refine arC rfl (fun K hK=>?_) ?_
       · skip
         go_simp
         obtain⟨xA,hxA,hxl⟩:∃xA,xA=(w1.drew).heap.size/\Hid (nB<=xA):=⟨_,rfl,Hd (hle.out _ hHeld)⟩
         obtain⟨wA,hwA⟩:∃wA,wA=(w1.alloc (.cells #[.slice none 0 0,.slice none 0 0,.slice none 0 0] 26)).drew:=⟨_,rfl⟩
         have hA:Below nB w1 wA:=by rw[hwA];exact hHeld.alloc (hle.out _ hHeld) _
         have hBA:=Hd (show Below (w1.drew).heap.size (w1.drew) wA from by rw[hwA];exact(Below.refl _ _).alloc (Nat.le_refl _) _)
         have hx0:=Hd (show ∀W2,Below wA.heap.size wA W2->W2.heap[xA]?=some (.cells #[.slice none 0 0,.slice none 0 0,.slice none 0 0] 26 (0,0))from fun W2 b2=>by rw[b2.block _ (by rw[hwA,hxA];simp[heap_drew]),hwA,hxA];exact heap_alloc_new (w1.drew) _)
         have hxA':=Hd hxA
         refine hK.out _ _ ?_ (fun hHeld=>?_)
         · rw[<-hwA];exact hA
         clear hK K
         try simp only[Act.put,zT,z0,zS]
         rw[<-hwA]
         try simp only[heap_drew]at hxA
         rw[<-hxA]
         replace hHeld:=hA
         clear hA hwA hxA hxA' hBA
         refine rdy [5] ?_
         refine arC rfl (fun K hK=>?_) ?_
         · skip
           go_simp
           with_reducible refine((fun W (B:Below nB w1 W)=>cU2.out 20 (.inr rfl) W (up1.out _ (hBel.out _ B))) _ hHeld).mono ?_
           rintro e wc ⟨x1,n1,d1,x2,n2,d2,x3,n3,d3,rfl,hgv,b⟩
           have hgv:=Hd hgv
           have hx1:=Hd (hx0.out _ b)
           have b4:Below nB w1 wc:=hHeld.trans (b.mono (hle.out _ hHeld))
           clear b
           go_wp2_with fail
           refine hK.out _ _ ?_ (fun hHeld=>?_)
           · exact b4
           clear hK K
           try simp only[Act.put,zT,z0,zS]
           refine tkP 6 rfl ?_
           refine tkP 7 rfl ?_
           refine tkP 8 rfl ?_
           refine rdy [10] ?_
           refine arC rfl (fun K hK=>?_) ?_
           · skip
             have hx:=hx1.out
             refine wp_store_row 26 (.tmp 24) (.tmp 119) rfl xA #[.slice x1 n1 d1,.slice x2 n2 d2,.slice x3 n3 d3] rfl rfl 26 _ hx (size26b _ _ _) rfl (by simp[Value.oneCell']) ?_
             obtain⟨W8,hW8⟩:∃W8,W8=World.setRow wc xA #[.slice x1 n1 d1,.slice x2 n2 d2,.slice x3 n3 d3]:=⟨_,rfl⟩
             have b8:Below nB w1 W8:=by rw[hW8];exact below_row hHeld hxl.out _
             have c8:W8.heap[xA]?=some (.cells #[.slice x1 n1 d1,.slice x2 n2 d2,.slice x3 n3 d3] 26 (0,0)):=by rw[hW8];exact setRow_heap _ _ _ _ _ _ hx
             have hgv8:=by have h:=GV.shut0 hgv.out hx #[.slice x1 n1 d1,.slice x2 n2 d2,.slice x3 n3 d3];rw[<-hW8]at h;exact Hd h
             refine hK.out _ _ ?_ (fun hHeld=>?_)
             · rw[<-hW8];exact b8
             clear hK K
             try simp only[Act.put,zT,z0,zS]
             rw[<-hW8]
             replace hHeld:=b8
             clear hW8 hx
             refine tkP 11 rfl ?_
             refine wpAnyF_done (by kernel_rfl) ?_ _
             clear cU2 cI2 hC
             go_wp2_with fail
             go_meet
             case rel=>exact⟨xA,_,_,_,_,_,_,_,_,_,rfl,rfl,c8,hgv8.out,hxl.out,b8⟩
           exact AllReadyF.nil
         exact AllReadyF.nil
       exact AllReadyF.nil
      case rest =>
       obtain⟨xB,y1,m1,c1,y2,m2,c2,y3,m3,c3,rfl,rfl,hq2,hG2,hx2l,bx2⟩:=hcut
       obtain⟨w2,rfl⟩:∃w',w'=wc:=⟨_,rfl⟩
       replace bx2:=Hd (hBel.out _ bx2)
       replace hq2:=Hd (fun W (BB:Below w2.heap.size w2 W)=>And.intro ((BB.block xB (Array.getElem?_eq_some_iff.1 hq2).1).trans hq2) (hG2.below BB))
       clear hG2 hx2l hle hRefl hBel
       have up2:=Hd (fun W (BB:Below w2.heap.size w2 W)=>up1.out W (bx2.out.trans (BB.mono bx2.out.size)))
       go_upto_region 20 with(fail)
       refine wp_region_F (fun W=>Below w2.heap.size w2 W) 999 (by kernel_rfl) (Below.refl _ w2).drew (fun hHeld=>?_)
       refine tkP 0 rfl ?_ (by(intro w hSw;obtain⟨t0,t1,t2⟩:=hT.out w (up2.out _ hSw);obtain⟨u0,u1,u2,u3,u4,u5,u6,u7,u8,u9,u10,u11,u12⟩:=hC.out w (up2.out _ hSw);clear hSw;go_simp)<;>with_reducible rfl)
       refine tkP 1 rfl ?_
       refine tkP 2 rfl ?_
       refine tkP 3 rfl ?_
       refine tkP 4 rfl ?_ (by(intro w hSw;obtain⟨t0,t1,t2⟩:=hT.out w (up2.out _ hSw);obtain⟨u0,u1,u2,u3,u4,u5,u6,u7,u8,u9,u10,u11,u12⟩:=hC.out w (up2.out _ hSw);clear hSw;go_simp)<;>with_reducible rfl)
       refine rdy [5] ?_
       refine arC rfl (fun K hK=>?_) AllReadyF.nil
       go_simp
       refine(cI2.out 21 (.inl rfl) _ (up2.out _ hHeld)).mono ?_
       rintro e w3 ⟨va,vm,vk,rfl,hwv,bb⟩
       have hv3:=Hd hwv
       have hh:Below w2.heap.size w2 w3:=hHeld.trans (bb.mono hHeld.size)
       clear hwv bb
       go_wp2_with fail
       refine hK.out _ _ hh (fun hHeld=>?_)
       clear hK K
       try simp only[Act.put,zT,z0,zS]
       refine tkP 6 rfl ?_
       refine tkP 7 rfl ?_
       refine tkP 8 rfl ?_
       refine tkP 9 rfl ?_
       refine tkP 10 rfl ?_
       refine wpAnyF_done (by kernel_rfl) ?_ _
       have hb3:=Hd hh
       clear hHeld hh
       have hI1:=Hd (show ∀W,Below w3.heap.size w3 W->LC W (.slice va vm vk) L from fun W BB=>hv3.out.below BB)
       have up3:=Hd (fun W (BB:Below w3.heap.size w3 W)=>up2.out W (hb3.out.trans (BB.mono hb3.out.size)))
       clear hv3
       go_upto_region 21 with(fail)
       refine wp_region_F (fun W=>Below w3.heap.size w3 W) 999 (by kernel_rfl) (Below.refl _ w3).drew (fun hHeld=>?_)
       refine tkP 0 rfl ?_ (by(intro w hSw;obtain⟨t0,t1,t2⟩:=hT.out w (up3.out _ hSw);obtain⟨u0,u1,u2,u3,u4,u5,u6,u7,u8,u9,u10,u11,u12⟩:=hC.out w (up3.out _ hSw);clear hSw;go_simp)<;>with_reducible rfl)
       refine tkP 1 rfl ?_
       refine tkP 2 rfl ?_
       refine tkP 3 rfl ?_
       refine tkP 4 rfl ?_ (by(intro w hSw;obtain⟨t0,t1,t2⟩:=hT.out w (up3.out _ hSw);obtain⟨u0,u1,u2,u3,u4,u5,u6,u7,u8,u9,u10,u11,u12⟩:=hC.out w (up3.out _ hSw);clear hSw;go_simp)<;>with_reducible rfl)
       refine rdy [5] ?_
       refine arC rfl (fun K hK=>?_) AllReadyF.nil
       go_simp
       refine(cI2.out 22 (.inr rfl) _ (up3.out _ hHeld)).mono ?_
       rintro e w4 ⟨vb,vp,vq,rfl,hwv,bb⟩
       have hv4:=Hd hwv
       have hh:Below w3.heap.size w3 w4:=hHeld.trans (bb.mono hHeld.size)
       clear hwv bb
       go_wp2_with fail
       refine hK.out _ _ hh (fun hHeld=>?_)
       clear hK K
       try simp only[Act.put,zT,z0,zS]
       refine tkP 6 rfl ?_
       refine tkP 7 rfl ?_
       refine tkP 8 rfl ?_
       refine tkP 9 rfl ?_
       refine tkP 10 rfl ?_
       refine wpAnyF_done (by kernel_rfl) ?_ _
       have hb4:=Hd hh
       clear hHeld hh
       have up4:=Hd (fun W (BB:Below w4.heap.size w4 W)=>up3.out W (hb4.out.trans (BB.mono hb4.out.size)))
       have to3:=Hd (fun W (BB:Below w4.heap.size w4 W)=>hb4.out.trans (BB.mono hb4.out.size))
       have to2:=Hd (fun W (BB:Below w4.heap.size w4 W)=>hb3.out.trans ((to3.out W BB).mono hb3.out.size))
       have to1:=Hd (fun W (BB:Below w4.heap.size w4 W)=>bx2.out.trans ((to2.out W BB).mono bx2.out.size))
       have hne1:(E != E)=false:=by simp
       have hne2:(E2 != E2)=false:=by simp
       have cS:=Hd (fun W (BB:Below w4.heap.size w4 W)=>sameU G G hFG.out hFG.out 18 (.inr rfl) _ _ W (hq1.out W (to1.out W BB)).2 (hq2.out W (to2.out W BB)).2)
       rw[sameG_self]at cS
       have cC:=Hd (fun W (BB:Below w4.heap.size w4 W)=>SameChangesR_any _ _ L W (hI1.out W (to3.out W BB)) (hv4.out.below BB) (by have:=hFL.out.1;omega) (fun c hc=>by have:=hFL.out.2 c hc;omega))
       obtain⟨t0,t1,t2⟩:=box3 (hq1.out w4 (to1.out w4 (Below.refl _ _))).1
       obtain⟨s0,s1,s2⟩:=box3 (hq2.out w4 (to2.out w4 (Below.refl _ _))).1
       clear hT hC cU2 cI2 hI1 hv4
       go_wp2_with fail
       refine(cS.out w4 (Below.refl _ _)).mono ?_
       rintro e w5 ⟨rfl,b5⟩
       replace b5:=Hd b5
       clear t0 t1 t2 s0 s1 s2 cS
       go_wp2_with fail
       refine(cC.out w5 b5.out).mono ?_
       rintro e w6 ⟨rfl,b6⟩
       have hend:=Hd (b0.out w6 (up4.out w6 (b5.out.trans (b6.mono b5.out.size))))
       clear b6 cC
       go_wp2_with fail
       go_roundw
       case rel=>exact⟨j+1,by omega,by go_num,hend⟩
       case measure=>simp[intOf];omega
end Go.Proofs.YtlaldnlgapeckaaGreat
