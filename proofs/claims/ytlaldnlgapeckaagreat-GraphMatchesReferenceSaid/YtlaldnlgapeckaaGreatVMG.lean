/- Facts. -/
import Derived.Test.YtlaldnlgapeckaaGreatVMF
set_option linter.unusedSimpArgs false
set_option maxRecDepth 1000000
set_option maxHeartbeats 8000000
namespace Go.Proofs.YtlaldnlgapeckaaGreat
open Go.RowKit
theorem wp_cut{X Y:Code}{Q:Exit->Act->World->Prop}{a:Act}{w:World}(h:∀K:Act->World->Prop,(∀a w,Code.wp Tryz.prog Y Q a w->K a w)->Code.wp Tryz.prog X (Exit.then K Q) a w):Code.wp Tryz.prog (.seq X Y) Q a w:=wp_seq (h _ (fun _ _ h=>h))
theorem LC.tailM{W:World}{b o n c:Nat}{c0:Ch}{l:List Ch}(h:LC W (.slice (some ⟨b,o,none⟩) n c) (c0::l))(a:Option Addr)(m:Nat)(ha:a=some ⟨b,o+13,none⟩)(d:Nat)(hm:m=n-1)(hd:d=c-1):LC W (.slice a m d) l:=by
 subst ha hm hd
 rcases h with⟨h,_⟩|⟨_,b',o',c',e,h1,h2,h3⟩
 · cases h
 · injection e with e1 e2 e3
   injection e1 with e1
   injection e1 with e1 e4
   subst e1 e2 e3 e4
   by_cases hl:l=[]
   · subst hl;exact .inl ⟨rfl,_,_,rfl⟩
   · refine .inr ⟨hl,b,o+13,c-1,by simp,by simp at h1;omega,h2,fun j x hx=>?_⟩
     obtain⟨y,z,q1,q2,q3⟩:=h3 (j+1) x (by simpa using hx)
     exact⟨y,z,fun i u hu=>by have h:=q1 i u hu;rw[show o+13+j*13+i=o+(j+1)*13+i by omega];exact h,q2,q3⟩
theorem gmr3(q0 q1 q2 q3 q4 q5 q7 q8 q9 q10 q11 q12 q13 q14 q15 q16 q17 q20 q21 q22 q23 q24 q25 q26 q27 q28 q29 q30 q31 q32 q33 q34 q35 q36 q37 q38 q39 q40 q41 q42 q43 q44 q45 q46 q47 q48 q49 q50 q51 q52 q53 q54 q55 q56 q57 q58 q59 q60 q61 q62 q63 q64 q65 q66 q67 q68 q69 q70 q71 q72 q73 q74 q75 q76 q77 q78 q79 q80 q81 q82 q83 q84 q85 q86 q87 q88 q89 q90 q91 q92 q93 q94 q95 q96 q97 q98 q99 q100 q101 q102 q103 q104 q105 q106 q107 q108 q109 q110 q111 q112 q113 q114 q115 q116 q117 q118 q119 q120 q121 q122 q123 q124 q125 q126 q127 q128 q129 q130 q131 q132 q133 q134 q135 q136 q137 q138 q139 q140 q141 q142 q143 q144 q145 q146 q147 q148 q149 q150 q151 q152 q153 q154 q155 q156 q157 q158 q159 q160 q161 q162 q163 q164 q165 q166 q167 q168 q169 q170 q171 q172 q173 q174 q175 q176 q177 q178 q179 q180 q181 q182 q183 q184 q185 q186 q187 q188 q189 q190 q191 q192 q193 q194 q195 q196 q197 q198 q199 q200 q201 q202 q203 q204 q205 q206 q207 q208 q209 q210 q211 q212 q213 q214 q215 q216 q217 q218 q219 q220 q221 q222 q223 q224 q225 q226 q227 q228 q229 q230:Value)(K1:Act->World->Prop)(w0:World)(id:Int)(p18 xb xo vn vd:Nat)(C:Gr)(c0:Ch)(l:List Ch)(a1 a3 a5:Option Addr)(e1 a2 e2 a4 e3 a6:Nat)(hid:Hid (inI id))(hF:Hid (Few C))
  (hg:Hid (∀W,Below w0.heap.size w0 W->W.heap[p18]?=some (.cells #[.slice a1 e1 a2,.slice a3 e2 a4,.slice a5 e3 a6] 26 (0,0))/\GV W (.agg #[.slice a1 e1 a2,.slice a3 e2 a4,.slice a5 e3 a6]) C))
  (hL:Hid (∀W,Below w0.heap.size w0 W->LC W (.slice (some ⟨xb,xo,none⟩) vn vd) (c0::l))) (hl:Hid (l.length<=100/\(∀c∈l,c.ends.length<=1000/\c.deps.length<=1000)/\ ∀c∈l,chIn c)) (hvv:1<=vn/\vn<=vd/\vn<=1000/\vd<=9223372036854775807)
  (hK1:∀(r14 r30 r31 r32 r33 r34 r35 r37 r38 r159 r160 r161 r162 r163 r164 r165 r166 r167 r168 r169 r170 r171 r172 r173 r174 r175 r176 r177 r178 r179 r180 r181 r182 r183 r184 r185 r186 r187 r188 r189 r190 r191 r192 r193 r194 r195 r196 r197 r198 r199 r200 r201 r202 r203 r204 r205 r206 r207 r208 r209 r210 r211 r212 r213 r214 r215 r216 r217 r218 r219 r220 r221 r222 r223 r224 r225 r226 r227 r228:Value) (W:World),Below w0.heap.size w0 W->K1 ⟨(q0::q1::q2::q3::q4::q5:: .int .i64 id::q7::q8::q9::q10::q11::q12::q13::r14::q15::q16::q17:: .pointer (some ⟨p18,0,none⟩):: .slice (some ⟨xb,xo,none⟩) vn vd::q20::q21::q22::q23::q24::q25::q26::q27::q28::q29::r30::r31::r32::r33::r34::r35::q36::r37::r38::q39::q40::q41::q42::q43::q44::q45::q46::q47::q48::q49::q50::q51::q52::q53::q54::q55::q56::q57::q58::q59::q60::q61::q62::q63::q64::q65::q66::q67::q68::q69::q70::q71::q72::q73::q74::q75::q76::q77::q78::q79::q80::q81::q82::q83::q84::q85::q86::q87::q88::q89::q90::q91::q92::q93::q94::q95::q96::q97::q98::q99::q100::q101::q102::q103::q104::q105::q106::q107::q108::q109::q110::q111::q112::q113::q114::q115::q116::q117::q118::q119::q120::q121::q122::q123::q124::q125::q126::q127::q128::q129::q130::q131::q132::q133::q134::q135::q136::q137::q138::q139::q140::q141::q142::q143::q144::q145::q146::q147::q148::q149::q150::q151::q152::q153::q154::q155::q156::q157::q158::r159::r160::r161::r162::r163::r164::r165::r166::r167::r168::r169::r170::r171::r172::r173::r174::r175::r176::r177::r178::r179::r180::r181::r182::r183::r184::r185::r186::r187::r188::r189::r190::r191::r192::r193::r194::r195::r196::r197::r198::r199::r200::r201::r202::r203::r204::r205::r206::r207::r208::r209::r210::r211::r212::r213::r214::r215::r216::r217::r218::r219::r220::r221::r222::r223::r224::r225::r226::r227::r228::q229::q230::[]).toArray,[]⟩ W) :
  Code.wp Tryz.prog (tl3 5) (Qn K1) ⟨(q0::q1::q2::q3::q4::q5:: .int .i64 id::q7::q8::q9::q10::q11::q12::q13::q14::q15::q16::q17:: .pointer (some ⟨p18,0,none⟩):: .slice (some ⟨xb,xo,none⟩) vn vd::q20::q21::q22::q23::q24::q25::q26::q27::q28::q29::q30::q31::q32::q33::q34::q35::q36::q37::q38::q39::q40::q41::q42::q43::q44::q45::q46::q47::q48::q49::q50::q51::q52::q53::q54::q55::q56::q57::q58::q59::q60::q61::q62::q63::q64::q65::q66::q67::q68::q69::q70::q71::q72::q73::q74::q75::q76::q77::q78::q79::q80::q81::q82::q83::q84::q85::q86::q87::q88::q89::q90::q91::q92::q93::q94::q95::q96::q97::q98::q99::q100::q101::q102::q103::q104::q105::q106::q107::q108::q109::q110::q111::q112::q113::q114::q115::q116::q117::q118::q119::q120::q121::q122::q123::q124::q125::q126::q127::q128::q129::q130::q131::q132::q133::q134::q135::q136::q137::q138::q139::q140::q141::q142::q143::q144::q145::q146::q147::q148::q149::q150::q151::q152::q153::q154::q155::q156::q157::q158::q159::q160::q161::q162::q163::q164::q165::q166::q167::q168::q169::q170::q171::q172::q173::q174::q175::q176::q177::q178::q179::q180::q181::q182::q183::q184::q185::q186::q187::q188::q189::q190::q191::q192::q193::q194::q195::q196::q197::q198::q199::q200::q201::q202::q203::q204::q205::q206::q207::q208::q209::q210::q211::q212::q213::q214::q215::q216::q217::q218::q219::q220::q221::q222::q223::q224::q225::q226::q227::q228::q229::q230::[]).toArray,[]⟩ w0:=by
  conv=>arg 2;whnf
  have hK1:=Hd hK1
  obtain⟨v1,v2,v3,v4⟩:=hvv
  obtain⟨G,NN,E,hFG,cU⟩:=allU C l hF.out (by have:=hl.out.1;omega) hl.out.2.1 hl.out.2.2
  have hT:=Hd (fun W (BB:Below w0.heap.size w0 W)=>box3 (hg.out W BB).1)
  have iv1:(1:Int)<=(vn:Int):=by omega
  have iv2:(vn:Int)<=(vd:Int):=by omega
  obtain⟨xa,hxa⟩:∃a,Hid (a=(if vd=1 then some ⟨xb,xo,none⟩else some ⟨xb,xo+13,none⟩:Option Addr)):=⟨_,rfl⟩
  have hLt:=Hd (show ∀W,Below w0.heap.size w0 W->LC W (.slice xa (vn-1) (vd-1)) l from fun W BB=>by
   have h:=hL.out W BB
   by_cases h1:vd=1
   · have hl0:l=[]:=by
      obtain⟨_,_,e⟩:=h.shape
      injection e with _ e _
      simp at e
      exact List.length_eq_zero_iff.1 (by omega)
     subst hl0
     exact .inl ⟨rfl,xa,vd-1,by rw[show vn-1=0 by omega]⟩
   · exact h.tailM xa _ (by rw[hxa.out,if_neg h1]) _ rfl rfl)
  have hGo:=Hd (fun W (BB:Below w0.heap.size w0 W)=>(hg.out W BB).2)
  clear hL
  go_upto_region 24 with(fail)
  obtain⟨nB,hnB⟩:∃n,Hid (n=w0.heap.size):=⟨_,rfl⟩
  have hle:=Hd (show ∀W,Below nB w0 W->nB<=W.heap.size from fun W b=>by rw[hnB.out];exact b.size)
  have hRefl:=Hd (show Below nB w0 w0 from Below.refl _ _)
  have hBel:=Hd (show ∀W,Below nB w0 W->Below w0.heap.size w0 W from fun W b=>by rw[hnB.out]at b;exact b)
  go_cut [30,31,32]from 159 to 166 (fun s30 s31 s32 wx=>∃(xA:Nat) (x1:Option Addr) (n1 d1:Nat) (x2:Option Addr) (n2 d2:Nat) (x3:Option Addr) (n3 d3:Nat),s30= .pointer (some ⟨xA,0,none⟩)/\s31= .int .i64 NN/\s32= .int .i64 E/\wx.heap[xA]?=some (.cells #[.slice x1 n1 d1,.slice x2 n2 d2,.slice x3 n3 d3] 26 (0,0))/\GV wx (.agg #[.slice x1 n1 d1,.slice x2 n2 d2,.slice x3 n3 d3]) G/\nB<=xA/\Below nB w0 wx)
  case first =>
   refine wp_region_F (fun w':World=>Below nB w0 w') 999 (by kernel_rfl) hRefl.out.drew (fun hHeld=>?_)
   refine tkP 0 rfl ?_ (by(intro w hSw;obtain⟨u0,u1,u2⟩:=hT.out w (hBel.out _ hSw);clear hSw;go_simp)<;>with_reducible rfl)
   refine tkP 1 rfl ?_
   refine tkP 2 rfl ?_ (by(intro w hSw;clear hSw;go_simp;rw[<-hxa.out])<;>with_reducible rfl)
   refine rdy [3,8] ?_
   refine arC rfl (fun K hK=>?_) ?_
   · skip
     go_simp
     with_reducible refine((fun W (B:Below nB w0 W)=>cU 24 (by simp) _ _ W (hGo.out W (hBel.out _ B)) (hLt.out W (hBel.out _ B))) _ hHeld).mono ?_
     rintro e wc ⟨x1,n1,d1,x2,n2,d2,x3,n3,d3,rfl,hgv,b⟩
     have hgv:=Hd hgv
     have b4:Below nB w0 wc:=hHeld.trans (b.mono (hle.out _ hHeld))
     clear b
     go_wp2_with fail
     refine hK.out _ _ ?_ (fun hHeld=>?_)
     · exact b4
     clear hK K
     try simp only[Act.put,zT,z0,zS]
     refine tkP 4 rfl ?_
     refine tkP 5 rfl ?_
     refine tkP 6 rfl ?_
     refine tkP 7 rfl ?_
     refine rdy [8] ?_
     refine arC rfl (fun K hK=>?_) ?_
     · skip
       go_simp
       obtain⟨xA,hxA,hxl⟩:∃xA,xA=(wc).heap.size/\Hid (nB<=xA):=⟨_,rfl,Hd (hle.out _ hHeld)⟩
       obtain⟨wA,hwA⟩:∃wA,wA=(wc).alloc (.cells #[.slice none 0 0,.slice none 0 0,.slice none 0 0] 26):=⟨_,rfl⟩
       have hA:Below nB w0 wA:=by rw[hwA];exact hHeld.alloc (hle.out _ hHeld) _
       have hBA:=Hd (show Below (wc).heap.size (wc) wA from by rw[hwA];exact(Below.refl _ _).alloc (Nat.le_refl _) _)
       have hx0:=Hd (show ∀W2,Below wA.heap.size wA W2->W2.heap[xA]?=some (.cells #[.slice none 0 0,.slice none 0 0,.slice none 0 0] 26 (0,0))from fun W2 b2=>by rw[b2.block _ (by rw[hwA,hxA];simp[heap_drew]),hwA,hxA];exact heap_alloc_new (wc) _)
       replace hgv:=Hd (hgv.out.below hBA.out)
       have hxA':=Hd hxA
       refine hK.out _ _ ?_ (fun hHeld=>?_)
       · rw[<-hwA];exact hA
       clear hK K
       try simp only[Act.put,zT,z0,zS]
       rw[<-hwA]
       try simp only[heap_drew]at hxA
       rw[<-hxA]
       replace hHeld:=hA
       clear hA hwA hxA hxA' hBA
       refine rdy [9] ?_
       refine arC rfl (fun K hK=>?_) ?_
       · skip
         have hx:=hx0.out _ (Below.refl _ _)
         refine wp_store_row 26 (.tmp 30) (.tmp 164) rfl xA #[.slice x1 n1 d1,.slice x2 n2 d2,.slice x3 n3 d3] rfl rfl 26 _ hx (size26b _ _ _) rfl (by simp[Value.oneCell']) ?_
         obtain⟨W8,hW8⟩:∃W8,W8=World.setRow wA xA #[.slice x1 n1 d1,.slice x2 n2 d2,.slice x3 n3 d3]:=⟨_,rfl⟩
         have b8:Below nB w0 W8:=by rw[hW8];exact below_row hHeld hxl.out _
         have c8:W8.heap[xA]?=some (.cells #[.slice x1 n1 d1,.slice x2 n2 d2,.slice x3 n3 d3] 26 (0,0)):=by rw[hW8];exact setRow_heap _ _ _ _ _ _ hx
         have hgv8:=by have h:=GV.shut0 hgv.out hx #[.slice x1 n1 d1,.slice x2 n2 d2,.slice x3 n3 d3];rw[<-hW8]at h;exact Hd h
         refine hK.out _ _ ?_ (fun hHeld=>?_)
         · rw[<-hW8];exact b8
         clear hK K
         try simp only[Act.put,zT,z0,zS]
         rw[<-hW8]
         replace hHeld:=b8
         clear hW8 hx
         refine tkP 10 rfl ?_
         refine tkP 11 rfl ?_
         refine wpAnyF_done (by kernel_rfl) ?_ _
         clear hGo hLt
         go_wp2_with fail
         go_meet
         case rel=>exact⟨xA,_,_,_,_,_,_,_,_,_,rfl,rfl,rfl,c8,hgv8.out,hxl.out,b8⟩
       exact AllReadyF.nil
     exact AllReadyF.nil
   refine arC rfl (fun K hK=>?_) ?_
   · skip
     go_simp
     obtain⟨xA,hxA,hxl⟩:∃xA,xA=(w0.drew).heap.size/\Hid (nB<=xA):=⟨_,rfl,Hd (hle.out _ hHeld)⟩
     obtain⟨wA,hwA⟩:∃wA,wA=(w0.alloc (.cells #[.slice none 0 0,.slice none 0 0,.slice none 0 0] 26)).drew:=⟨_,rfl⟩
     have hA:Below nB w0 wA:=by rw[hwA];exact hHeld.alloc (hle.out _ hHeld) _
     have hBA:=Hd (show Below (w0.drew).heap.size (w0.drew) wA from by rw[hwA];exact(Below.refl _ _).alloc (Nat.le_refl _) _)
     have hx0:=Hd (show ∀W2,Below wA.heap.size wA W2->W2.heap[xA]?=some (.cells #[.slice none 0 0,.slice none 0 0,.slice none 0 0] 26 (0,0))from fun W2 b2=>by rw[b2.block _ (by rw[hwA,hxA];simp[heap_drew]),hwA,hxA];exact heap_alloc_new (w0.drew) _)
     have hxA':=Hd hxA
     refine hK.out _ _ ?_ (fun hHeld=>?_)
     · rw[<-hwA];exact hA
     clear hK K
     try simp only[Act.put,zT,z0,zS]
     rw[<-hwA]
     try simp only[heap_drew]at hxA
     rw[<-hxA]
     replace hHeld:=hA
     clear hA hwA hxA hxA' hBA
     refine rdy [3] ?_
     refine arC rfl (fun K hK=>?_) ?_
     · skip
       go_simp
       with_reducible refine((fun W (B:Below nB w0 W)=>cU 24 (by simp) _ _ W (hGo.out W (hBel.out _ B)) (hLt.out W (hBel.out _ B))) _ hHeld).mono ?_
       rintro e wc ⟨x1,n1,d1,x2,n2,d2,x3,n3,d3,rfl,hgv,b⟩
       have hgv:=Hd hgv
       have hx1:=Hd (hx0.out _ b)
       have b4:Below nB w0 wc:=hHeld.trans (b.mono (hle.out _ hHeld))
       clear b
       go_wp2_with fail
       refine hK.out _ _ ?_ (fun hHeld=>?_)
       · exact b4
       clear hK K
       try simp only[Act.put,zT,z0,zS]
       refine tkP 4 rfl ?_
       refine tkP 5 rfl ?_
       refine tkP 6 rfl ?_
       refine tkP 7 rfl ?_
       refine rdy [9] ?_
       refine arC rfl (fun K hK=>?_) ?_
       · skip
         have hx:=hx1.out
         refine wp_store_row 26 (.tmp 30) (.tmp 164) rfl xA #[.slice x1 n1 d1,.slice x2 n2 d2,.slice x3 n3 d3] rfl rfl 26 _ hx (size26b _ _ _) rfl (by simp[Value.oneCell']) ?_
         obtain⟨W8,hW8⟩:∃W8,W8=World.setRow wc xA #[.slice x1 n1 d1,.slice x2 n2 d2,.slice x3 n3 d3]:=⟨_,rfl⟩
         have b8:Below nB w0 W8:=by rw[hW8];exact below_row hHeld hxl.out _
         have c8:W8.heap[xA]?=some (.cells #[.slice x1 n1 d1,.slice x2 n2 d2,.slice x3 n3 d3] 26 (0,0)):=by rw[hW8];exact setRow_heap _ _ _ _ _ _ hx
         have hgv8:=by have h:=GV.shut0 hgv.out hx #[.slice x1 n1 d1,.slice x2 n2 d2,.slice x3 n3 d3];rw[<-hW8]at h;exact Hd h
         refine hK.out _ _ ?_ (fun hHeld=>?_)
         · rw[<-hW8];exact b8
         clear hK K
         try simp only[Act.put,zT,z0,zS]
         rw[<-hW8]
         replace hHeld:=b8
         clear hW8 hx
         refine tkP 10 rfl ?_
         refine tkP 11 rfl ?_
         refine wpAnyF_done (by kernel_rfl) ?_ _
         clear hGo hLt
         go_wp2_with fail
         go_meet
         case rel=>exact⟨xA,_,_,_,_,_,_,_,_,_,rfl,rfl,rfl,c8,hgv8.out,hxl.out,b8⟩
       exact AllReadyF.nil
     exact AllReadyF.nil
   exact AllReadyF.nil
  case rest =>
   obtain⟨xA,x1,n1,d1,x2,n2,d2,x3,n3,d3,rfl,rfl,rfl,hq1,hG1,hx1l,bx⟩:=hcut
   obtain⟨w1,rfl⟩:∃w',w'=wc:=⟨_,rfl⟩
   have bx:=Hd (hBel.out _ bx)
   have hq1:=Hd (fun W (BB:Below w1.heap.size w1 W)=>And.intro ((BB.block xA (Array.getElem?_eq_some_iff.1 hq1).1).trans hq1) (hG1.below BB))
   have up:=Hd (fun W (BB:Below w1.heap.size w1 W)=>bx.out.trans (BB.mono bx.out.size))
   clear hG1 hx1l hle hRefl hBel
   obtain⟨nB,hnB⟩:∃n,Hid (n=w1.heap.size):=⟨_,rfl⟩
   have hle:=Hd (show ∀W,Below nB w1 W->nB<=W.heap.size from fun W b=>by rw[hnB.out];exact b.size)
   have hRefl:=Hd (show Below nB w1 w1 from Below.refl _ _)
   have hBel:=Hd (show ∀W,Below nB w1 W->Below w1.heap.size w1 W from fun W b=>by rw[hnB.out]at b;exact b)
   go_upto_region 25 with(fail)
   go_cut [33,34,35]from 167 to 174 (fun s30 s31 s32 wx=>∃(xB:Nat) (y1:Option Addr) (m1 c1:Nat) (y2:Option Addr) (m2 c2:Nat) (y3:Option Addr) (m3 c3:Nat),s30= .pointer (some ⟨xB,0,none⟩)/\s31= .int .i64 NN/\s32= .int .i64 E/\wx.heap[xB]?=some (.cells #[.slice y1 m1 c1,.slice y2 m2 c2,.slice y3 m3 c3] 26 (0,0))/\GV wx (.agg #[.slice y1 m1 c1,.slice y2 m2 c2,.slice y3 m3 c3]) G/\nB<=xB/\Below nB w1 wx)
   case first =>
    refine wp_region_F (fun w':World=>Below nB w1 w') 999 (by kernel_rfl) hRefl.out.drew (fun hHeld=>?_)
    refine tkP 0 rfl ?_ (by(intro w hSw;obtain⟨u0,u1,u2⟩:=hT.out w (up.out _ (hBel.out _ hSw));clear hSw;go_simp)<;>with_reducible rfl)
    refine tkP 1 rfl ?_
    refine tkP 2 rfl ?_ (by(intro w hSw;clear hSw;go_simp;rw[<-hxa.out])<;>with_reducible rfl)
    refine rdy [3,8] ?_
    refine arC rfl (fun K hK=>?_) ?_
    · skip
      go_simp
      with_reducible refine((fun W (B:Below nB w1 W)=>cU 25 (by simp) _ _ W (hGo.out W (up.out _ (hBel.out _ B))) (hLt.out W (up.out _ (hBel.out _ B)))) _ hHeld).mono ?_
      rintro e wc ⟨x1,n1,d1,x2,n2,d2,x3,n3,d3,rfl,hgv,b⟩
      have hgv:=Hd hgv
      have b4:Below nB w1 wc:=hHeld.trans (b.mono (hle.out _ hHeld))
      clear b
      go_wp2_with fail
      refine hK.out _ _ ?_ (fun hHeld=>?_)
      · exact b4
      clear hK K
      try simp only[Act.put,zT,z0,zS]
      refine tkP 4 rfl ?_
      refine tkP 5 rfl ?_
      refine tkP 6 rfl ?_
      refine tkP 7 rfl ?_
      refine rdy [8] ?_
      refine arC rfl (fun K hK=>?_) ?_
      · skip
        go_simp
        obtain⟨xA,hxA,hxl⟩:∃xA,xA=(wc).heap.size/\Hid (nB<=xA):=⟨_,rfl,Hd (hle.out _ hHeld)⟩
        obtain⟨wA,hwA⟩:∃wA,wA=(wc).alloc (.cells #[.slice none 0 0,.slice none 0 0,.slice none 0 0] 26):=⟨_,rfl⟩
        have hA:Below nB w1 wA:=by rw[hwA];exact hHeld.alloc (hle.out _ hHeld) _
        have hBA:=Hd (show Below (wc).heap.size (wc) wA from by rw[hwA];exact(Below.refl _ _).alloc (Nat.le_refl _) _)
        have hx0:=Hd (show ∀W2,Below wA.heap.size wA W2->W2.heap[xA]?=some (.cells #[.slice none 0 0,.slice none 0 0,.slice none 0 0] 26 (0,0))from fun W2 b2=>by rw[b2.block _ (by rw[hwA,hxA];simp[heap_drew]),hwA,hxA];exact heap_alloc_new (wc) _)
        replace hgv:=Hd (hgv.out.below hBA.out)
        have hxA':=Hd hxA
        refine hK.out _ _ ?_ (fun hHeld=>?_)
        · rw[<-hwA];exact hA
        clear hK K
        try simp only[Act.put,zT,z0,zS]
        rw[<-hwA]
        try simp only[heap_drew]at hxA
        rw[<-hxA]
        replace hHeld:=hA
        clear hA hwA hxA hxA' hBA
        refine rdy [9] ?_
        refine arC rfl (fun K hK=>?_) ?_
        · skip
          have hx:=hx0.out _ (Below.refl _ _)
          refine wp_store_row 26 (.tmp 33) (.tmp 172) rfl xA #[.slice x1 n1 d1,.slice x2 n2 d2,.slice x3 n3 d3] rfl rfl 26 _ hx (size26b _ _ _) rfl (by simp[Value.oneCell']) ?_
          obtain⟨W8,hW8⟩:∃W8,W8=World.setRow wA xA #[.slice x1 n1 d1,.slice x2 n2 d2,.slice x3 n3 d3]:=⟨_,rfl⟩
          have b8:Below nB w1 W8:=by rw[hW8];exact below_row hHeld hxl.out _
          have c8:W8.heap[xA]?=some (.cells #[.slice x1 n1 d1,.slice x2 n2 d2,.slice x3 n3 d3] 26 (0,0)):=by rw[hW8];exact setRow_heap _ _ _ _ _ _ hx
          have hgv8:=by have h:=GV.shut0 hgv.out hx #[.slice x1 n1 d1,.slice x2 n2 d2,.slice x3 n3 d3];rw[<-hW8]at h;exact Hd h
          refine hK.out _ _ ?_ (fun hHeld=>?_)
          · rw[<-hW8];exact b8
          clear hK K
          try simp only[Act.put,zT,z0,zS]
          rw[<-hW8]
          replace hHeld:=b8
          clear hW8 hx
          refine tkP 10 rfl ?_
          refine tkP 11 rfl ?_
          refine wpAnyF_done (by kernel_rfl) ?_ _
          clear hGo hLt
          go_wp2_with fail
          go_meet
          case rel=>exact⟨xA,_,_,_,_,_,_,_,_,_,rfl,rfl,rfl,c8,hgv8.out,hxl.out,b8⟩
        exact AllReadyF.nil
      exact AllReadyF.nil
    refine arC rfl (fun K hK=>?_) ?_
    · skip
      go_simp
      obtain⟨xA,hxA,hxl⟩:∃xA,xA=(w1.drew).heap.size/\Hid (nB<=xA):=⟨_,rfl,Hd (hle.out _ hHeld)⟩
      obtain⟨wA,hwA⟩:∃wA,wA=(w1.alloc (.cells #[.slice none 0 0,.slice none 0 0,.slice none 0 0] 26)).drew:=⟨_,rfl⟩
      have hA:Below nB w1 wA:=by rw[hwA];exact hHeld.alloc (hle.out _ hHeld) _
      have hBA:=Hd (show Below (w1.drew).heap.size (w1.drew) wA from by rw[hwA];exact(Below.refl _ _).alloc (Nat.le_refl _) _)
      have hx0:=Hd (show ∀W2,Below wA.heap.size wA W2->W2.heap[xA]?=some (.cells #[.slice none 0 0,.slice none 0 0,.slice none 0 0] 26 (0,0))from fun W2 b2=>by rw[b2.block _ (by rw[hwA,hxA];simp[heap_drew]),hwA,hxA];exact heap_alloc_new (w1.drew) _)
      have hxA':=Hd hxA
      refine hK.out _ _ ?_ (fun hHeld=>?_)
      · rw[<-hwA];exact hA
      clear hK K
      try simp only[Act.put,zT,z0,zS]
      rw[<-hwA]
      try simp only[heap_drew]at hxA
      rw[<-hxA]
      replace hHeld:=hA
      clear hA hwA hxA hxA' hBA
      refine rdy [3] ?_
      refine arC rfl (fun K hK=>?_) ?_
      · skip
        go_simp
        with_reducible refine((fun W (B:Below nB w1 W)=>cU 25 (by simp) _ _ W (hGo.out W (up.out _ (hBel.out _ B))) (hLt.out W (up.out _ (hBel.out _ B)))) _ hHeld).mono ?_
        rintro e wc ⟨x1,n1,d1,x2,n2,d2,x3,n3,d3,rfl,hgv,b⟩
        have hgv:=Hd hgv
        have hx1:=Hd (hx0.out _ b)
        have b4:Below nB w1 wc:=hHeld.trans (b.mono (hle.out _ hHeld))
        clear b
        go_wp2_with fail
        refine hK.out _ _ ?_ (fun hHeld=>?_)
        · exact b4
        clear hK K
        try simp only[Act.put,zT,z0,zS]
        refine tkP 4 rfl ?_
        refine tkP 5 rfl ?_
        refine tkP 6 rfl ?_
        refine tkP 7 rfl ?_
        refine rdy [9] ?_
        refine arC rfl (fun K hK=>?_) ?_
        · skip
          have hx:=hx1.out
          refine wp_store_row 26 (.tmp 33) (.tmp 172) rfl xA #[.slice x1 n1 d1,.slice x2 n2 d2,.slice x3 n3 d3] rfl rfl 26 _ hx (size26b _ _ _) rfl (by simp[Value.oneCell']) ?_
          obtain⟨W8,hW8⟩:∃W8,W8=World.setRow wc xA #[.slice x1 n1 d1,.slice x2 n2 d2,.slice x3 n3 d3]:=⟨_,rfl⟩
          have b8:Below nB w1 W8:=by rw[hW8];exact below_row hHeld hxl.out _
          have c8:W8.heap[xA]?=some (.cells #[.slice x1 n1 d1,.slice x2 n2 d2,.slice x3 n3 d3] 26 (0,0)):=by rw[hW8];exact setRow_heap _ _ _ _ _ _ hx
          have hgv8:=by have h:=GV.shut0 hgv.out hx #[.slice x1 n1 d1,.slice x2 n2 d2,.slice x3 n3 d3];rw[<-hW8]at h;exact Hd h
          refine hK.out _ _ ?_ (fun hHeld=>?_)
          · rw[<-hW8];exact b8
          clear hK K
          try simp only[Act.put,zT,z0,zS]
          rw[<-hW8]
          replace hHeld:=b8
          clear hW8 hx
          refine tkP 10 rfl ?_
          refine tkP 11 rfl ?_
          refine wpAnyF_done (by kernel_rfl) ?_ _
          clear hGo hLt
          go_wp2_with fail
          go_meet
          case rel=>exact⟨xA,_,_,_,_,_,_,_,_,_,rfl,rfl,rfl,c8,hgv8.out,hxl.out,b8⟩
        exact AllReadyF.nil
      exact AllReadyF.nil
    exact AllReadyF.nil
   case rest =>
    obtain⟨xB,y1,m1,c1,y2,m2,c2,y3,m3,c3,rfl,rfl,rfl,hq2,hG2,hx2l,bx2⟩:=hcut
    obtain⟨w2,rfl⟩:∃w',w'=wc:=⟨_,rfl⟩
    replace bx2:=Hd (hBel.out _ bx2)
    replace hq2:=Hd (fun W (BB:Below w2.heap.size w2 W)=>And.intro ((BB.block xB (Array.getElem?_eq_some_iff.1 hq2).1).trans hq2) (hG2.below BB))
    clear hG2 hx2l
    rename_i K0 hK0
    refine hK0 _ _ (wp_eq (D:= .seq (sA (tl3 7)) (tl3 8)) (by kernel_rfl) (wp_cut fun K9 hK9=>?_))
    clear hK0
    replace hK9:=Hd hK9
    conv=>arg 2;whnf
    have hne1:(NN != NN)=false:=by simp
    have hne2:(E != E)=false:=by simp
    have cS:=Hd (fun W (BB:Below w2.heap.size w2 W)=>(sameU G G hFG.out hFG.out 18 (.inr rfl) _ _ W (hq1.out W (bx2.out.trans (BB.mono bx2.out.size))).2 (hq2.out W BB).2))
    rw[sameG_self]at cS
    obtain⟨t0,t1,t2⟩:=box3 (hq1.out w2 bx2.out).1
    obtain⟨s0,s1,s2⟩:=box3 (hq2.out w2 (Below.refl _ _)).1
    have fin:=Hd (fun W (BB:Below w2.heap.size w2 W)=>up.out W (bx2.out.trans (BB.mono bx2.out.size)))
    clear hq1 hq2
    go_wp2_with fail
    refine(cS.out w2 (Below.refl _ _)).mono ?_
    rintro e w3 ⟨rfl,b3⟩
    have hb3:=Hd (fin.out w3 b3)
    clear t0 t1 t2 s0 s1 s2 b3 cS
    go_wp2_with fail
    refine hK9.out _ _ ?_
    have hg4:=Hd (show ∀W,Below w3.heap.size w3 W->W.heap[p18]?=some (.cells #[.slice a1 e1 a2,.slice a3 e2 a4,.slice a5 e3 a6] 26 (0,0))/\GV W (.agg #[.slice a1 e1 a2,.slice a3 e2 a4,.slice a5 e3 a6]) C from fun W BB=>hg.out W (hb3.out.trans (BB.mono hb3.out.size)))
    refine gmr4 _ _ _ _ _ _ _ _ _ _ _ _ _ _ _ _ _ _ _ _ _ _ _ _ _ _ _ _ _ _ _ _ _ _ _ _ _ _ _ _ _ _ _ _ _ _ _ _ _ _ _ _ _ _ _ _ _ _ _ _ _ _ _ _ _ _ _ _ _ _ _ _ _ _ _ _ _ _ _ _ _ _ _ _ _ _ _ _ _ _ _ _ _ _ _ _ _ _ _ _ _ _ _ _ _ _ _ _ _ _ _ _ _ _ _ _ _ _ _ _ _ _ _ _ _ _ _ _ _ _ _ _ _ _ _ _ _ _ _ _ _ _ _ _ _ _ _ _ _ _ _ _ _ _ _ _ _ _ _ _ _ _ _ _ _ _ _ _ _ _ _ _ _ _ _ _ _ _ _ _ _ _ _ _ _ _ _ _ _ _ _ _ _ _ _ _ _ _ _ _ _ _ _ _ _ _ _ _ _ _ _ _ _ _ _ _ _ _ _ _ _ _ _ _ _ _ _ _ _ _ w3 id p18 C a1 a3 a5 e1 a2 e2 a4 e3 a6 hid hF hg4 (fun _ _ _ _ _ _ _ _ _ _ _ _ _ _ _ _ _ _ _ _ _ _ _ _ _ _ _ _ _ _ _ _ _ _ _ _ _ _ _ _ _ _ _ W BB=>?_)
    exact hK1.out _ _ _ _ _ _ _ _ _ _ _ _ _ _ _ _ _ _ _ _ _ _ _ _ _ _ _ _ _ _ _ _ _ _ _ _ _ _ _ _ _ _ _ _ _ _ _ _ _ _ _ _ _ _ _ _ _ _ _ _ _ _ _ _ _ _ _ _ _ _ _ _ _ _ _ _ _ _ _ _ (hb3.out.trans (BB.mono hb3.out.size))
end Go.Proofs.YtlaldnlgapeckaaGreat
