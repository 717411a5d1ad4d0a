/- Facts. -/
import Derived.Deep.CutRange
import Derived.Laws.StructEq
import Derived.Test.YtlaldnlgapeckaaGreatVYAk
import Derived.Test.YtlaldnlgapeckaaGreatVYQt
set_option linter.unusedSimpArgs false
set_option maxRecDepth 100000
set_option maxHeartbeats 4000000
namespace Go.Proofs.YtlaldnlgapeckaaGreat
open Go.RowKit
theorem eqV_run(a b:Int)(w:World):(binOp .eql 29 (.agg #[.int .i64 a,.int .i64 b]) (.agg #[.int .i64 0,.int .i64 0])).run Tryz.prog w= .ok (.bool (decide ((⟨a,b⟩:Vx)=zV))) w:=by
 have e:decide ((⟨a,b⟩:Vx)=zV)=(decide (a=0)&&decide (b=0)):=by rw[Bool.eq_iff_iff];simp[zV]
 rw[e];go_simp;by_cases h1:a=0<;>by_cases h2:b=0<;>simp[h1,h2]
theorem eqE_run(a b c:Int)(d:Bool)(f g:Int)(w:World):(binOp .eql 31 (.agg #[.int .i64 a,.int .i64 b,.int .i64 c,.bool d,.int .i64 f,.int .i64 g]) (.agg #[.int .i64 0,.int .i64 0,.int .i64 0,.bool false,.int .i64 0,.int .i64 0])).run Tryz.prog w= .ok (.bool (decide ((⟨a,b,c,d,f,g⟩:Ed)=zE))) w:=by
 have e:decide ((⟨a,b,c,d,f,g⟩:Ed)=zE)=(decide (a=0)&&(decide (b=0)&&(decide (c=0)&&(!d&&(decide (f=0)&&decide (g=0)))))):=by
  rw[Bool.eq_iff_iff];cases d<;>simp[zE]
 rw[e];go_simp;cases d<;>by_cases h1:a=0<;>by_cases h2:b=0<;>by_cases h3:c=0<;>by_cases h4:f=0<;>by_cases h5:g=0<;>simp[h1,h2,h3,h4,h5]
noncomputable def sfx87(n:Nat):Code:=match dropC n (Tryz.f87.body.getD .skip)with| .seq a _=>a|c=>c
theorem bare_end(q0 q3 q4 q5 q6 q7 q8 q9 q10 q11 q12 q13 q14 q15 q16 q17 q18 q19 q20 q21 q22 q23 q24 q25 q26 q27 q28 q29 q30 q31 q32 q33 q34 q35 q36 q37 q38 q39 q40 q41 q42 q43 q44 q45 q46 q47 q48 q49 q50 q51 q52 q53 q54 q55 q56 q57 q58 q59 q60 q61 q62 q63 q64:Value)(B:Nat)(k:Int)(v:Vx)(e:Ed)(i n:Int)(a1 b1:Option Addr)(n1 a2 n2 b2:Nat)(R:Bool)(w0 w:World)(hb:Below B w0 w)(hw:w.heap[B]?=some (.cells #[.int .i64 k,.int .i64 v.id,.int .i64 v.side,.int .i64 e.id,.int .i64 e.src,.int .i64 e.dst,.bool e.dir,.int .i64 e.wt,.int .i64 e.cap,.int .i64 i,.int .i64 n,.slice a1 n1 a2,.slice b1 n2 b2] 33 (0,0)))(K:Act->World->Prop)(hK:∀a w,Code.wp Tryz.prog Code.ret (bodyPost Tryz.prog Tryz.f87 fun e w'=>e= .returned (.bool R)/\Below B w0 w') a w->K a w)(hR:R=(decide (v=zV)&&decide (e=zE)&&decide (i=0)&&decide (n=0)&&decide (n1=0)&&decide (n2=0))):
  Code.wp Tryz.prog (sfx87 2) (Exit.then K (bodyPost Tryz.prog Tryz.f87 fun e w'=>e= .returned (.bool R)/\Below B w0 w')) ⟨(q0:: .pointer (some ⟨B,0,none⟩):: .bool false::q3::q4::q5::q6::q7::q8::q9::q10::q11::q12::q13::q14::q15::q16::q17::q18::q19::q20::q21::q22::q23::q24::q25::q26::q27::q28::q29::q30::q31::q32::q33::q34::q35::q36::q37::q38::q39::q40::q41::q42::q43::q44::q45::q46::q47::q48::q49::q50::q51::q52::q53::q54::q55::q56::q57::q58::q59::q60::q61::q62::q63::q64::[]).toArray,[]⟩ w:=by
 conv=>arg 2;whnf
 have t0:=Hd (ch_cells (c:=⟨k,v,e,i,n,[],[]⟩) (a:= .slice a1 n1 a2) (b:= .slice b1 n2 b2) hw);obtain⟨p0,p1,p2,p3,p4,p5,p6,p7,p8,p9,pA,pB,pC⟩:=t0.out;try dsimp only at p0 p1 p2 p3 p4 p5 p6 p7 p8 p9 pA
 have ev:∀w,(binOp .eql 29 (.agg #[.int .i64 v.id,.int .i64 v.side]) (.agg #[.int .i64 0,.int .i64 0])).run Tryz.prog w= .ok (.bool (decide (v=zV))) w:=eqV_run _ _;have ee:∀w,(binOp .eql 31 (.agg #[.int .i64 e.id,.int .i64 e.src,.int .i64 e.dst,.bool e.dir,.int .i64 e.wt,.int .i64 e.cap]) (.agg #[.int .i64 0,.int .i64 0,.int .i64 0,.bool false,.int .i64 0,.int .i64 0])).run Tryz.prog w= .ok (.bool (decide (e=zE))) w:=eqE_run _ _ _ _ _ _;have hbh:=Hd hb;have hRh:=Hd hR;have hKh:=Hd hK;clear t0 hw hb hR hK;generalize decide (v=zV)=xv at *
 generalize decide (e=zE)=xe at *
 cases xv with
 | false =>
  go_wp2_with fail;refine hKh.out _ _ ?_;go_wp2_with fail;go_ret;exact⟨ret_bool (by rw[hRh.out];simp),hbh.out⟩
 | true =>
 cases xe with
 | false =>
  go_wp2_with fail;refine hKh.out _ _ ?_;go_wp2_with fail;go_ret;exact⟨ret_bool (by rw[hRh.out];simp),hbh.out⟩
 | true =>
 by_cases hi:i=0;rotate_left
 ·have ti:(i==0)=false:=by rw[beq_eq_false_iff_ne];omega
  go_wp2_with fail;refine hKh.out _ _ ?_;go_wp2_with fail;go_ret;exact⟨ret_bool (by rw[hRh.out];simp[hi]),hbh.out⟩
 have ti:(i==0)=true:=by rw[beq_iff_eq];omega
 by_cases hn:n=0;rotate_left
 ·have tn:(n==0)=false:=by rw[beq_eq_false_iff_ne];omega
  go_wp2_with fail;refine hKh.out _ _ ?_;go_wp2_with fail;go_ret;exact⟨ret_bool (by rw[hRh.out];simp[hi,hn]),hbh.out⟩
 have tn:(n==0)=true:=by rw[beq_iff_eq];omega
 by_cases hn1:n1=0;rotate_left
 ·have tn1:((n1:Int)==0)=false:=by rw[beq_eq_false_iff_ne];omega
  go_wp2_with fail;refine hKh.out _ _ ?_;go_wp2_with fail;go_ret;exact⟨ret_bool (by rw[hRh.out];simp[hi,hn,hn1]),hbh.out⟩
 have tn1:((n1:Int)==0)=true:=by rw[beq_iff_eq];omega
 by_cases hn2:n2=0;rotate_left
 ·have tn2:((n2:Int)==0)=false:=by rw[beq_eq_false_iff_ne];omega
  go_wp2_with fail;refine hKh.out _ _ ?_;go_wp2_with fail;go_ret;exact⟨ret_bool (by rw[hRh.out];simp[hi,hn,hn1,hn2]),hbh.out⟩
 have tn2:((n2:Int)==0)=true:=by rw[beq_iff_eq];omega
 go_wp2_with fail;refine hKh.out _ _ ?_;go_wp2_with fail;go_ret;exact⟨ret_bool (by rw[hRh.out];simp[hi,hn,hn1,hn2]),hbh.out⟩
theorem bare_any(vc:Value)(c:Ch)(w:World)(hc:CV w vc c):Calls Tryz.prog 87 #[vc] w fun e w'=>e= .returned (.bool (bareF c))/\Below w.heap.size w w':=by
 obtain⟨a,b,rfl,h1,h2⟩:=hc;obtain⟨a1,a2,rfl⟩:=h1.shape;obtain⟨b1,b2,rfl⟩:=h2.shape;have hB:Hid (bareF c=isBare (bareC c)):=rfl;have e1:decide (c.ends=[])=decide (c.ends.length=0):=by rw[Bool.eq_iff_iff];simp
 have e2:decide (c.deps=[])=decide (c.deps.length=0):=by rw[Bool.eq_iff_iff];simp
 unfold bareC at hB;generalize bareF c=R at hB ⊢;unfold chCells;clear h1 h2;rcases(by omega:c.kind=1\/c.kind=2\/c.kind=3\/c.kind=4\/c.kind=5\/c.kind=6\/c.kind=7\/c.kind=8\/c.kind=9\/c.kind=10\/ ¬(1<=c.kind/\c.kind<=10))with hk|hk|hk|hk|hk|hk|hk|hk|hk|hk|hk
 ·simp only[hk]at hB ⊢;simp[isBare,e1,e2]at hB;clear hk e1 e2;go_enter Tryz.func87,Tryz.ntmps87;go_upto_region 18 with(fail);refine wp_eq (D:=sfx87 2) (by kernel_rfl) ?_;refine bare_end _ _ _ _ _ _ _ _ _ _ _ _ _ _ _ _ _ _ _ _ _ _ _ _ _ _ _ _ _ _ _ _ _ _ _ _ _ _ _ _ _ _ _ _ _ _ _ _ _ _ _ _ _ _ _ _ _ _ _ _ _ _ _ _ _ zV c.e c.id c.n _ _ c.ends.length _ c.deps.length _ _ _ _ ((Below.refl _ _).alloc (Nat.le_refl _) _) (heap_alloc_new _ _) _ (by assumption) ?_;rw[hB.out,Bool.eq_iff_iff]<;>simp
 ·simp only[hk]at hB ⊢;simp[isBare,e1,e2]at hB;clear hk e1 e2;go_enter Tryz.func87,Tryz.ntmps87;go_upto_region 18 with(fail);refine wp_eq (D:=sfx87 2) (by kernel_rfl) ?_;refine bare_end _ _ _ _ _ _ _ _ _ _ _ _ _ _ _ _ _ _ _ _ _ _ _ _ _ _ _ _ _ _ _ _ _ _ _ _ _ _ _ _ _ _ _ _ _ _ _ _ _ _ _ _ _ _ _ _ _ _ _ _ _ _ _ _ _ c.v c.e 0 c.n _ _ c.ends.length _ c.deps.length _ _ _ _ ((Below.refl _ _).alloc (Nat.le_refl _) _) (heap_alloc_new _ _) _ (by assumption) ?_;rw[hB.out,Bool.eq_iff_iff]<;>simp
 ·simp only[hk]at hB ⊢;simp[isBare,e1,e2]at hB;clear hk e1 e2;go_enter Tryz.func87,Tryz.ntmps87;go_upto_region 18 with(fail);refine wp_eq (D:=sfx87 2) (by kernel_rfl) ?_;refine bare_end _ _ _ _ _ _ _ _ _ _ _ _ _ _ _ _ _ _ _ _ _ _ _ _ _ _ _ _ _ _ _ _ _ _ _ _ _ _ _ _ _ _ _ _ _ _ _ _ _ _ _ _ _ _ _ _ _ _ _ _ _ _ _ _ _ c.v zE c.id c.n _ _ c.ends.length _ c.deps.length _ _ _ _ ((Below.refl _ _).alloc (Nat.le_refl _) _) (heap_alloc_new _ _) _ (by assumption) ?_;rw[hB.out,Bool.eq_iff_iff]<;>simp
 ·simp only[hk]at hB ⊢;simp[isBare,e1,e2]at hB;clear hk e1 e2;go_enter Tryz.func87,Tryz.ntmps87;go_upto_region 18 with(fail);refine wp_eq (D:=sfx87 2) (by kernel_rfl) ?_;refine bare_end _ _ _ _ _ _ _ _ _ _ _ _ _ _ _ _ _ _ _ _ _ _ _ _ _ _ _ _ _ _ _ _ _ _ _ _ _ _ _ _ _ _ _ _ _ _ _ _ _ _ _ _ _ _ _ _ _ _ _ _ _ _ _ _ _ c.v c.e 0 c.n _ _ c.ends.length _ c.deps.length _ _ _ _ ((Below.refl _ _).alloc (Nat.le_refl _) _) (heap_alloc_new _ _) _ (by assumption) ?_;rw[hB.out,Bool.eq_iff_iff]<;>simp
 ·simp only[hk]at hB ⊢;simp[isBare,e1,e2]at hB;clear hk e1 e2;go_enter Tryz.func87,Tryz.ntmps87;go_upto_region 18 with(fail);refine wp_eq (D:=sfx87 2) (by kernel_rfl) ?_;refine bare_end _ _ _ _ _ _ _ _ _ _ _ _ _ _ _ _ _ _ _ _ _ _ _ _ _ _ _ _ _ _ _ _ _ _ _ _ _ _ _ _ _ _ _ _ _ _ _ _ _ _ _ _ _ _ _ _ _ _ _ _ _ _ _ _ _ c.v c.e 0 0 _ _ c.ends.length _ c.deps.length _ _ _ _ ((Below.refl _ _).alloc (Nat.le_refl _) _) (heap_alloc_new _ _) _ (by assumption) ?_;rw[hB.out,Bool.eq_iff_iff]<;>simp
 ·simp only[hk]at hB ⊢;simp[isBare,e1,e2]at hB;clear hk e1 e2;go_enter Tryz.func87,Tryz.ntmps87;go_upto_region 18 with(fail);refine wp_eq (D:=sfx87 2) (by kernel_rfl) ?_;refine bare_end _ _ _ _ _ _ _ _ _ _ _ _ _ _ _ _ _ _ _ _ _ _ _ _ _ _ _ _ _ _ _ _ _ _ _ _ _ _ _ _ _ _ _ _ _ _ _ _ _ _ _ _ _ _ _ _ _ _ _ _ _ _ _ _ _ c.v c.e 0 0 _ _ c.ends.length _ c.deps.length _ _ _ _ ((Below.refl _ _).alloc (Nat.le_refl _) _) (heap_alloc_new _ _) _ (by assumption) ?_;rw[hB.out,Bool.eq_iff_iff]<;>simp
 ·simp only[hk]at hB ⊢;simp[isBare,e1,e2]at hB;clear hk e1 e2;go_enter Tryz.func87,Tryz.ntmps87;go_upto_region 18 with(fail);refine wp_eq (D:=sfx87 2) (by kernel_rfl) ?_;refine bare_end _ _ _ _ _ _ _ _ _ _ _ _ _ _ _ _ _ _ _ _ _ _ _ _ _ _ _ _ _ _ _ _ _ _ _ _ _ _ _ _ _ _ _ _ _ _ _ _ _ _ _ _ _ _ _ _ _ _ _ _ _ _ _ _ _ c.v c.e 0 0 _ _ c.ends.length _ c.deps.length _ _ _ _ ((Below.refl _ _).alloc (Nat.le_refl _) _) (heap_alloc_new _ _) _ (by assumption) ?_;rw[hB.out,Bool.eq_iff_iff]<;>simp
 ·simp only[hk]at hB ⊢;simp[isBare,e1,e2]at hB;clear hk e1 e2;go_enter Tryz.func87,Tryz.ntmps87;go_upto_region 18 with(fail);refine wp_eq (D:=sfx87 2) (by kernel_rfl) ?_;refine bare_end _ _ _ _ _ _ _ _ _ _ _ _ _ _ _ _ _ _ _ _ _ _ _ _ _ _ _ _ _ _ _ _ _ _ _ _ _ _ _ _ _ _ _ _ _ _ _ _ _ _ _ _ _ _ _ _ _ _ _ _ _ _ _ _ _ zV c.e 0 c.n _ _ 0 _ c.deps.length _ _ _ _ ((Below.refl _ _).alloc (Nat.le_refl _) _) (heap_alloc_new _ _) _ (by assumption) ?_;rw[hB.out,Bool.eq_iff_iff]<;>simp
 ·simp only[hk]at hB ⊢;simp[isBare,e1,e2]at hB;clear hk e1 e2;go_enter Tryz.func87,Tryz.ntmps87;go_upto_region 18 with(fail);refine wp_eq (D:=sfx87 2) (by kernel_rfl) ?_;refine bare_end _ _ _ _ _ _ _ _ _ _ _ _ _ _ _ _ _ _ _ _ _ _ _ _ _ _ _ _ _ _ _ _ _ _ _ _ _ _ _ _ _ _ _ _ _ _ _ _ _ _ _ _ _ _ _ _ _ _ _ _ _ _ _ _ _ c.v c.e 0 0 _ _ c.ends.length _ c.deps.length _ _ _ _ ((Below.refl _ _).alloc (Nat.le_refl _) _) (heap_alloc_new _ _) _ (by assumption) ?_;rw[hB.out,Bool.eq_iff_iff]<;>simp
 ·simp only[hk]at hB ⊢;simp[isBare,e1,e2]at hB;clear hk e1 e2;go_enter Tryz.func87,Tryz.ntmps87;go_upto_region 18 with(fail);refine wp_eq (D:=sfx87 2) (by kernel_rfl) ?_;refine bare_end _ _ _ _ _ _ _ _ _ _ _ _ _ _ _ _ _ _ _ _ _ _ _ _ _ _ _ _ _ _ _ _ _ _ _ _ _ _ _ _ _ _ _ _ _ _ _ _ _ _ _ _ _ _ _ _ _ _ _ _ _ _ _ _ _ c.v c.e c.id c.n _ _ c.ends.length _ 0 _ _ _ _ ((Below.refl _ _).alloc (Nat.le_refl _) _) (heap_alloc_new _ _) _ (by assumption) ?_;rw[hB.out,Bool.eq_iff_iff]<;>simp
 ·have k1:(c.kind==1)=false:=by rw[beq_eq_false_iff_ne];omega
  have k2:(c.kind==2)=false:=by rw[beq_eq_false_iff_ne];omega
  have k3:(c.kind==3)=false:=by rw[beq_eq_false_iff_ne];omega
  have k4:(c.kind==4)=false:=by rw[beq_eq_false_iff_ne];omega
  have k5:(c.kind==5)=false:=by rw[beq_eq_false_iff_ne];omega
  have k6:(c.kind==6)=false:=by rw[beq_eq_false_iff_ne];omega
  have k7:(c.kind==7)=false:=by rw[beq_eq_false_iff_ne];omega
  have k8:(c.kind==8)=false:=by rw[beq_eq_false_iff_ne];omega
  have k9:(c.kind==9)=false:=by rw[beq_eq_false_iff_ne];omega
  have k10:(c.kind==10)=false:=by rw[beq_eq_false_iff_ne];omega
  rw[if_neg (by omega),if_neg (by omega),if_neg (by omega),if_neg (by omega),if_neg (by omega),if_neg (by omega)]at hB;simp[isBare,e1,e2]at hB;clear hk e1 e2;go_enter Tryz.func87,Tryz.ntmps87;go_upto_region 18 with(fail);refine wp_eq (D:=sfx87 2) (by kernel_rfl) ?_;refine bare_end _ _ _ _ _ _ _ _ _ _ _ _ _ _ _ _ _ _ _ _ _ _ _ _ _ _ _ _ _ _ _ _ _ _ _ _ _ _ _ _ _ _ _ _ _ _ _ _ _ _ _ _ _ _ _ _ _ _ _ _ _ _ _ _ _ c.v c.e c.id c.n _ _ c.ends.length _ c.deps.length _ _ _ _ ((Below.refl _ _).alloc (Nat.le_refl _) _) (heap_alloc_new _ _) _ (by assumption) ?_;rw[hB.out,Bool.eq_iff_iff]<;>simp
end Go.Proofs.YtlaldnlgapeckaaGreat
