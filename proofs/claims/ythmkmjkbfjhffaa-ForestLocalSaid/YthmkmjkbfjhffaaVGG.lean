/- Contracts and facts. -/
import Derived.Deep.LoopGhost
import Derived.Handy
import Derived.WalkMore
import Derived.BigRegion
import Derived.Laws.EntriesVeiled
import Derived.Test.YthmkmjkbfjhffaaVGE
import Derived.Test.YthmkmjkbfjhffaaVFH
import Derived.Test.YthmkmjkbfjhffaaVFA
set_option linter.unusedSimpArgs false
set_option maxRecDepth 100000
set_option maxHeartbeats 4000000
namespace Go.Proofs.Ythmkmjkbfjhffaa
open Go.RowKit
theorem app0_nil (W : World) (b : Nat) (ad : Addr) (m c : Nat) (hm : 0 < m) (h : m ≤ 1000000) : (Builtin.append_ #[26, 26] 26 #[.slice (some ⟨b, 0, none⟩) 0 0, .slice (some ad) m c]).run Try.prog W = (Builtin.append_ #[26, 26] 26 #[.slice none 0 0, .slice (some ad) m c]).run Try.prog W := by
  obtain ⟨i0, hi, hz0, hz1, hz2⟩ := info_parts info3
  have h2 : ¬ m = 0 := by omega
  have h3 : Builtin.nextslicecap m 0 = m := by unfold Builtin.nextslicecap; simp; try omega
  have h4 : ¬ 281474976710656 < m * 8 := by omega
  have hf1 := fun W' => run_firstCells_none (P := Try.prog) (w := W') 1 0 0 0
  have hf2 := fun W' x => run_firstCells_some (P := Try.prog) W' 1 0 x 0 0 [] (by simp) (by simp)
  simp [Builtin.append_, run_underlying Try.underlying26, sizeOf, typeInfo, zeroValue, hi, hz0, hz1, hz2, Builtin.lenOf, Question.forced, h2, h3, h4, hf1, hf2]
theorem appE (W : World) (b : Nat) (u : Value) (k : List Int) (hu : DL W u k) (hl : k.length ≤ 1000000) :
    ∃ v' w', (Builtin.append_ #[26, 26] 26 #[.slice (some ⟨b, 0, none⟩) 0 0, u]).run Try.prog W = .ok v' w' ∧ DL w' v' k ∧ Below W.heap.size W w' := by
  by_cases hk : k = []
  · subst hk
    obtain ⟨a, c, rfl⟩ := hu.shape
    refine ⟨.slice (some ⟨b, 0, none⟩) 0 0, W, ?_, .inl ⟨rfl, _, _, rfl⟩, Below.refl _ _⟩
    obtain ⟨i0, hi, hz0, hz1, hz2⟩ := info_parts info3
    have hfn := run_firstCells_none (P := Try.prog) (w := W) i0.size 0 0 c
    have hfs := fun x => run_firstCells_some (P := Try.prog) W i0.size 0 x 0 c [] (by simp) (by simp)
    cases a with
    | none => simp [Builtin.append_, run_underlying Try.underlying26, sizeOf, typeInfo, zeroValue, hi, hz0, Builtin.lenOf, Question.forced, hfn, storeCells]
    | some x => simp [Builtin.append_, run_underlying Try.underlying26, sizeOf, typeInfo, zeroValue, hi, hz0, Builtin.lenOf, Question.forced, hfs, storeCells]
  · have hk0 : 0 < k.length := by rcases k with _ | _; exact absurd rfl hk; simp
    obtain ⟨v', w', hr, ho, hg⟩ := appI W W.heap.size (.slice none 0 0) u [] k ⟨rfl, .inl ⟨rfl, rfl⟩⟩ hu (by simpa using hl) (Nat.le_refl _)
    rcases hu with ⟨rfl, _⟩ | ⟨_, bb, o, c, rfl, _⟩
    · exact absurd rfl hk
    · refine ⟨v', w', (app0_nil W b _ _ _ hk0 hl).trans hr, ?_, (Below.refl _ W).grown hg (Nat.le_refl _) (fun k e => by cases e)⟩
      rw [List.nil_append] at ho
      exact OwnI.DL ho

end Go.Proofs.Ythmkmjkbfjhffaa
/- Contracts and facts. -/
set_option linter.unusedSimpArgs false
set_option maxRecDepth 100000
set_option maxHeartbeats 4000000
namespace Go.Proofs.Ythmkmjkbfjhffaa
open Go.RowKit
set_option maxHeartbeats 2000000 in
theorem AtR_own(v:Value)(g:Gr)(x:Int)(w:World)(hv:GV w v g)(hn:g.es.length<=1000000000):
  Calls Try.prog 41 #[v,.int .i64 x] w fun e w'=>∃r,e= .returned r/\OwnEd w' w.heap.size r (atF g.es x)/\Below w.heap.size w w':=by
 obtain⟨a,b,c,rfl,h1,h2,h3⟩:=hv;obtain⟨w1,hw1⟩:∃w1,w1=w.alloc (.cells #[a,b,c] 28):=⟨_,rfl⟩;obtain⟨hB,hz,hcell0⟩:=one_box w w1 a b c 28 hw1;have hcell:=Hd hcell0;have hB0:=Hd (fun W (B:Below w1.heap.size w1 W)=>hB.trans (B.mono hB.size));have hsz:=Hd hB.size;have hv1:=Hd (h2.below hB);generalize g.es=l at *
 obtain⟨a1,a2,rfl⟩:=h1.shape;obtain⟨b1,b2,rfl⟩:=h2.shape;obtain⟨c1,c2,rfl⟩:=h3.shape;generalize g.vs.length=n1 at *
 generalize g.ds.length=n3 at *
 have hw2:=Hd hw1;clear hw1 hcell0 hB h1 h2 h3;have cellE:=Hd (show ∀(k:Nat) (hk:k<l.length),∃b o,b1=some ⟨b,o,none⟩/\ ∀W,Below w1.heap.size w1 W->EdAt W b (o+k*6) l[k]from fun k hk=>by
  obtain⟨b,o,c,he,e1,e2,e3⟩:=hv1.out.own (fun e=>by rw[e]at hk;simp at hk);injection he with he1 he2 he3
  exact⟨b,o,he1,fun W B=>(e3.below e2 B) k _ (List.getElem?_eq_getElem hk)⟩)
 obtain⟨N,hN⟩:∃N,Hid (N=l.length):=⟨_,rfl⟩;rw[<-hN.out]at hw2 hcell hn;clear hv1;go_enter Try.func41,Try.ntmps41;go_wp2_with fail;rw[<-hN.out,<-hw2.out];obtain⟨q0,q1,q2⟩:=hcell.out w1 (Below.refl _ _);go_wp2_with fail
 go_loopw [5,6] (fun lv i wr=>∃k:Nat,k<=N/\i= .int .i64 k/\OwnEd wr w1.heap.size lv (atF (l.take k) x)/\Below w1.heap.size w1 wr) (fun _ i _=>N-(intOf i).toNat)
 case atStart=>exact⟨0,by omega,rfl,World.ownsRow_nil _ _ _ _,Below.refl _ _⟩
 case round =>
  clear q0 q1 q2;obtain⟨k,hk,rfl,hown,B⟩:=hrel;obtain⟨q0,q1,q2⟩:=hcell.out wr B;have Bs:=B.size;by_cases hlt:k<N
  ·have hkl:k<l.length:=by rw[<-hN.out];exact hlt
   obtain⟨bv,ov,rfl,cv⟩:=cellE.out k hkl;obtain⟨d0,d1,d2,d3,d4,d5⟩:=cv wr B;have hsn:Hid (atF (l.take (k+1)) x=if(l[k].src==x||l[k].dst==x)=true then atF (l.take k) x++[l[k]]else atF (l.take k) x):=atF_snoc l x k hkl;have hlen:=atF_len (l.take k) x;have hlen2:(atF (l.take k) x).length<=1000000000:=by simp at hlen;omega
   have i0:(0:Int)<=(k:Int):=by omega
   have i1:(k:Int)<(N:Int):=by omega
   have Ba:Below w1.heap.size w1 wr:=B;obtain⟨v',w',hr,ho,hb⟩:=snocE wr w1.heap.size _ (atF (l.take k) x) l[k] hown hlen2 Bs;have hb2:=Hd (hb w1 Ba (Nat.le_refl _) (Nat.le_refl _));have ho2:=Hd ho;have hown2:=Hd hown;clear hb ho hown hlen hlen2 cv;generalize atF (l.take k) x=L at *
   generalize l[k]=u at *
   unfold edCells at hr Ba;by_cases hs:u.src=x
   ·have t1:(u.src==x)=true:=by simpa using hs
    have hnew:Hid (atF (l.take (k+1)) x=L++[u]):=by show _=_;rw[hsn.out,t1];rfl
    clear hsn hs
    go_wp2_with (at_builtin;refine wpList_append_runB rfl (.tmp 32) (.tmp 38) 25 rfl u5 (.slice (some ⟨wr.heap.size,0,none⟩) 1 1) rfl rfl _ _ hr ?_)
    go_roundw
    case rel=>exact⟨k+1,by omega,by go_num,by rw[hnew.out];exact ho2.out,hb2.out⟩
    case measure=>simp[intOf];omega
   ·have t1:(u.src==x)=false:=by simpa using hs
    by_cases hd:u.dst=x
    ·have t2:(u.dst==x)=true:=by simpa using hd
     have hnew:Hid (atF (l.take (k+1)) x=L++[u]):=by show _=_;rw[hsn.out,t2];simp
     clear hsn hs hd
     go_wp2_with (at_builtin;refine wpList_append_runB rfl (.tmp 32) (.tmp 38) 25 rfl u5 (.slice (some ⟨wr.heap.size,0,none⟩) 1 1) rfl rfl _ _ hr ?_)
     go_roundw
     case rel=>exact⟨k+1,by omega,by go_num,by rw[hnew.out];exact ho2.out,hb2.out⟩
     case measure=>simp[intOf];omega
    ·have t2:(u.dst==x)=false:=by simpa using hd
     have hnew:Hid (atF (l.take (k+1)) x=L):=by show _=_;rw[hsn.out,t1,t2];rfl
     clear hsn hs hd hr;go_wp2_with fail
     go_roundw
     case rel=>exact⟨k+1,by omega,by go_num,by rw[hnew.out];exact hown2.out,Ba⟩
     case measure=>simp[intOf];omega
  ·have hk2:k=N:=by omega
   have hfin:Hid (atF (l.take k) x=atF l x):=by show _=_;rw[List.take_of_length_le (by rw[hk2,hN.out];exact Nat.le_refl _)]
   rw[hfin.out]at hown;have hE:=Hd (own_mono hown hsz.out);have i1:¬(k:Int)<(N:Int):=by omega
   clear hk2 hown;go_wp2_with fail;go_ret;exact⟨_,rfl,hE.out,hB0.out _ B⟩
theorem appO (W : World) (b base : Nat) (u : Value) (k : List Int) (hu : DL W u k) (hl : k.length ≤ 1000000) (hb : base ≤ W.heap.size) :
    ∃ v' w', (Builtin.append_ #[26, 26] 26 #[.slice (some ⟨b, 0, none⟩) 0 0, u]).run Try.prog W = .ok v' w' ∧ ((k = [] ∧ ∃ a c, v' = .slice a 0 c) ∨ OwnI w' base v' k) ∧ Below W.heap.size W w' := by
  by_cases hk : k = []
  · obtain ⟨v', w', h1, h2, h3⟩ := appE W b u k hu hl
    subst hk
    rcases h2 with h2 | ⟨h2, _⟩
    · exact ⟨v', w', h1, .inl ⟨rfl, h2.2⟩, h3⟩
    · exact absurd rfl h2
  · have hk0 : 0 < k.length := by rcases k with _ | _; exact absurd rfl hk; simp
    obtain ⟨v', w', hr, ho, hg⟩ := appI W W.heap.size (.slice none 0 0) u [] k ⟨rfl, .inl ⟨rfl, rfl⟩⟩ hu (by simpa using hl) (Nat.le_refl _)
    rcases hu with ⟨rfl, _⟩ | ⟨_, bb, o, c, rfl, _⟩
    · exact absurd rfl hk
    · refine ⟨v', w', (app0_nil W b _ _ _ hk0 hl).trans hr, .inr ?_, (Below.refl _ W).grown hg (Nat.le_refl _) (fun k e => by cases e)⟩
      rw [List.nil_append] at ho
      exact ⟨ho.1, ho.2.imp id fun ⟨g, cap, cur, h1, h2, h3⟩ => ⟨g, cap, cur, h1, Nat.le_trans hb h2, h3⟩⟩
end Go.Proofs.Ythmkmjkbfjhffaa
