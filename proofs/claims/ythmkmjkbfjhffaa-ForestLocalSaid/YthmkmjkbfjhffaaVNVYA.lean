/- Facts. -/
import Derived.Below
import Derived.BigQuiet
import Derived.BigRegion
import Derived.ChangeAlike
import Derived.Deep.QuietTactic
import Derived.Deep.RegionHeld3
import Derived.Laws.Rows
import Derived.Lib.Hide
import Derived.Maps.AppendAt
import Derived.Outline
import Derived.RangeFuncBox
import Derived.RegionTactic
import Derived.Test.YthmkmjkbfjhffaaProg
import Derived.WalkKit
import Derived.WalkLawsBesides
import Derived.WalkSpells
set_option maxRecDepth 100000
set_option maxHeartbeats 4000000
namespace Go.Proofs.Ythmkmjkbfjhffaa
open Go.RowKit
theorem Hd{p:Prop}(h:p):Hid p:=Lib.hid h
theorem ret_bool{a b:Bool}(h:a=b):Ending.returned (.bool a)= .returned (.bool b):=by rw[h]
theorem ret_int{k:IntKind}{a b:Int}(h:a=b):Ending.returned (.int k a)= .returned (.int k b):=by rw[h]
def inB(n a b:Int):Bool:=decide (a<=n/\n<=b)
theorem within_any(n a b:Int)(w:World):
    Calls Try.prog 72 #[.int .i64 n,.int .i64 a,.int .i64 b] w fun e w'=>e= .returned (.bool (inB n a b))/\w=w':=by
  by_cases h1:a<=n
  · have t1:decide (a<=n)=true:=by simpa using h1
    have hr:inB n a b=decide (n<=b):=by unfold inB;simp[h1]
    rw[hr];go_enter Try.func72,Try.ntmps72;go_wp2_with fail;go_ret;exact⟨rfl,rfl⟩
  · have t1:decide (a<=n)=false:=by simpa using h1
    have hr:inB n a b=false:=by unfold inB;simp[h1]
    rw[hr];go_enter Try.func72,Try.ntmps72;go_wp2_with fail;go_ret;exact⟨rfl,rfl⟩
structure Vx where
  id:Int
  side:Int
deriving DecidableEq
structure Ed where
  id:Int
  src:Int
  dst:Int
  dir:Bool
  wt:Int
  cap:Int
deriving DecidableEq
def Vx.val(v:Vx):Value:= .agg #[.int .i64 v.id,.int .i64 v.side]
def Ed.val(e:Ed):Value:= .agg #[.int .i64 e.id,.int .i64 e.src,.int .i64 e.dst,.bool e.dir,.int .i64 e.wt,.int .i64 e.cap]
def Vx.ok(v:Vx):Bool:=inB v.id 0 23&&inB v.side 0 3
theorem validVertex_any(v:Vx)(w:World):
    Calls Try.prog 66 #[v.val] w fun e w'=>e= .returned (.bool v.ok)/\Below w.heap.size w w':=by
  unfold Vx.val Vx.ok;have h1:=Lib.hid (fun w'=>within_any v.id 0 23 w');have h2:=Lib.hid (fun w'=>within_any v.side 0 3 w');generalize inB v.id 0 23=x1 at *
  generalize inB v.side 0 3=x2 at *
  have B1:Below w.heap.size w (w.alloc (.cells #[.int .i64 v.id,.int .i64 v.side] 31)):=(Below.refl _ w).alloc (Nat.le_refl _) _;cases x1 with
  | false =>
    go_enter Try.func66,Try.ntmps66;go_wp2_with fail;refine(h1.out _).mono ?_;rintro e w' ⟨rfl,rfl⟩;go_wp2_with fail;go_ret;exact⟨rfl,B1⟩
  | true =>
    go_enter Try.func66,Try.ntmps66;go_wp2_with fail;refine(h1.out _).mono ?_;rintro e w' ⟨rfl,rfl⟩;go_wp2_with fail;refine(h2.out _).mono ?_;rintro e w' ⟨rfl,rfl⟩;go_wp2_with fail;go_ret;exact⟨rfl,B1⟩
def LieV(W:World)(b o:Nat)(l:List Vx):Prop:=∀j v,l[j]?=some v->W.cell? ⟨b,o+j*2,none⟩=some (.int .i64 v.id)/\W.cell? ⟨b,o+j*2+1,none⟩=some (.int .i64 v.side)
def VL(W:World)(v:Value)(l:List Vx):Prop :=
  (l=[]/\ ∃a c,v= .slice a 0 c)\/(l≠[]/\ ∃b o c,v= .slice (some ⟨b,o,none⟩) l.length c/\l.length<=c/\b<W.heap.size/\LieV W b o l)
theorem LieV.below{W W':World}{b o:Nat}{l:List Vx}(h:LieV W b o l)(hb:b<W.heap.size)(B:Below W.heap.size W W'):LieV W' b o l:=fun j v e=>by
  rw[B.cell (p:=⟨b,o+j*2,none⟩) hb,B.cell (p:=⟨b,o+j*2+1,none⟩) hb];exact h j v e
theorem VL.below{W W':World}{v:Value}{l:List Vx}(h:VL W v l)(B:Below W.heap.size W W'):VL W' v l:=by
  rcases h with h|⟨h1,b,o,c,h2,h3,h4,h5⟩
  · exact .inl h
  · exact .inr ⟨h1,b,o,c,h2,h3,Nat.lt_of_lt_of_le h4 B.size,h5.below h4 B⟩
theorem VL.shape{W:World}{v:Value}{l:List Vx}(h:VL W v l):∃a c,v= .slice a l.length c:=by
  rcases h with⟨rfl,a,c,rfl⟩|⟨_,b,o,c,rfl,_⟩
  · exact⟨_,_,rfl⟩
  · exact⟨_,_,rfl⟩
def ascV(x:Int):List Vx->Bool
  | []=>true
  | v::t=>decide (x<v.id)&&v.ok&&ascV v.id t
theorem ascV_cons(x:Int)(v:Vx)(t:List Vx):ascV x (v::t)=(decide (x<v.id)&&v.ok&&ascV v.id t):=rfl
theorem drop_cons(l:List Vx)(k:Nat)(h:k<l.length):l.drop k=l[k]::l.drop (k+1):=List.drop_eq_getElem_cons h
set_option maxHeartbeats 1000000 in
theorem validVertices_any(v:Value)(l:List Vx)(w:World)(hv:VL w v l)(hn:l.length<=1000000000000):
    Calls Try.prog 54 #[v] w fun e w'=>e= .returned (.bool (ascV (-1) l))/\Below w.heap.size w w':=by
  rcases hv with⟨rfl,a,c,rfl⟩|⟨h1,b,o,c,rfl,h3,h4,hL⟩
  · have hr:ascV (-1) []=true:=rfl;rw[hr];go_enter Try.func54,Try.ntmps54;go_wp2_with fail
    go_loop [8] (fun i=>i= .int .i64 0) (fun _=>0)
    case atStart=>rfl
    case round =>
      obtain rfl:=hrel;go_wp2_with fail;go_ret;exact⟨rfl,Below.refl _ _⟩
  · obtain⟨N,hN⟩:∃N,Hid (N=l.length):=⟨_,rfl⟩;rw[<-hN.out]at h3 hn ⊢;have hL2:=Lib.hid hL;clear hL;go_enter Try.func54,Try.ntmps54;go_wp2_with fail
    go_loopw [3,8] (fun lastv i wr=>∃(k:Nat) (y:Int),k<=N/\i= .int .i64 k/\lastv= .int .i64 y/\Hid (ascV (-1) l=ascV y (l.drop k))/\Below w.heap.size w wr) (fun _ i _=>N-(intOf i).toNat)
    case atStart=>exact⟨0,-1,by omega,rfl,rfl,rfl,Below.refl _ _⟩
    case round =>
      obtain⟨k,y,hk,rfl,rfl,hr,B⟩:=hrel;by_cases hlt:k<N
      · have hlt2:k<l.length:=by rw[<-hN.out];exact hlt
        obtain⟨c1,c2⟩:=(hL2.out.below h4 B) k l[k] (List.getElem?_eq_getElem hlt2);have hd:Hid (ascV (-1) l=(decide (y<l[k].id)&&l[k].ok&&ascV l[k].id (l.drop (k+1)))):=by show _=_;rw[hr.out,drop_cons l k hlt2];rfl
        clear hr;generalize l[k]=u at *
        have i0:(0:Int)<=(k:Int):=by omega
        have i1:(k:Int)<(N:Int):=by omega
        have Bs:=B.size;have hval:=Lib.hid (fun w'=>validVertex_any u w');unfold Vx.val at hval;have Ba:Below w.heap.size w (wr.alloc (.cells #[.int .i64 u.id,.int .i64 u.side] 31)):=B.alloc Bs _;by_cases hy:u.id<=y
        · have t1:decide (u.id<=y)=true:=by simpa using hy
          have hf:Hid (ascV (-1) l=false):=by show _=_;rw[hd.out];have:decide (y<u.id)=false:=by rw[decide_eq_false_iff_not];omega
                                              rw[this];rfl
          clear hval;go_wp2_with fail;go_ret;exact⟨ret_bool hf.out.symm,Ba⟩
        · have t1:decide (u.id<=y)=false:=by simpa using hy
          have t2:decide (y<u.id)=true:=by rw[decide_eq_true_iff];omega
          rw[t2]at hd;generalize u.ok=ok at *
          clear t2;cases ok with
          | false =>
            go_wp2_with fail;refine(hval.out _).mono ?_;rintro e w2 ⟨rfl,b2⟩;go_wp2_with fail;go_ret;exact⟨ret_bool hd.out.symm,Ba.trans (b2.mono Ba.size)⟩
          | true =>
            go_wp2_with fail;refine(hval.out _).mono ?_;rintro e w2 ⟨rfl,b2⟩;have c3:w2.cell? ⟨wr.heap.size,0,none⟩=some (.int .i64 u.id):=by
              rw[b2.cell (p:=⟨wr.heap.size,0,none⟩) (by simp)];exact World.cell?_alloc_at _ _ _ _ rfl
            go_wp2_with fail
            go_roundw
            case rel=>exact⟨k+1,u.id,by omega,by go_num,rfl,hd.out,Ba.trans (b2.mono Ba.size)⟩
            case measure=>simp[intOf];omega
      · have hk2:k=N:=by omega
        have hf:Hid (ascV (-1) l=true):=by show _=_;rw[hr.out,List.drop_of_length_le (by rw[hk2,hN.out];exact Nat.le_refl _)];rfl
        have i1:¬(k:Int)<(N:Int):=by omega
        clear hk2;go_wp2_with fail;go_ret;exact⟨ret_bool hf.out.symm,B⟩
/-! ### Places in ascending lists -/
def posK(ks:List Int)(x:Int):Nat:=(ks.takeWhile (fun k=>decide (k<x))).length
abbrev Asc(ks:List Int):Prop:=ks.Pairwise (· < ·)
theorem posK_eq:∀(ks:List Int) (x:Int) (i:Nat),i<=ks.length->(∀j (h:j<ks.length),j<i->ks[j]<x)->(∀j (h:j<ks.length),i<=j->¬ks[j]<x)->posK ks x=i:=by
  intro ks x
  induction ks with
  | nil=>intro i hi _ _;simp at hi;subst hi;rfl
  | cons k t ih =>
    intro i hi h1 h2;cases i with
    | zero =>
      have:=h2 0 (by simp) (by omega);simp only[List.getElem_cons_zero]at this;simp[posK,this]
    | succ i =>
      have h0:=h1 0 (by simp) (by omega);simp only[List.getElem_cons_zero]at h0;have:=ih i (by simpa using hi) (fun j h hj=>by have:=h1 (j+1) (by simpa using h) (by omega);simpa using this) (fun j h hj=>by have:=h2 (j+1) (by simpa using h) (by omega);simpa using this);unfold posK at this ⊢;simp[h0,this]
theorem asc_lt(ks:List Int)(h:Asc ks)(a b:Nat)(ha:a<ks.length)(hb:b<ks.length)(hab:a<b):ks[a]<ks[b]:=List.pairwise_iff_getElem.1 h a b ha hb hab
theorem mem_at(ks:List Int)(x:Int)(h:Asc ks)(i:Nat)(hi:i<ks.length)(h1:∀j (h:j<ks.length),j<i->ks[j]<x)(h2:¬ks[i]<x):(ks[i]=x)↔x∈ks:=by
  constructor
  · intro e;rw[<-e];exact List.getElem_mem hi
  · intro hm;obtain⟨j,hj,rfl⟩:=List.getElem_of_mem hm;rcases Nat.lt_trichotomy j i with h3|h3|h3
    · have:=h1 j hj h3;omega
    · subst h3;rfl
    · have:=asc_lt ks h i j hi hj h3;omega
theorem mem_none(ks:List Int)(x:Int)(h1:∀j (h:j<ks.length),ks[j]<x):x∉ks:=by
  intro hm;obtain⟨j,hj,rfl⟩:=List.getElem_of_mem hm;have:=h1 j hj;omega
def Btw(ks:List Int)(x:Int)(i j:Nat):Prop:=(∀k (h:k<ks.length),k<i->ks[k]<x)/\(∀k (h:k<ks.length),j<=k->¬ks[k]<x)
theorem Btw.up{ks:List Int}{x:Int}{i j h:Nat}(b:Btw ks x i j)(ha:Asc ks)(hh:h<ks.length)(hx:ks[h]<x):Btw ks x (h+1) j :=
  ⟨fun k hk hlt=>by
    by_cases e:k=h
    · subst e;exact hx
    · have:=asc_lt ks ha k h hk hh (by omega);omega,b.2⟩
theorem Btw.down{ks:List Int}{x:Int}{i j h:Nat}(b:Btw ks x i j)(ha:Asc ks)(hh:h<ks.length)(hx:¬ks[h]<x):Btw ks x i h :=
  ⟨b.1,fun k hk hle=>by
    by_cases e:k=h
    · subst e;exact hx
    · have:=asc_lt ks ha h k hh hk (by omega);omega⟩
def cmpI(x y:Int):Int:=if x<y then -1 else if y<x then 1 else 0
theorem isNaN_any(x:Int)(w:World):Calls Try.prog 83 #[.int .i64 x] w fun e w'=>e= .returned (.bool false)/\w=w':=by
  have t:(x != x)=false:=by simp
  go_enter Try.func83,Try.ntmps83;go_wp2_with fail;go_ret;exact⟨ret_bool (by simp),rfl⟩
theorem Compare_any(x y:Int)(w:World):Calls Try.prog 79 #[.int .i64 x,.int .i64 y] w fun e w'=>e= .returned (.int .i64 (cmpI x y))/\w=w':=by
  have h1:=Lib.hid (isNaN_any x w);have h2:=Lib.hid (isNaN_any y w);by_cases hxy:x<y
  · have hr:cmpI x y= -1:=by unfold cmpI;rw[if_pos hxy]
    rw[hr];go_enter Try.func79,Try.ntmps79;go_wp2_with fail;refine h1.out.mono ?_;rintro e w' ⟨rfl,rfl⟩;go_wp2_with fail;refine h2.out.mono ?_;rintro e w' ⟨rfl,rfl⟩;go_wp2_with fail;go_ret;exact⟨rfl,rfl⟩
  · by_cases hyx:y<x
    · have hr:cmpI x y=1:=by unfold cmpI;rw[if_neg hxy,if_pos hyx]
      rw[hr];go_enter Try.func79,Try.ntmps79;go_wp2_with fail;refine h1.out.mono ?_;rintro e w' ⟨rfl,rfl⟩;go_wp2_with fail;refine h2.out.mono ?_;rintro e w' ⟨rfl,rfl⟩;go_wp2_with fail;go_ret;exact⟨rfl,rfl⟩
    · have hr:cmpI x y=0:=by unfold cmpI;rw[if_neg hxy,if_neg hyx]
      rw[hr];go_enter Try.func79,Try.ntmps79;go_wp2_with fail;refine h1.out.mono ?_;rintro e w' ⟨rfl,rfl⟩;go_wp2_with fail;refine h2.out.mono ?_;rintro e w' ⟨rfl,rfl⟩;go_wp2_with fail;go_ret;exact⟨rfl,rfl⟩
theorem place1_any(v:Vx)(x:Int)(w:World):Calls Try.prog 78 #[v.val,.int .i64 x] w fun e w'=>e= .returned (.int .i64 (cmpI v.id x))/\Below w.heap.size w w':=by
  unfold Vx.val;have h:=Lib.hid (fun w'=>Compare_any v.id x w');have B1:Below w.heap.size w (w.alloc (.cells #[.int .i64 v.id,.int .i64 v.side] 31)):=(Below.refl _ w).alloc (Nat.le_refl _) _;go_enter Try.func78,Try.ntmps78;go_wp2_with fail;refine(h.out _).mono ?_;rintro e w' ⟨rfl,rfl⟩;go_wp2_with fail;go_ret;exact⟨rfl,B1⟩
def keysV(l:List Vx):List Int:=l.map (·.id)
theorem keysV_at(l:List Vx)(j:Nat)(h:j<(keysV l).length):(keysV l)[j]=(l[j]'(by simpa[keysV]using h)).id:=by simp[keysV]
def PlacePost(p:Nat)(f:Bool)(w:World)(e:Ending)(w':World):Prop:=e= .returned (.tuple #[.int .i64 (p:Int),.bool f])/\Below w.heap.size w w'
theorem cmp_neg(x y:Int):(cmpI x y<0)↔x<y:=by
  unfold cmpI;by_cases h:x<y
  · rw[if_pos h];exact⟨fun _=>h,fun _=>by omega⟩
  · rw[if_neg h];by_cases h2:y<x
    · rw[if_pos h2];exact⟨fun e=>by omega,fun e=>absurd e h⟩
    · rw[if_neg h2];exact⟨fun e=>by omega,fun e=>absurd e h⟩
theorem cmp_zero(x y:Int):(cmpI x y=0)↔x=y:=by
  unfold cmpI;by_cases h:x<y
  · rw[if_pos h];exact⟨fun e=>by omega,fun e=>by omega⟩
  · rw[if_neg h];by_cases h2:y<x
    · rw[if_pos h2];exact⟨fun e=>by omega,fun e=>by omega⟩
    · rw[if_neg h2];exact⟨fun e=>by omega,fun e=>rfl⟩
set_option maxHeartbeats 1000000 in
theorem searchV_any(v:Value)(l:List Vx)(x:Int)(w:World)(hv:VL w v l)(hn:l.length<=1000000000000)(hs:Asc (keysV l)):
    Calls Try.prog 77 #[v,.int .i64 x,.func (.func 78) #[] #[]] w (PlacePost (posK (keysV l) x) (decide (x∈keysV l)) w):=by
  rcases hv with⟨rfl,a,c,rfl⟩|⟨h1,b,o,c,rfl,h3,h4,hL⟩
  · have hr:decide (x∈keysV [])=false:=by simp[keysV]
    have hp:posK (keysV []) x=0:=rfl;rw[hr,hp];clear hs hr hp;go_enter Try.func77,Try.ntmps77;go_wp2_with fail
    go_loop [9,10] (fun i j=>i= .int .i64 0/\j= .int .i64 0) (fun _ _=>0)
    case atStart=>exact⟨rfl,rfl⟩
    case round =>
      obtain⟨rfl,rfl⟩:=hrel;go_wp2_with fail;go_ret2;exact⟨rfl,Below.refl _ _⟩
  · obtain⟨N,hN⟩:∃N,Hid (N=l.length):=⟨_,rfl⟩;have hkl:Hid ((keysV l).length=N):=by show _=_;rw[hN.out];simp[keysV]
    rw[<-hN.out]at h3 hn ⊢;have hL2:=Lib.hid hL;have hs2:=Lib.hid hs;clear hL hs h1;go_enter Try.func77,Try.ntmps77;go_wp2_with fail
    go_loopw [9,10,11] (fun i j _ wr=>∃(p q:Nat),p<=q/\q<=N/\i= .int .i64 p/\j= .int .i64 q/\Hid (Btw (keysV l) x p q)/\Below w.heap.size w wr) (fun i j _ _=>(intOf j).toNat-(intOf i).toNat)
    case atStart=>exact⟨0,N,by omega,by omega,rfl,rfl,⟨fun k hk h=>by omega,fun k hk h=>by rw[hkl.out]at hk;omega⟩,Below.refl _ _⟩
    case round =>
      obtain⟨p,q,hpq,hq,rfl,rfl,hb,B⟩:=hrel;have Bs:=B.size;by_cases hlt:p<q
      · obtain⟨h,hh⟩:∃h,h=(p+q) / 2:=⟨_,rfl⟩;have hhN:h<l.length:=by rw[<-hN.out];omega
        have e1:((p:Int)+(q:Int)) / 2=((h:Nat):Int):=by omega
        have e2:IntKind.i64.wrap ((p:Int)+(q:Int))=(p:Int)+(q:Int):=IntWalk.i64_in _ (by omega);have e3:IntKind.u64.wrap ((p:Int)+(q:Int))=(p:Int)+(q:Int):=IntWalk.u64_in _ (by omega);have e4:IntKind.i64.wrap ((h:Nat):Int)=(h:Int):=IntWalk.i64_in _ (by omega);obtain⟨c1,c2⟩:=(hL2.out.below h4 B) h l[h] (List.getElem?_eq_getElem hhN);have hkh:Hid ((keysV l)[h]'(by rw[hkl.out];omega)=l[h].id):=keysV_at l h _;have hc:=Lib.hid (place1_any l[h] x wr);unfold Vx.val at hc;have i0:(0:Int)<=(h:Int):=by omega
        have i1:(h:Int)<(N:Int):=by omega
        have hup:=Lib.hid (fun(hx:l[h].id<x)=>hb.out.up hs2.out (by rw[hkl.out];omega) (show(keysV l)[h]'(by rw[hkl.out];omega)<x by rw[hkh.out];exact hx));have hdn:=Lib.hid (fun(hx:¬l[h].id<x)=>hb.out.down hs2.out (by rw[hkl.out];omega) (show ¬(keysV l)[h]'(by rw[hkl.out];omega)<x by rw[hkh.out];exact hx));clear hkh hh;generalize l[h]=u at *
        have hcn:=cmp_neg u.id x;generalize cmpI u.id x=cc at *
        by_cases hx:u.id<x
        · have t1:decide (cc<0)=true:=by rw[decide_eq_true_iff];exact hcn.2 hx
          have hnew:=Lib.hid (hup.out hx);clear hcn hx hup hdn;go_wp2_with fail;refine hc.out.mono ?_;rintro e w2 ⟨rfl,b2⟩;go_wp2_with fail
          go_roundw
          case rel=>exact⟨h+1,q,by omega,hq,by go_num,rfl,hnew.out,B.trans (b2.mono Bs)⟩
          case measure=>simp[intOf];omega
        · have t1:decide (cc<0)=false:=by rw[decide_eq_false_iff_not];exact fun h=>hx (hcn.1 h)
          have hnew:=Lib.hid (hdn.out hx);clear hcn hx hup hdn;go_wp2_with fail;refine hc.out.mono ?_;rintro e w2 ⟨rfl,b2⟩;go_wp2_with fail
          go_roundw
          case rel=>exact⟨p,h,by omega,by omega,rfl,rfl,hnew.out,B.trans (b2.mono Bs)⟩
          case measure=>simp[intOf];omega
      · have hpe:p=q:=by omega
        have hpos:Hid (posK (keysV l) x=p):=posK_eq _ _ _ (by rw[hkl.out];omega) hb.out.1 (fun j hj h=>hb.out.2 j hj (by omega));by_cases hpN:p<N
        · have hpl:p<l.length:=by rw[<-hN.out];exact hpN
          obtain⟨c1,c2⟩:=(hL2.out.below h4 B) p l[p] (List.getElem?_eq_getElem hpl);have hkh:(keysV l)[p]'(by rw[hkl.out];omega)=l[p].id:=keysV_at l p _;have hm:=mem_at (keysV l) x hs2.out p (by rw[hkl.out];omega) hb.out.1 (hb.out.2 p (by rw[hkl.out];omega) (by omega));rw[hkh]at hm;have hc:=Lib.hid (place1_any l[p] x wr);unfold Vx.val at hc;have i0:(0:Int)<=(p:Int):=by omega
          have i1:(p:Int)<(N:Int):=by omega
          clear hkh hpe;generalize l[p]=u at *
          have hcz:=cmp_zero u.id x;generalize cmpI u.id x=cc at *
          have hfd:Hid ((cc==0)=decide (x∈keysV l)):=by
            show _=_;rw[Bool.eq_iff_iff];simp only[beq_iff_eq,decide_eq_true_eq];exact hcz.trans hm
          clear hm hcz;go_wp2_with fail;refine hc.out.mono ?_;rintro e w2 ⟨rfl,b2⟩;go_wp2_with fail;go_ret2;refine⟨?_,B.trans (b2.mono Bs)⟩;rw[hpos.out,<-hfd.out];rfl
        · have hnm:Hid (decide (x∈keysV l)=false):=by
            show _=_;rw[decide_eq_false_iff_not];exact mem_none _ _ (fun j hj=>hb.out.1 j hj (by rw[hkl.out]at hj;omega))
          have i1:¬(p:Int)<(N:Int):=by omega
          have i2:decide ((p:Int)<(N:Int))=false:=by rw[decide_eq_false_iff_not];omega
          have i3:decide (p<N)=false:=by rw[decide_eq_false_iff_not];omega
          clear hpe;go_wp2_with fail;go_ret2;refine⟨?_,B⟩;rw[hpos.out,hnm.out];rfl
theorem place_any(v:Value)(l:List Vx)(x:Int)(w:World)(hv:VL w v l)(hn:l.length<=1000000000000)(hs:Asc (keysV l)):
    Calls Try.prog 73 #[v,.int .i64 x] w (PlacePost (posK (keysV l) x) (decide (x∈keysV l)) w):=by
  have h:=Lib.hid (searchV_any v l x w hv hn hs);generalize posK (keysV l) x=p at *
  generalize decide (x∈keysV l)=f at *
  clear hv hs;go_enter Try.func73,Try.ntmps73;go_wp2_with fail;refine h.out.mono ?_;rintro e w2 ⟨rfl,b2⟩;go_wp2_with fail;go_ret2;exact⟨rfl,b2⟩
theorem has_any(v:Value)(l:List Vx)(x:Int)(w:World)(hv:VL w v l)(hn:l.length<=1000000000000)(hs:Asc (keysV l)):
    Calls Try.prog 68 #[v,.int .i64 x] w fun e w'=>e= .returned (.bool (decide (x∈keysV l)))/\Below w.heap.size w w':=by
  have h:=Lib.hid (place_any v l x w hv hn hs);generalize posK (keysV l) x=p at *
  generalize decide (x∈keysV l)=f at *
  clear hv hs;go_enter Try.func68,Try.ntmps68;go_wp2_with fail;refine h.out.mono ?_;rintro e w2 ⟨rfl,b2⟩;go_wp2_with fail;go_ret;exact⟨rfl,b2⟩
def Ed.okIn(e:Ed)(ks:List Int):Bool:=inB e.id 0 39&&decide (e.src∈ks)&&decide (e.dst∈ks)&&inB e.wt (-1000) 1000&&inB e.cap 0 1000
def Ed.ok(e:Ed):Bool:=inB e.id 0 39&&inB e.src 0 23&&inB e.dst 0 23&&inB e.wt (-1000) 1000&&inB e.cap 0 1000
def edCells(e:Ed):Array Value:= #[.int .i64 e.id,.int .i64 e.src,.int .i64 e.dst,.bool e.dir,.int .i64 e.wt,.int .i64 e.cap]
def EdAt(W:World)(b o:Nat)(e:Ed):Prop:=W.cell? ⟨b,o,none⟩=some (.int .i64 e.id)/\W.cell? ⟨b,o+1,none⟩=some (.int .i64 e.src)/\W.cell? ⟨b,o+2,none⟩=some (.int .i64 e.dst) /\
  W.cell? ⟨b,o+3,none⟩=some (.bool e.dir)/\W.cell? ⟨b,o+4,none⟩=some (.int .i64 e.wt)/\W.cell? ⟨b,o+5,none⟩=some (.int .i64 e.cap)
theorem EdAt.below{W W':World}{b o:Nat}{e:Ed}(h:EdAt W b o e)(hb:b<W.heap.size)(B:Below W.heap.size W W'):EdAt W' b o e:=by
  obtain⟨h0,h1,h2,h3,h4,h5⟩:=h;refine⟨?_,?_,?_,?_,?_,?_⟩
  · rw[B.cell (p:=⟨b,o,none⟩) hb];exact h0
  · rw[B.cell (p:=⟨b,o+1,none⟩) hb];exact h1
  · rw[B.cell (p:=⟨b,o+2,none⟩) hb];exact h2
  · rw[B.cell (p:=⟨b,o+3,none⟩) hb];exact h3
  · rw[B.cell (p:=⟨b,o+4,none⟩) hb];exact h4
  · rw[B.cell (p:=⟨b,o+5,none⟩) hb];exact h5
theorem within_b(n a b:Int)(w:World):
    Calls Try.prog 72 #[.int .i64 n,.int .i64 a,.int .i64 b] w fun e w'=>e= .returned (.bool (inB n a b))/\Below w.heap.size w w' :=
  (within_any n a b w).mono fun _ _ h=>by obtain⟨h1,rfl⟩:=h;exact⟨h1,Below.refl _ _⟩
theorem EdAt.box(W:World)(e:Ed)(t:TypeId):EdAt (W.alloc (.cells (edCells e) t)) W.heap.size 0 e:=by
  refine⟨?_,?_,?_,?_,?_,?_⟩<;>exact World.cell?_alloc_at _ _ _ _ rfl
set_option maxHeartbeats 1000000 in
theorem validEdge_any(e:Ed)(v:Value)(l:List Vx)(w:World)(hv:VL w v l)(hn:l.length<=1000000000000)(hs:Asc (keysV l)):
    Calls Try.prog 67 #[e.val,v] w fun r w'=>r= .returned (.bool (e.okIn (keysV l)))/\Below w.heap.size w w':=by
  unfold Ed.okIn;obtain⟨w1,hw1⟩:∃w1,w1=w.alloc (.cells (edCells e) 40):=⟨_,rfl⟩;have hE:EdAt w1 w.heap.size 0 e:=by rw[hw1];exact EdAt.box w e 40
  have hB:Below w.heap.size w w1:=by rw[hw1];exact(Below.refl _ w).alloc (Nat.le_refl _) _
  have hz:w.heap.size<w1.heap.size:=by rw[hw1];simp
  have hcell:=Lib.hid (fun W (B:Below w1.heap.size w1 W)=>hE.below hz B);have hB0:=Lib.hid (fun W (B:Below w1.heap.size w1 W)=>hB.trans (B.mono hB.size));have hv1:=hv.below hB;have k1:=Lib.hid (fun w' (_:Below w1.heap.size w1 w')=>within_b e.id 0 39 w');have k2:=Lib.hid (fun w' (B:Below w1.heap.size w1 w')=>has_any v l e.src w' (hv1.below B) hn hs);have k3:=Lib.hid (fun w' (B:Below w1.heap.size w1 w')=>has_any v l e.dst w' (hv1.below B) hn hs);have k4:=Lib.hid (fun w' (_:Below w1.heap.size w1 w')=>within_b e.wt (-1000) 1000 w');have k5:=Lib.hid (fun w' (_:Below w1.heap.size w1 w')=>within_b e.cap 0 1000 w');generalize inB e.id 0 39=x1 at *
  generalize decide (e.src∈keysV l)=x2 at *
  generalize decide (e.dst∈keysV l)=x3 at *
  generalize inB e.wt (-1000) 1000=x4 at *
  generalize inB e.cap 0 1000=x5 at *
  have B1:=Below.refl w1.heap.size w1;have hw2:=Lib.hid hw1;unfold edCells at hw2;unfold Ed.val;clear hv hv1 hs hE hB hw1;cases x1 with
  | false =>
    go_enter Try.func67,Try.ntmps67;go_wp2_with fail;rw[<-hw2.out];refine(k1.out _ B1).mono ?_;rintro e w2 ⟨rfl,b2⟩;have B2:=B1.trans (b2.mono B1.size);obtain⟨q0,q1,q2,q3,q4,q5⟩:=hcell.out _ B2;simp only[Nat.zero_add]at q0 q1 q2 q3 q4 q5;go_wp2_with fail;go_ret;exact⟨rfl,hB0.out _ B2⟩
  | true =>
    cases x2 with
    | false =>
      go_enter Try.func67,Try.ntmps67;go_wp2_with fail;rw[<-hw2.out];refine(k1.out _ B1).mono ?_;rintro e w2 ⟨rfl,b2⟩;have B2:=B1.trans (b2.mono B1.size);obtain⟨q0,q1,q2,q3,q4,q5⟩:=hcell.out _ B2;simp only[Nat.zero_add]at q0 q1 q2 q3 q4 q5;go_wp2_with fail;refine(k2.out _ B2).mono ?_;rintro e w3 ⟨rfl,b3⟩;have B3:=B2.trans (b3.mono B2.size);obtain⟨q0,q1,q2,q3,q4,q5⟩:=hcell.out _ B3;simp only[Nat.zero_add]at q0 q1 q2 q3 q4 q5;go_wp2_with fail;go_ret;exact⟨rfl,hB0.out _ B3⟩
    | true =>
      cases x3 with
      | false =>
        go_enter Try.func67,Try.ntmps67;go_wp2_with fail;rw[<-hw2.out];refine(k1.out _ B1).mono ?_;rintro e w2 ⟨rfl,b2⟩;have B2:=B1.trans (b2.mono B1.size);obtain⟨q0,q1,q2,q3,q4,q5⟩:=hcell.out _ B2;simp only[Nat.zero_add]at q0 q1 q2 q3 q4 q5;go_wp2_with fail;refine(k2.out _ B2).mono ?_;rintro e w3 ⟨rfl,b3⟩;have B3:=B2.trans (b3.mono B2.size);obtain⟨q0,q1,q2,q3,q4,q5⟩:=hcell.out _ B3;simp only[Nat.zero_add]at q0 q1 q2 q3 q4 q5;go_wp2_with fail;refine(k3.out _ B3).mono ?_;rintro e w4 ⟨rfl,b4⟩;have B4:=B3.trans (b4.mono B3.size);obtain⟨q0,q1,q2,q3,q4,q5⟩:=hcell.out _ B4;simp only[Nat.zero_add]at q0 q1 q2 q3 q4 q5;go_wp2_with fail;go_ret;exact⟨rfl,hB0.out _ B4⟩
      | true =>
        cases x4 with
        | false =>
          go_enter Try.func67,Try.ntmps67;go_wp2_with fail;rw[<-hw2.out];refine(k1.out _ B1).mono ?_;rintro e w2 ⟨rfl,b2⟩;have B2:=B1.trans (b2.mono B1.size);obtain⟨q0,q1,q2,q3,q4,q5⟩:=hcell.out _ B2;simp only[Nat.zero_add]at q0 q1 q2 q3 q4 q5;go_wp2_with fail;refine(k2.out _ B2).mono ?_;rintro e w3 ⟨rfl,b3⟩;have B3:=B2.trans (b3.mono B2.size);obtain⟨q0,q1,q2,q3,q4,q5⟩:=hcell.out _ B3;simp only[Nat.zero_add]at q0 q1 q2 q3 q4 q5;go_wp2_with fail;refine(k3.out _ B3).mono ?_;rintro e w4 ⟨rfl,b4⟩;have B4:=B3.trans (b4.mono B3.size);obtain⟨q0,q1,q2,q3,q4,q5⟩:=hcell.out _ B4;simp only[Nat.zero_add]at q0 q1 q2 q3 q4 q5;go_wp2_with fail;refine(k4.out _ B4).mono ?_;rintro e w5 ⟨rfl,b5⟩;have B5:=B4.trans (b5.mono B4.size);obtain⟨q0,q1,q2,q3,q4,q5⟩:=hcell.out _ B5;simp only[Nat.zero_add]at q0 q1 q2 q3 q4 q5;go_wp2_with fail;go_ret;exact⟨rfl,hB0.out _ B5⟩
        | true =>
          cases x5 with
          | false =>
            go_enter Try.func67,Try.ntmps67;go_wp2_with fail;rw[<-hw2.out];refine(k1.out _ B1).mono ?_;rintro e w2 ⟨rfl,b2⟩;have B2:=B1.trans (b2.mono B1.size);obtain⟨q0,q1,q2,q3,q4,q5⟩:=hcell.out _ B2;simp only[Nat.zero_add]at q0 q1 q2 q3 q4 q5;go_wp2_with fail;refine(k2.out _ B2).mono ?_;rintro e w3 ⟨rfl,b3⟩;have B3:=B2.trans (b3.mono B2.size);obtain⟨q0,q1,q2,q3,q4,q5⟩:=hcell.out _ B3;simp only[Nat.zero_add]at q0 q1 q2 q3 q4 q5;go_wp2_with fail;refine(k3.out _ B3).mono ?_;rintro e w4 ⟨rfl,b4⟩;have B4:=B3.trans (b4.mono B3.size);obtain⟨q0,q1,q2,q3,q4,q5⟩:=hcell.out _ B4;simp only[Nat.zero_add]at q0 q1 q2 q3 q4 q5;go_wp2_with fail;refine(k4.out _ B4).mono ?_;rintro e w5 ⟨rfl,b5⟩;have B5:=B4.trans (b5.mono B4.size);obtain⟨q0,q1,q2,q3,q4,q5⟩:=hcell.out _ B5;simp only[Nat.zero_add]at q0 q1 q2 q3 q4 q5;go_wp2_with fail;refine(k5.out _ B5).mono ?_;rintro e w6 ⟨rfl,b6⟩;have B6:=B5.trans (b6.mono B5.size);obtain⟨q0,q1,q2,q3,q4,q5⟩:=hcell.out _ B6;simp only[Nat.zero_add]at q0 q1 q2 q3 q4 q5;go_wp2_with fail;go_ret;exact⟨rfl,hB0.out _ B6⟩
          | true =>
            go_enter Try.func67,Try.ntmps67;go_wp2_with fail;rw[<-hw2.out];refine(k1.out _ B1).mono ?_;rintro e w2 ⟨rfl,b2⟩;have B2:=B1.trans (b2.mono B1.size);obtain⟨q0,q1,q2,q3,q4,q5⟩:=hcell.out _ B2;simp only[Nat.zero_add]at q0 q1 q2 q3 q4 q5;go_wp2_with fail;refine(k2.out _ B2).mono ?_;rintro e w3 ⟨rfl,b3⟩;have B3:=B2.trans (b3.mono B2.size);obtain⟨q0,q1,q2,q3,q4,q5⟩:=hcell.out _ B3;simp only[Nat.zero_add]at q0 q1 q2 q3 q4 q5;go_wp2_with fail;refine(k3.out _ B3).mono ?_;rintro e w4 ⟨rfl,b4⟩;have B4:=B3.trans (b4.mono B3.size);obtain⟨q0,q1,q2,q3,q4,q5⟩:=hcell.out _ B4;simp only[Nat.zero_add]at q0 q1 q2 q3 q4 q5;go_wp2_with fail;refine(k4.out _ B4).mono ?_;rintro e w5 ⟨rfl,b5⟩;have B5:=B4.trans (b5.mono B4.size);obtain⟨q0,q1,q2,q3,q4,q5⟩:=hcell.out _ B5;simp only[Nat.zero_add]at q0 q1 q2 q3 q4 q5;go_wp2_with fail;refine(k5.out _ B5).mono ?_;rintro e w6 ⟨rfl,b6⟩;have B6:=B5.trans (b6.mono B5.size);obtain⟨q0,q1,q2,q3,q4,q5⟩:=hcell.out _ B6;simp only[Nat.zero_add]at q0 q1 q2 q3 q4 q5;go_wp2_with fail;go_ret;exact⟨rfl,hB0.out _ B6⟩
theorem ascV_spec(l:List Vx):∀(x:Int),ascV x l=true->(∀v∈l,x<v.id)/\Asc (keysV l):=by
  induction l with
  | nil=>intro x _;exact⟨fun v h=>by simp at h,List.Pairwise.nil⟩
  | cons v t ih =>
    intro x h;rw[ascV_cons]at h;simp only[Bool.and_eq_true,decide_eq_true_eq]at h;obtain⟨⟨h1,_⟩,h3⟩:=h;obtain⟨h4,h5⟩:=ih _ h3;refine⟨fun u hu=>?_,List.Pairwise.cons (fun k hk=>?_) h5⟩
    · rcases List.mem_cons.1 hu with rfl|hu
      · exact h1
      · have:=h4 u hu;omega
    · simp only[List.mem_map]at hk;obtain⟨u,hu,rfl⟩:=hk;exact h4 u hu
def LieE(W:World)(b o:Nat)(l:List Ed):Prop:=∀j e,l[j]?=some e->EdAt W b (o+j*6) e
def EL(W:World)(v:Value)(l:List Ed):Prop :=
  (l=[]/\ ∃a c,v= .slice a 0 c)\/(l≠[]/\ ∃b o c,v= .slice (some ⟨b,o,none⟩) l.length c/\l.length<=c/\b<W.heap.size/\LieE W b o l)
theorem LieE.below{W W':World}{b o:Nat}{l:List Ed}(h:LieE W b o l)(hb:b<W.heap.size)(B:Below W.heap.size W W'):LieE W' b o l:=fun j e he=>(h j e he).below hb B
theorem EL.below{W W':World}{v:Value}{l:List Ed}(h:EL W v l)(B:Below W.heap.size W W'):EL W' v l:=by
  rcases h with h|⟨h1,b,o,c,h2,h3,h4,h5⟩
  · exact .inl h
  · exact .inr ⟨h1,b,o,c,h2,h3,Nat.lt_of_lt_of_le h4 B.size,h5.below h4 B⟩
theorem EL.shape{W:World}{v:Value}{l:List Ed}(h:EL W v l):∃a c,v= .slice a l.length c:=by
  rcases h with⟨rfl,a,c,rfl⟩|⟨_,b,o,c,rfl,_⟩
  · exact⟨_,_,rfl⟩
  · exact⟨_,_,rfl⟩
def LieD(W:World)(b o:Nat)(l:List Int):Prop:=∀j x,l[j]?=some x->W.cell? ⟨b,o+j,none⟩=some (.int .i64 x)
def DL(W:World)(v:Value)(l:List Int):Prop :=
  (l=[]/\ ∃a c,v= .slice a 0 c)\/(l≠[]/\ ∃b o c,v= .slice (some ⟨b,o,none⟩) l.length c/\l.length<=c/\b<W.heap.size/\LieD W b o l)
theorem LieD.below{W W':World}{b o:Nat}{l:List Int}(h:LieD W b o l)(hb:b<W.heap.size)(B:Below W.heap.size W W'):LieD W' b o l:=fun j x e=>by
  rw[B.cell (p:=⟨b,o+j,none⟩) hb];exact h j x e
theorem DL.below{W W':World}{v:Value}{l:List Int}(h:DL W v l)(B:Below W.heap.size W W'):DL W' v l:=by
  rcases h with h|⟨h1,b,o,c,h2,h3,h4,h5⟩
  · exact .inl h
  · exact .inr ⟨h1,b,o,c,h2,h3,Nat.lt_of_lt_of_le h4 B.size,h5.below h4 B⟩
theorem DL.shape{W:World}{v:Value}{l:List Int}(h:DL W v l):∃a c,v= .slice a l.length c:=by
  rcases h with⟨rfl,a,c,rfl⟩|⟨_,b,o,c,rfl,_⟩
  · exact⟨_,_,rfl⟩
  · exact⟨_,_,rfl⟩
def ascE(ks:List Int)(x:Int):List Ed->Bool
  | []=>true
  | e::t=>decide (x<e.id)&&e.okIn ks&&ascE ks e.id t
def ascD(ks:List Int)(x:Int):List Int->Bool
  | []=>true
  | d::t=>decide (x<d)&&decide (d∈ks)&&ascD ks d t
theorem dropE(l:List Ed)(k:Nat)(h:k<l.length):l.drop k=l[k]::l.drop (k+1):=List.drop_eq_getElem_cons h
theorem dropD(l:List Int)(k:Nat)(h:k<l.length):l.drop k=l[k]::l.drop (k+1):=List.drop_eq_getElem_cons h
set_option maxHeartbeats 1000000 in
theorem validEdges_any(v vv:Value)(l:List Ed)(vs:List Vx)(w:World)(hv:EL w v l)(hvv:VL w vv vs)(hn:l.length<=1000000000000)(hm:vs.length<=1000000000000)(hs:Asc (keysV vs)):
    Calls Try.prog 55 #[v,vv] w fun e w'=>e= .returned (.bool (ascE (keysV vs) (-1) l))/\Below w.heap.size w w':=by
  have hval0:=Lib.hid (fun(u:Ed) w' (B:Below w.heap.size w w')=>validEdge_any u vv vs w' (hvv.below B) hm hs);generalize keysV vs=ks at *
  clear hvv hs hm;rcases hv with⟨rfl,a,c,rfl⟩|⟨h1,b,o,c,rfl,h3,h4,hL⟩
  · have hr:ascE ks (-1) []=true:=rfl;rw[hr];go_enter Try.func55,Try.ntmps55;go_wp2_with fail
    go_loop [10] (fun i=>i= .int .i64 0) (fun _=>0)
    case atStart=>rfl
    case round =>
      obtain rfl:=hrel;go_wp2_with fail;go_ret;exact⟨rfl,Below.refl _ _⟩
  · obtain⟨N,hN⟩:∃N,Hid (N=l.length):=⟨_,rfl⟩;rw[<-hN.out]at h3 hn ⊢;have hL2:=Lib.hid hL;clear hL;go_enter Try.func55,Try.ntmps55;go_wp2_with fail
    go_loopw [5,10] (fun lastv i wr=>∃(k:Nat) (y:Int),k<=N/\i= .int .i64 k/\lastv= .int .i64 y/\Hid (ascE ks (-1) l=ascE ks y (l.drop k))/\Below w.heap.size w wr) (fun _ i _=>N-(intOf i).toNat)
    case atStart=>exact⟨0,-1,by omega,rfl,rfl,rfl,Below.refl _ _⟩
    case round =>
      obtain⟨k,y,hk,rfl,rfl,hr,B⟩:=hrel;by_cases hlt:k<N
      · have hlt2:k<l.length:=by rw[<-hN.out];exact hlt
        obtain⟨c0,c1,c2,c3,c4,c5⟩:=(hL2.out.below h4 B) k l[k] (List.getElem?_eq_getElem hlt2);have hd:Hid (ascE ks (-1) l=(decide (y<l[k].id)&&l[k].okIn ks&&ascE ks l[k].id (l.drop (k+1)))):=by show _=_;rw[hr.out,dropE l k hlt2];rfl
        clear hr;generalize l[k]=u at *
        have i0:(0:Int)<=(k:Int):=by omega
        have i1:(k:Int)<(N:Int):=by omega
        have Bs:=B.size;have Ba:Below w.heap.size w (wr.alloc (.cells (edCells u) 40)):=B.alloc Bs _;have hval:=Lib.hid (hval0.out u _ Ba);unfold Ed.val edCells at hval;by_cases hy:u.id<=y
        · have t1:decide (u.id<=y)=true:=by simpa using hy
          have hf:Hid (ascE ks (-1) l=false):=by
            show _=_;rw[hd.out];have:decide (y<u.id)=false:=by rw[decide_eq_false_iff_not];omega
            rw[this];rfl
          clear hval;go_wp2_with fail;go_ret;exact⟨ret_bool hf.out.symm,Ba⟩
        · have t1:decide (u.id<=y)=false:=by simpa using hy
          have t2:decide (y<u.id)=true:=by rw[decide_eq_true_iff];omega
          rw[t2]at hd;generalize u.okIn ks=ok at *
          clear t2;cases ok with
          | false =>
            go_wp2_with fail;refine hval.out.mono ?_;rintro e w2 ⟨rfl,b2⟩;go_wp2_with fail;go_ret;exact⟨ret_bool hd.out.symm,Ba.trans (b2.mono Ba.size)⟩
          | true =>
            go_wp2_with fail;refine hval.out.mono ?_;rintro e w2 ⟨rfl,b2⟩;have c6:w2.cell? ⟨wr.heap.size,0,none⟩=some (.int .i64 u.id):=by
              rw[b2.cell (p:=⟨wr.heap.size,0,none⟩) (by simp)];exact World.cell?_alloc_at _ _ _ _ rfl
            go_wp2_with fail
            go_roundw
            case rel=>exact⟨k+1,u.id,by omega,by go_num,rfl,hd.out,Ba.trans (b2.mono Ba.size)⟩
            case measure=>simp[intOf];omega
      · have hk2:k=N:=by omega
        have hf:Hid (ascE ks (-1) l=true):=by show _=_;rw[hr.out,List.drop_of_length_le (by rw[hk2,hN.out];exact Nat.le_refl _)];rfl
        have i1:¬(k:Int)<(N:Int):=by omega
        clear hk2;go_wp2_with fail;go_ret;exact⟨ret_bool hf.out.symm,B⟩
def dOk(ks l:List Int):Bool:=decide (l.length<=3)&&ascD ks (-1) l
set_option maxHeartbeats 1000000 in
theorem validDepots_any(v vv:Value)(l:List Int)(vs:List Vx)(w:World)(hv:DL w v l)(hvv:VL w vv vs)(hn:l.length<=1000000000000)(hm:vs.length<=1000000000000)(hs:Asc (keysV vs)):
    Calls Try.prog 56 #[v,vv] w fun e w'=>e= .returned (.bool (dOk (keysV vs) l))/\Below w.heap.size w w':=by
  have hval0:=Lib.hid (fun(u:Int) w' (B:Below w.heap.size w w')=>has_any vv vs u w' (hvv.below B) hm hs);generalize keysV vs=ks at *
  clear hvv hs hm;by_cases h3:3<l.length
  · have hr:dOk ks l=false:=by unfold dOk;rw[show decide (l.length<=3)=false by rw[decide_eq_false_iff_not];omega];rfl
    rw[hr];obtain⟨a,c,rfl⟩:=hv.shape;clear hv hr;generalize l.length=N at *
    have t1:decide ((N:Int)>3)=true:=by rw[decide_eq_true_iff];omega
    have t1i:(3:Int)<(N:Int):=by omega
    go_enter Try.func56,Try.ntmps56;go_wp2_with fail;go_ret;exact⟨rfl,Below.refl _ _⟩
  have hr0:dOk ks l=ascD ks (-1) l:=by unfold dOk;rw[show decide (l.length<=3)=true by rw[decide_eq_true_iff];omega];rfl
  rw[hr0];clear hr0;rcases hv with⟨rfl,a,c,rfl⟩|⟨h1,b,o,c,rfl,hc3,h4,hL⟩
  · have hr:ascD ks (-1) []=true:=rfl;rw[hr];clear h3;go_enter Try.func56,Try.ntmps56;go_wp2_with fail
    go_loop [5,7,13] (fun _ _ i=>i= .int .i64 0) (fun _ _ _=>0)
    case atStart=>rfl
    case round =>
      obtain rfl:=hrel;go_wp2_with fail;go_ret;exact⟨rfl,Below.refl _ _⟩
  · obtain⟨N,hN⟩:∃N,Hid (N=l.length):=⟨_,rfl⟩;rw[<-hN.out]at hc3 hn h3 ⊢;have hL2:=Lib.hid hL;clear hL;have t1:decide ((N:Int)>3)=false:=by rw[decide_eq_false_iff_not];omega
    have t1i:¬(3:Int)<(N:Int):=by omega
    go_enter Try.func56,Try.ntmps56;go_wp2_with fail
    go_loopw [5,7,13] (fun lastv _ i wr=>∃(k:Nat) (y:Int),k<=N/\i= .int .i64 k/\lastv= .int .i64 y/\Hid (ascD ks (-1) l=ascD ks y (l.drop k))/\Below w.heap.size w wr) (fun _ _ i _=>N-(intOf i).toNat)
    case atStart=>exact⟨0,-1,by omega,rfl,rfl,rfl,Below.refl _ _⟩
    case round =>
      obtain⟨k,y,hk,rfl,rfl,hr,B⟩:=hrel;by_cases hlt:k<N
      · have hlt2:k<l.length:=by rw[<-hN.out];exact hlt
        have c0:=(hL2.out.below h4 B) k l[k] (List.getElem?_eq_getElem hlt2);have hd:Hid (ascD ks (-1) l=(decide (y<l[k])&&decide (l[k]∈ks)&&ascD ks l[k] (l.drop (k+1)))):=by show _=_;rw[hr.out,dropD l k hlt2];rfl
        clear hr;generalize l[k]=u at *
        have i0:(0:Int)<=(k:Int):=by omega
        have i1:(k:Int)<(N:Int):=by omega
        have Bs:=B.size;have hval:=Lib.hid (hval0.out u _ B);by_cases hy:u<=y
        · have t1:decide (u<=y)=true:=by simpa using hy
          have hf:Hid (ascD ks (-1) l=false):=by
            show _=_;rw[hd.out];have:decide (y<u)=false:=by rw[decide_eq_false_iff_not];omega
            rw[this];rfl
          clear hval;go_wp2_with fail;go_ret;exact⟨ret_bool hf.out.symm,B⟩
        · have t1:decide (u<=y)=false:=by simpa using hy
          have t2:decide (y<u)=true:=by rw[decide_eq_true_iff];omega
          rw[t2]at hd;generalize decide (u∈ks)=ok at *
          clear t2;cases ok with
          | false =>
            go_wp2_with fail;refine hval.out.mono ?_;rintro e w2 ⟨rfl,b2⟩;go_wp2_with fail;go_ret;exact⟨ret_bool hd.out.symm,B.trans (b2.mono Bs)⟩
          | true =>
            go_wp2_with fail;refine hval.out.mono ?_;rintro e w2 ⟨rfl,b2⟩;go_wp2_with fail
            go_roundw
            case rel=>exact⟨k+1,u,by omega,by go_num,rfl,hd.out,B.trans (b2.mono Bs)⟩
            case measure=>simp[intOf];omega
      · have hk2:k=N:=by omega
        have hf:Hid (ascD ks (-1) l=true):=by show _=_;rw[hr.out,List.drop_of_length_le (by rw[hk2,hN.out];exact Nat.le_refl _)];rfl
        have i1:¬(k:Int)<(N:Int):=by omega
        clear hk2;go_wp2_with fail;go_ret;exact⟨ret_bool hf.out.symm,B⟩
structure Gr where
  vs:List Vx
  es:List Ed
  ds:List Int
deriving DecidableEq
def Gr.ok(g:Gr):Bool:=ascV (-1) g.vs&&ascE (keysV g.vs) (-1) g.es&&dOk (keysV g.vs) g.ds
def GV(W:World)(v:Value)(g:Gr):Prop:=∃a b c,v= .agg #[a,b,c]/\VL W a g.vs/\EL W b g.es/\DL W c g.ds
theorem GV.below{W W':World}{v:Value}{g:Gr}(h:GV W v g)(B:Below W.heap.size W W'):GV W' v g:=by
  obtain⟨a,b,c,h1,h2,h3,h4⟩:=h;exact⟨a,b,c,h1,h2.below B,h3.below B,h4.below B⟩
def Gr.small(g:Gr):Prop:=g.vs.length<=1000000000000/\g.es.length<=1000000000000/\g.ds.length<=1000000000000
set_option maxHeartbeats 1000000 in
theorem Valid_any(v:Value)(g:Gr)(w:World)(hv:GV w v g)(hn:g.small):
    Calls Try.prog 39 #[v] w fun e w'=>e= .returned (.bool g.ok)/\Below w.heap.size w w':=by
  obtain⟨a,b,c,rfl,h1,h2,h3⟩:=hv;obtain⟨w1,hw1⟩:∃w1,w1=w.alloc (.cells #[a,b,c] 28):=⟨_,rfl⟩;have hB:Below w.heap.size w w1:=by rw[hw1];exact(Below.refl _ w).alloc (Nat.le_refl _) _
  have hz:w.heap.size<w1.heap.size:=by rw[hw1];simp
  have hcell:=Lib.hid (show ∀W,Below w1.heap.size w1 W->W.cell? ⟨w.heap.size,0,none⟩=some a/\W.cell? ⟨w.heap.size,1,none⟩=some b/\W.cell? ⟨w.heap.size,2,none⟩=some c from fun W B=>by
    rw[B.cell (p:=⟨w.heap.size,0,none⟩) hz,B.cell (p:=⟨w.heap.size,1,none⟩) hz,B.cell (p:=⟨w.heap.size,2,none⟩) hz,hw1];exact⟨World.cell?_alloc_at _ _ _ _ rfl,World.cell?_alloc_at _ _ _ _ rfl,World.cell?_alloc_at _ _ _ _ rfl⟩)
  have hB0:=Lib.hid (fun W (B:Below w1.heap.size w1 W)=>hB.trans (B.mono hB.size));have k1:=Lib.hid (fun w' (B:Below w1.heap.size w1 w')=>validVertices_any a g.vs w' ((h1.below hB).below B) hn.1);have k2:=Lib.hid (fun(hs:Asc (keysV g.vs)) w' (B:Below w1.heap.size w1 w')=>validEdges_any b a g.es g.vs w' ((h2.below hB).below B) ((h1.below hB).below B) hn.2.1 hn.1 hs);have k3:=Lib.hid (fun(hs:Asc (keysV g.vs)) w' (B:Below w1.heap.size w1 w')=>validDepots_any c a g.ds g.vs w' ((h3.below hB).below B) ((h1.below hB).below B) hn.2.2 hn.1 hs);have hasc:=Lib.hid (fun h=>(ascV_spec g.vs (-1) h).2);obtain⟨a1,a2,rfl⟩:=h1.shape;obtain⟨b1,b2,rfl⟩:=h2.shape;obtain⟨c1,c2,rfl⟩:=h3.shape;unfold Gr.ok;generalize ascV (-1) g.vs=x1 at *
  generalize ascE (keysV g.vs) (-1) g.es=x2 at *
  generalize dOk (keysV g.vs) g.ds=x3 at *
  generalize g.vs.length=n1 at *
  generalize g.es.length=n2 at *
  generalize g.ds.length=n3 at *
  have B1:=Below.refl w1.heap.size w1;have hw2:=Lib.hid hw1;clear hw1 h1 h2 h3 hn hB;cases x1 with
  | false =>
    go_enter Try.func39,Try.ntmps39;go_wp2_with fail;rw[<-hw2.out];refine(k1.out _ B1).mono ?_;rintro e w2 ⟨rfl,b2⟩;have B2:=B1.trans (b2.mono B1.size);go_wp2_with fail;go_ret;exact⟨rfl,hB0.out _ B2⟩
  | true =>
    have hs:=hasc.out rfl;have k2:=Lib.hid (k2.out hs);have k3:=Lib.hid (k3.out hs);clear hs;cases x2 with
    | false =>
      go_enter Try.func39,Try.ntmps39;go_wp2_with fail;rw[<-hw2.out];refine(k1.out _ B1).mono ?_;rintro e w2 ⟨rfl,b2⟩;have B2:=B1.trans (b2.mono B1.size);obtain⟨q0,q1,q2⟩:=hcell.out _ B2;go_wp2_with fail;refine(k2.out _ B2).mono ?_;rintro e w3 ⟨rfl,b3⟩;have B3:=B2.trans (b3.mono B2.size);go_wp2_with fail;go_ret;exact⟨rfl,hB0.out _ B3⟩
    | true =>
      go_enter Try.func39,Try.ntmps39;go_wp2_with fail;rw[<-hw2.out];refine(k1.out _ B1).mono ?_;rintro e w2 ⟨rfl,b2⟩;have B2:=B1.trans (b2.mono B1.size);obtain⟨q0,q1,q2⟩:=hcell.out _ B2;go_wp2_with fail;refine(k2.out _ B2).mono ?_;rintro e w3 ⟨rfl,b3⟩;have B3:=B2.trans (b3.mono B2.size);clear q0 q1 q2;obtain⟨q0,q1,q2⟩:=hcell.out _ B3;go_wp2_with fail;refine(k3.out _ B3).mono ?_;rintro e w4 ⟨rfl,b4⟩;have B4:=B3.trans (b4.mono B3.size);go_wp2_with fail;go_ret;exact⟨rfl,hB0.out _ B4⟩
theorem below_drewN{B:Nat}{a w:World}(h:Below B a w)(n:Nat):Below B a (w.drewN n):=h.trans ⟨rfl,rfl,rfl,Nat.le_refl _,fun _ _=>rfl⟩
theorem VL.own{W:World}{v:Value}{l:List Vx}(h:VL W v l)(hl:l≠[]):∃b o c,v= .slice (some ⟨b,o,none⟩) l.length c/\l.length<=c/\b<W.heap.size/\LieV W b o l:=by
  rcases h with⟨h,_⟩|⟨_,h⟩
  · exact absurd h hl
  · exact h
theorem EL.own{W:World}{v:Value}{l:List Ed}(h:EL W v l)(hl:l≠[]):∃b o c,v= .slice (some ⟨b,o,none⟩) l.length c/\l.length<=c/\b<W.heap.size/\LieE W b o l:=by
  rcases h with⟨h,_⟩|⟨_,h⟩
  · exact absurd h hl
  · exact h
theorem DL.own{W:World}{v:Value}{l:List Int}(h:DL W v l)(hl:l≠[]):∃b o c,v= .slice (some ⟨b,o,none⟩) l.length c/\l.length<=c/\b<W.heap.size/\LieD W b o l:=by
  rcases h with⟨h,_⟩|⟨_,h⟩
  · exact absurd h hl
  · exact h
set_option maxHeartbeats 1000000 in
theorem Ints_any(va vb:Value)(A B:List Int)(w:World)(ha:DL w va A)(hb:DL w vb B)(hAl:A.length<=1000000000000)(_:B.length<=1000000000000):
    Calls Try.prog 25 #[va,vb] w fun e w'=>e= .returned (.bool (decide (A=B)))/\Below w.heap.size w w':=by
  by_cases hlen:A.length=B.length;rotate_left
  · have hr:decide (A=B)=false:=by rw[decide_eq_false_iff_not];exact fun e=>hlen (by rw[e])
    rw[hr];obtain⟨a1,c1,rfl⟩:=ha.shape;obtain⟨a2,c2,rfl⟩:=hb.shape;clear ha hb hr;generalize A.length=N at *
    generalize B.length=M at *
    have t0:((N:Int) != (M:Int))=true:=by rw[bne_iff_ne];omega
    have t0n:((N:Int)==(M:Int))=false:=by rw[beq_eq_false_iff_ne];omega
    go_enter Try.func25,Try.ntmps25;go_wp2_with fail;go_ret;exact⟨rfl,Below.refl _ _⟩
  by_cases h0:A=[]
  · subst h0;obtain rfl:B=[]:=List.length_eq_zero_iff.1 hlen.symm;obtain⟨a1,c1,rfl⟩:=ha.shape;obtain⟨a2,c2,rfl⟩:=hb.shape;clear ha hb;have hr:decide (([]:List Int)=[])=true:=by simp
    rw[hr];go_enter Try.func25,Try.ntmps25;go_wp2_with fail
    go_loop [5] (fun i=>i= .int .i64 0) (fun _=>0)
    case atStart=>rfl
    case round =>
      obtain rfl:=hrel;go_wp2_with fail;go_ret;exact⟨rfl,Below.refl _ _⟩
  · have h0B:B≠[]:=fun e=>by rw[e]at hlen;exact h0 (List.length_eq_zero_iff.1 hlen)
    obtain⟨b1,o1,k1,rfl,e1,e2,e3⟩:=ha.own h0;obtain⟨b2,o2,k2,rfl,f1,f2,f3⟩:=hb.own h0B;rw[<-hlen]at f1 ⊢;have cellA:=Lib.hid (fun(k:Nat) (hk:k<A.length) w' (B:Below w.heap.size w w')=>(e3.below e2 B) k _ (List.getElem?_eq_getElem hk));have cellB:=Lib.hid (fun(k:Nat) (hk:k<B.length) w' (B:Below w.heap.size w w')=>(f3.below f2 B) k _ (List.getElem?_eq_getElem hk));clear ha hb e3 f3 h0 h0B;obtain⟨N,hN,hM⟩:∃N,Hid (N=A.length)/\Hid (N=B.length):=⟨_,rfl,hlen⟩;clear hlen;rw[<-hN.out]at hAl e1 f1 ⊢;go_enter Try.func25,Try.ntmps25;go_wp2_with fail
    go_loopw [5] (fun i wr=>∃k:Nat,k<=N/\i= .int .i64 k/\Hid (A.take k=B.take k)/\Below w.heap.size w wr) (fun i _=>N-(intOf i).toNat)
    case atStart=>exact⟨0,by omega,rfl,rfl,Below.refl _ _⟩
    case round =>
      obtain⟨k,hk,rfl,hall,Bw⟩:=hrel;by_cases hlt:k<N
      · have hkA:k<A.length:=by rw[<-hN.out];exact hlt
        have hkB:k<B.length:=by rw[<-hM.out];exact hlt
        have q1:=cellA.out k hkA wr Bw;have q2:=cellB.out k hkB wr Bw;have i0:(0:Int)<=(k:Int):=by omega
        have i1:(k:Int)<(N:Int):=by omega
        by_cases hxy:A[k]=B[k]
        · have hnew:Hid (A.take (k+1)=B.take (k+1)):=by
            unfold Hid;rw[List.take_succ_eq_append_getElem hkA,List.take_succ_eq_append_getElem hkB,hall.out,hxy]
          rw[<-hxy]at q2;clear hxy hall;generalize A[k]=x at *
          have c0:=q1;have d0:=q2;go_wp2_with fail
          go_quiet (fail)
          go_wp2_with fail
          go_roundw
          case rel=>exact⟨k+1,by omega,by go_num,hnew,below_drewN Bw _⟩
          case measure=>simp[intOf];omega
        · have hr:decide (A=B)=false:=by
            rw[decide_eq_false_iff_not];intro e;subst e;exact hxy rfl
          have hr2:=Lib.hid hr;generalize A[k]=x at *
          generalize B[k]=y at *
          have hne:(x==y)=false:=by simpa using hxy
          have hne2:(x != y)=true:=by simpa using hxy
          clear hxy hr hall;have c0:=q1;have d0:=q2;go_wp2_with fail
          go_quiet (fail)
          go_wp2_with fail;go_ret;exact⟨ret_bool hr2.out.symm,below_drewN Bw _⟩
      · have hk2:k=N:=by omega
        have hr:decide (A=B)=true:=by
          have h:=hall.out;rw[List.take_of_length_le (by rw[hk2,<-hN.out];exact Nat.le_refl _),List.take_of_length_le (by rw[hk2,<-hM.out];exact Nat.le_refl _)]at h;simpa using h
        have hr2:=Lib.hid hr;have i1:¬(k:Int)<(N:Int):=by omega
        clear hr hall hk2;go_wp2_with fail;go_ret;exact⟨ret_bool hr2.out.symm,Bw⟩
end Go.Proofs.Ythmkmjkbfjhffaa
