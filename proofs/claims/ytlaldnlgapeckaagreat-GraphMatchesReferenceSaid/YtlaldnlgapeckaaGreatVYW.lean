/- Facts. -/
import Derived.Laws.MakeOwn
import Derived.Lib.BufferWrite
import Derived.Lib.Strings
import Derived.Lib.UnsafeStr
import Derived.Lib.Walk
import Derived.LoopIn
import Derived.LoopNIn
import Derived.OwnWalkIn
import Derived.RangeFuncBound
import Derived.RangeFuncCalls
import Derived.RangeFuncLeaves
import Derived.RangeFuncNested
import Derived.Shelf.Abstract
import Derived.Shelf.RegionOpen
import Derived.TacticsInMore
import Init.Data.List.Lemmas
import Derived.Test.YtlaldnlgapeckaaGreatVYA
set_option maxRecDepth 100000
set_option maxHeartbeats 4000000
namespace Go.Proofs.YtlaldnlgapeckaaGreat
open Go.RowKit
def enc:Nat->Nat->List UInt8
 | 0,z=>[UInt8.ofNat z]
 | k+1,z=>if z<128 then[UInt8.ofNat z]else UInt8.ofNat (z%128+128)::enc k (z / 128)
def jn:Nat->Bool->List UInt8->Option (Nat × Nat)
 | 0,_,_=>none
 | _+1,_,[]=>none
 | k+1,first,b::l=>if 128<=b.toNat then(jn k false l).map (fun p=>(b.toNat%128+128*p.1,p.2+1))else if b.toNat=0/\first=false then none else some (b.toNat,1)
theorem toNat_of(n:Nat)(h:n<256):(UInt8.ofNat n).toNat=n:=by
 simp[Nat.mod_eq_of_lt h]
theorem enc_len(k z:Nat):1<=(enc k z).length/\(enc k z).length<=k+1:=by
 induction k generalizing z with
 | zero=>simp[enc]
 | succ k ih =>
  unfold enc
  split
  ·simp
  ·have:=ih (z / 128);simp;omega
theorem jn_sound(k:Nat)(first:Bool)(l:List UInt8)(z n:Nat)(h:jn (k+1) first l=some (z,n)):
  n<=l.length/\1<=n/\l.take n=enc k z/\z<128^(k+1)/\(first=false->0<z):=by
 induction k generalizing first l z n with
 | zero =>
  match l with
  | []=>simp[jn]at h
  | b::l =>
   rw[jn]at h
   split at h
   ·simp[jn]at h
   ·split at h
    ·cases h
    ·rename_i h1 h2;simp at h;obtain⟨rfl,rfl⟩:=h;refine⟨by simp,by omega,by simp[enc],by simp;omega,fun hf=>?_⟩;simp[hf]at h2;have:b.toNat≠0:=fun e=>h2 e;omega
 | succ k ih =>
  match l with
  | []=>simp[jn]at h
  | b::l =>
   rw[jn]at h
   split at h
   ·rename_i h1;cases hj:jn (k+1) false l with
    | none=>simp[hj]at h
    | some p =>
     obtain⟨z',n'⟩:=p;simp[hj]at h;obtain⟨rfl,rfl⟩:=h;obtain⟨a1,a2,a3,a4,a5⟩:=ih false l z' n' hj;have hz':=a5 rfl;have hb:b.toNat<256:=b.toNat_lt;refine⟨by simp;omega,by omega,?_,?_,fun _=>by omega⟩
     ·rw[enc,if_neg (by omega),List.take_succ_cons,a3];congr 1
      ·rw[<-UInt8.toNat_inj,toNat_of _ (by omega)];omega
      ·congr 1;omega
     ·rw[Nat.pow_succ];omega
   ·split at h
    ·cases h
    ·rename_i h1 h2;simp at h;obtain⟨rfl,rfl⟩:=h;refine⟨by simp,by omega,?_,?_,fun hf=>?_⟩
     ·rw[enc,if_pos (by omega)];simp
     ·have:0<128^(k+1):=Nat.pow_pos (by omega);rw[Nat.pow_succ];omega
     ·simp[hf]at h2;have:b.toNat≠0:=fun e=>h2 e;omega
def foldI(n:Int):Nat:=(if n<0 then -2*n-1 else 2*n).toNat
def unfoldI(z:Nat):Int:=if z%2=1 then-((z / 2:Nat):Int)-1 else((z / 2:Nat):Int)
theorem fold_unfold(z:Nat):foldI (unfoldI z)=z:=by
 unfold unfoldI foldI
 split
 ·rw[if_pos (by omega)];omega
 ·rw[if_neg (by omega)];omega
theorem fold_lt(n:Int)(h1 : -4611686018427387903<=n)(h2:n<=4611686018427387903):foldI n<=9223372036854775806:=by
 unfold foldI;split<;>omega
theorem unfold_bd(z:Nat)(h:z<=9223372036854775806): -4611686018427387903<=unfoldI z/\unfoldI z<=4611686018427387903:=by
 unfold unfoldI;split<;>omega
def putL(n:Int):List UInt8:=enc 8 (foldI n)
def getL(l:List UInt8)(k:Nat):Option (Int × Nat) :=
 match jn 9 true (l.drop k)with
 | none=>none
 | some p=>if p.1<=9223372036854775806 then some (unfoldI p.1,k+p.2)else none
theorem putL_len(n:Int):1<=(putL n).length/\(putL n).length<=9:=enc_len 8 _
theorem getL_sound(l:List UInt8)(k:Nat)(n:Int)(m:Nat)(h:getL l k=some (n,m)):
  -4611686018427387903<=n/\n<=4611686018427387903/\(k<=l.length->m<=l.length)/\k<m/\(l.drop k).take (m-k)=putL n:=by
 unfold getL at h
 split at h
 ·cases h
 ·rename_i p hj;obtain⟨z,i⟩:=p
  split at h
  ·rename_i hz;simp at h hz;obtain⟨rfl,rfl⟩:=h;obtain⟨a1,a2,a3,a4,_⟩:=jn_sound 8 true _ _ _ hj;have:=unfold_bd z hz;rw[List.length_drop]at a1;refine⟨this.1,this.2,fun _=>by omega,by omega,?_⟩;rw[putL,fold_unfold,show k+i-k=i by omega,a3]
  ·cases h
def pk(c n:Int):Int:=(if c<0 then -(c+1)else c)%n
theorem pk_lo(c n:Int)(h:1<=n):0<=pk c n:=by unfold pk;exact Int.emod_nonneg _ (by omega)
theorem pk_lt(c n:Int)(h:1<=n):pk c n<n:=by unfold pk;exact Int.emod_lt_of_pos _ (by omega)
theorem pickR_any(c n:Int)(w:World)(h1 : -9223372036854775808<=c)(h2:c<=9223372036854775807)(h3:1<=n)(h4:n<=9223372036854775807):
  Calls Tryz.prog 47 #[.int .i64 c,.int .i64 n] w fun e w'=>e= .returned (.int .i64 (pk c n))/\w=w':=by
 by_cases h:c<0
 ·go_enter Tryz.func47,Tryz.ntmps47
  go_wp2
  go_ret;exact⟨ret_int (by rw[pk,if_pos h,<-Int.neg_tmod];exact Int.tmod_eq_emod_of_nonneg (by omega)),rfl⟩
 ·go_enter Tryz.func47,Tryz.ntmps47
  go_wp2
  go_ret;exact⟨ret_int (by rw[pk,if_neg (by omega)]),rfl⟩
def foldN(n:Int):Int:=if n<0 then -2*n-1 else 2*n
theorem fold_any(n:Int)(w:World)(h1 : -4611686018427387903<=n)(h2:n<=4611686018427387903):
  Calls Tryz.prog 115 #[.int .i64 n] w fun e w'=>e= .returned (.int .u64 (foldN n))/\w=w':=by
 by_cases h:n<0
 ·go_enter Tryz.func115,Tryz.ntmps115
  go_wp2
  go_ret;exact⟨ret_int (by rw[foldN,if_pos h]),rfl⟩
 ·go_enter Tryz.func115,Tryz.ntmps115
  go_wp2
  go_ret;exact⟨ret_int (by rw[foldN,if_neg (by omega)]),rfl⟩
def unfoldN(z:Int):Int:=if z%2=1 then-(z / 2)-1 else z / 2
theorem unfold_any(z:Int)(w:World)(h1:0<=z)(h2:z<=9223372036854775806):
  Calls Tryz.prog 137 #[.int .u64 z] w fun e w'=>e= .returned (.int .i64 (unfoldN z))/\w=w':=by
 by_cases h:z%2=1
 ·go_enter Tryz.func137,Tryz.ntmps137
  go_wp2
  go_ret;exact⟨ret_int (by rw[unfoldN,if_pos h]),rfl⟩
 ·go_enter Tryz.func137,Tryz.ntmps137
  go_wp2
  go_ret;exact⟨ret_int (by rw[unfoldN,if_neg (by omega)]),rfl⟩
def jr(l:List UInt8):Nat × Nat:=match jn 9 true l with|none=>(0,0)|some p=>p
def JI(L:List UInt8)(k z:Nat):Prop:=z<128^k/\jn 9 true L=(jn (9-k) (decide (k=0)) (L.drop k)).map (fun p=>(z+128^k*p.1,k+p.2))
theorem JI_start(L:List UInt8):JI L 0 0:=by
 exact⟨by simp,by simp⟩
theorem drop_at(s:ByteArray)(k:Nat)(h:k<s.size):s.data.toList.drop k=s[k]::s.data.toList.drop (k+1):=by
 rw[List.drop_eq_getElem_cons (by simpa using h)];rfl
theorem JI_open(L:List UInt8)(k z:Nat)(c:UInt8)(r:List UInt8)(hk:k<9)(h:JI L k z)(hd:L.drop k=c::r):
  jn 9 true L=(if 128<=c.toNat then(jn (8-k) false r).map (fun p=>(c.toNat%128+128*p.1,p.2+1))else if c.toNat=0/\decide (k=0)=false then none else some (c.toNat,1)).map (fun p=>(z+128^k*p.1,k+p.2)):=by
 rw[h.2,hd,show 9-k=(8-k)+1 by omega,jn]
theorem JI_go(L:List UInt8)(k z:Nat)(c:UInt8)(r:List UInt8)(hk:k<9)(h:JI L k z)(hd:L.drop k=c::r)(hd':r=L.drop (k+1))(hc:128<=c.toNat):JI L (k+1) (z+c.toNat%128*128^k):=by
 refine⟨?_,?_⟩
 ·have:=h.1;have h2:c.toNat%128*128^k<=127*128^k:=Nat.mul_le_mul_right _ (by omega);rw[Nat.pow_succ];omega
 ·rw[JI_open L k z c r hk h hd,if_pos hc,Option.map_map,hd',show 9-(k+1)=8-k by omega,show decide (k+1=0)=false by simp];congr 1
  funext p
  simp only[Function.comp];congr 1
  ·rw[Nat.mul_add,Nat.pow_succ,Nat.mul_comm (128^k) (c.toNat%128),Nat.mul_assoc];omega
  ·omega
theorem JI_no(L:List UInt8)(k z:Nat)(c:UInt8)(r:List UInt8)(hk:k<9)(h:JI L k z)(hd:L.drop k=c::r)(hc:c.toNat=0)(h0:0<k):jr L=(0,0):=by
 unfold jr;rw[JI_open L k z c r hk h hd,if_neg (by omega),if_pos ⟨hc,by simp;omega⟩];rfl
theorem JI_yes(L:List UInt8)(k z:Nat)(c:UInt8)(r:List UInt8)(hk:k<9)(h:JI L k z)(hd:L.drop k=c::r)(hc:c.toNat<128)(h0:c.toNat≠0\/k=0):jr L=(z+c.toNat%128*128^k,k+1):=by
 unfold jr;rw[JI_open L k z c r hk h hd,if_neg (by omega),if_neg (by rintro⟨a,b⟩;simp at b;omega)]
 simp
 rw[Nat.mod_eq_of_lt hc,Nat.mul_comm]
theorem JI_end(L:List UInt8)(k z:Nat)(h:JI L k z)(he:k=9\/L.drop k=[]):jr L=(0,0):=by
 unfold jr;rw[h.2];rcases he with rfl|he
 ·simp[jn]
 ·rw[he];cases h:9-k<;>simp[jn]
theorem wrap_sum(k z c:Nat)(hk:k<9)(hz:z<128^k):IntKind.u64.wrap ((z:Int)+IntKind.u64.wrap ((c:Int)%128*2^(7*k)))=((z+c%128*128^k:Nat):Int):=by
 have e:((2:Int)^(7*k))=((128^k:Nat):Int):=by
  rw[Int.pow_mul];simp
 have h2:c%128*128^k<=127*128^k:=Nat.mul_le_mul_right _ (by omega);have h3:128^k<=128^8:=Nat.pow_le_pow_right (by omega) (by omega);have e2:(c:Int)%128*((128^k:Nat):Int)=((c%128*128^k:Nat):Int):=by simp
 rw[e,e2];generalize c%128*128^k=y at *
 have h4:(128:Nat)^8=72057594037927936:=by decide
 rw[h4]at h3;rw[IntKind.wrap_u64,IntKind.wrap_u64];omega
theorem join_long(s:ByteArray)(w:World)(hs:s.size<=maxLen)(h9:9<s.size):
  Calls Tryz.prog 136 #[.string s] w fun e w'=>e= .returned (.tuple #[.int .u64 (jr s.data.toList).1,.int .i64 (jr s.data.toList).2])/\w=w':=by
 unfold maxLen at hs;go_enter Tryz.func136,Tryz.ntmps136
 go_wp2
 go_loop [4,5,6,10] (fun z _ _ i=>∃k zn:Nat,k<=9/\i= .int .i64 k/\z= .int .u64 zn/\JI s.data.toList k zn) (fun _ _ _ i=>9-(intOf i).toNat)
 case atStart=>exact⟨0,0,by omega,rfl,rfl,JI_start _⟩
 case round =>
  obtain⟨k,zn,hk,rfl,rfl,hj⟩:=hrel;have hj:=Lib.hid hj;by_cases hlt:k<9
  ·have hkk:k<s.size:=by omega
   go_wp2
   ·have hc:(128:Int)<=(s[k].toNat:Int):=by assumption
    rw[wrap_sum k zn s[k].toNat (by omega) hj.out.1]
    go_round
    case rel=>exact⟨k+1,_,by omega,by go_num,rfl,JI_go _ k zn _ _ (by omega) hj.out (drop_at s k hkk) rfl (by omega)⟩
    case measure=>simp[intOf];omega
   ·have hc:s[k].toNat=0:=by assumption
    have h0:0<k:=by assumption
    go_ret2;rw[JI_no _ k zn _ _ (by omega) hj.out (drop_at s k hkk) hc h0];exact⟨rfl,rfl⟩
   ·have hc:s[k].toNat=0:=by assumption
    have h0:¬ 0<k:=by assumption
    obtain rfl:k=0:=by omega
    go_ret2;rw[JI_yes _ 0 zn _ _ (by omega) hj.out (drop_at s 0 hkk) (by omega) (.inr rfl),hc];have:=hj.out.1;obtain rfl:zn=0:=by simpa using this
    exact⟨by simp[IntKind.wrap_u64],rfl⟩
   ·have hc:(s[k].toNat:Int)<128:=by assumption
    have h0:¬s[k].toNat=0:=by assumption
    rw[wrap_sum k zn s[k].toNat (by omega) hj.out.1];go_ret2;rw[JI_yes _ k zn _ _ (by omega) hj.out (drop_at s k hkk) (by omega) (.inl h0)];exact⟨by simp,rfl⟩
  ·obtain rfl:k=9:=by omega
   go_wp2
   go_ret2;rw[JI_end _ _ zn hj.out (by first|exact .inl rfl|exact .inr (List.drop_of_length_le (by simp)))];exact⟨rfl,rfl⟩
theorem join_short(s:ByteArray)(w:World)(hs:s.size<=maxLen)(h9:¬ 9<s.size):
  Calls Tryz.prog 136 #[.string s] w fun e w'=>e= .returned (.tuple #[.int .u64 (jr s.data.toList).1,.int .i64 (jr s.data.toList).2])/\w=w':=by
 unfold maxLen at hs;go_enter Tryz.func136,Tryz.ntmps136
 go_wp2
 go_loop [4,5,6,10] (fun z _ _ i=>∃k zn:Nat,k<=s.size/\i= .int .i64 k/\z= .int .u64 zn/\JI s.data.toList k zn) (fun _ _ _ i=>s.size-(intOf i).toNat)
 case atStart=>exact⟨0,0,by omega,rfl,rfl,JI_start _⟩
 case round =>
  obtain⟨k,zn,hk,rfl,rfl,hj⟩:=hrel;have hj:=Lib.hid hj;by_cases hlt:k<s.size
  ·have hkk:k<s.size:=by omega
   go_wp2
   ·have hc:(128:Int)<=(s[k].toNat:Int):=by assumption
    rw[wrap_sum k zn s[k].toNat (by omega) hj.out.1]
    go_round
    case rel=>exact⟨k+1,_,by omega,by go_num,rfl,JI_go _ k zn _ _ (by omega) hj.out (drop_at s k hkk) rfl (by omega)⟩
    case measure=>simp[intOf];omega
   ·have hc:s[k].toNat=0:=by assumption
    have h0:0<k:=by assumption
    go_ret2;rw[JI_no _ k zn _ _ (by omega) hj.out (drop_at s k hkk) hc h0];exact⟨rfl,rfl⟩
   ·have hc:s[k].toNat=0:=by assumption
    have h0:¬ 0<k:=by assumption
    obtain rfl:k=0:=by omega
    go_ret2;rw[JI_yes _ 0 zn _ _ (by omega) hj.out (drop_at s 0 hkk) (by omega) (.inr rfl),hc];have:=hj.out.1;obtain rfl:zn=0:=by simpa using this
    exact⟨by simp[IntKind.wrap_u64],rfl⟩
   ·have hc:(s[k].toNat:Int)<128:=by assumption
    have h0:¬s[k].toNat=0:=by assumption
    rw[wrap_sum k zn s[k].toNat (by omega) hj.out.1];go_ret2;rw[JI_yes _ k zn _ _ (by omega) hj.out (drop_at s k hkk) (by omega) (.inl h0)];exact⟨by simp,rfl⟩
  ·obtain rfl:k=s.size:=by omega
   go_wp2
   go_ret2;rw[JI_end _ _ zn hj.out (by first|exact .inl rfl|exact .inr (List.drop_of_length_le (by simp)))];exact⟨rfl,rfl⟩
theorem join_any(s:ByteArray)(w:World)(hs:s.size<=maxLen):
  Calls Tryz.prog 136 #[.string s] w fun e w'=>e= .returned (.tuple #[.int .u64 (jr s.data.toList).1,.int .i64 (jr s.data.toList).2])/\w=w':=by
 by_cases h9:9<s.size
 ·exact join_long s w hs h9
 ·exact join_short s w hs h9
open Go.RowKit Go.Shelf
attribute [local go_sem] Oper.semAt_some
def encI(k z:Nat):List Int:=(enc k z).map fun b=>(b.toNat:Int)
theorem encI_small(k z:Nat)(h:z<128):encI k z=[(z:Int)]:=by
 unfold encI;cases k with
 | zero=>simp[enc,toNat_of z (by omega)]
 | succ k=>rw[enc,if_pos h];simp;omega
theorem encI_large(k z:Nat)(h:128<=z):encI (k+1) z=((z:Int)%128+128)::encI k (z / 128):=by
 unfold encI;rw[enc,if_neg (by omega)];simp only[List.map_cons,toNat_of (z%128+128) (by omega)];congr 1
theorem groups_any(z:Int)(w:World):
  Calls Tryz.prog 114 #[.int .u64 z] w fun e w'=>e= .returned (.func (.func 134) #[] #[.pointer (some ⟨w.heap.size,0,none⟩)])/\(w.alloc (.cells #[.int .u64 z] 158))=w':=by
 go_enter Tryz.func114,Tryz.ntmps114
 go_wp2
 go_ret;exact⟨rfl,rfl⟩
def GI(z:Nat)(J:List Int->World->Prop)(p:Value)(wr:World):Prop :=
 ∃(pre:List Int) (r:Nat),p= .int .u64 r/\pre++encI (8-pre.length) r=encI 8 z/\pre.length<=8/\r<128^(9-pre.length)/\J pre wr
theorem groups1_in(F:Fence)(n:Nat)(h29:F.fn 134)(hro:F.round=none)(hn:1<=n)(l Bn:Nat)(z:Nat)(hz:z<128^9)(J Jx:List Int->World->Prop)
  (hY:∀pre x W,J pre W->pre.length<9->YieldAt F (n-1) Tryz.prog l #[.int .u8 x] W fun e W' =>
   (e= .returned (.bool true)/\J (pre++[x]) W'/\True)\/(e= .returned (.bool false)/\Jx (pre++[x]) W'))
  (W:World) (hBn:W.cell? ⟨Bn,0,none⟩=some (.int .u64 z)) (h0:J [] W) :
  CallsIn F n Tryz.prog 134 #[.func (.yield l) #[] #[],.pointer (some ⟨Bn,0,none⟩)] W fun e W'=>(∃v,e= .returned v) /\
   ((∃ys,ys=encI 8 z/\J ys W')\/(∃pre,True/\Jx pre W')):=by
 refine callsIn_of_wp Tryz.func134 rfl h29 ?_ hro;simp only[Tryz.ntmps134,List.size_toArray,List.length_cons,List.length_nil,Nat.reduceAdd,Nat.reduceSub,Array.replicate_succ,Array.replicate_zero,List.push_toArray,List.append_toArray,List.nil_append,List.cons_append]
 gi_wp2
 gi_loopw [3] (fun p wr=>GI z J p wr) (fun p _=>(intOf p).toNat)
 case atStart =>
  exact⟨[],z,rfl,by simp,by simp,hz,h0⟩
 case round =>
  obtain⟨pre,r,rfl,hx,hl,hr,hJs⟩:=hrel;have hx:=Lib.hid hx;have hr:=Lib.hid hr;obtain⟨j,hj⟩:∃j:Nat,Hid (9-pre.length=j):=⟨_,rfl⟩;have hrb:r<9223372036854775808:=by
   have h1:=hr.out;have h2:128^(9-pre.length)<=128^9:=Nat.pow_le_pow_right (by omega) (by omega);have h3:(128:Nat)^9=9223372036854775808:=by decide
   omega
  by_cases hc:128<=r
  ·have hlen:pre.length<8:=by
    have h1:=hr.out;have:pre.length≠8:=fun e=>by rw[e]at h1;omega
    omega
   obtain⟨fn,tmps,assign,body,hy,hR⟩:=hY pre ((r:Int)%128+128) wr hJs (by omega)
   gi_wp2
   refine hR.mono ?_;rintro e W3 (⟨rfl,hJ3,_⟩|⟨rfl,hJx3⟩)
   ·gi_wp2
    go_roundw
    case rel =>
     refine⟨pre++[(r:Int)%128+128],r / 128,by go_num,?_,by simp;omega,?_,hJ3⟩
     ·have h1:=hx.out;rw[show 8-pre.length=(8-(pre++[(r:Int)%128+128]).length)+1 by simp;omega,encI_large _ r hc]at h1;rw[<-h1];simp
     ·have h1:=hr.out;rw[show 9-pre.length=(9-(pre++[(r:Int)%128+128]).length)+1 by simp;omega,Nat.pow_succ]at h1;exact Nat.div_lt_of_lt_mul (by omega)
    case measure=>simp[intOf];omega
   ·gi_wp2
    refine bodyPost_ret (results_none rfl _ _ _) rfl ?_;exact⟨⟨_,rfl⟩,.inr ⟨_,trivial,hJx3⟩⟩
  ·obtain⟨fn,tmps,assign,body,hy,hR⟩:=hY pre (r:Int) wr hJs (by omega)
   gi_wp2
   refine hR.mono ?_;rintro e W3 (⟨rfl,hJ3,_⟩|⟨rfl,hJx3⟩)
   ·gi_wp2
    go_end0
    exact⟨⟨_,rfl⟩,.inl ⟨_,by rw[<-hx.out,encI_small _ r (by omega)],hJ3⟩⟩
   ·gi_wp2
    go_end0
    exact⟨⟨_,rfl⟩,.inr ⟨_,trivial,hJx3⟩⟩
theorem groups_stops(F:Fence)(n:Nat)(h29:F.fn 134)(hro:F.round=none)(hn:1<=n)(Bn:Nat)(z:Nat)(hz:z<128^9)(w:World)(hB:Bn<w.heap.size)(hBn:w.cell? ⟨Bn,0,none⟩=some (.int .u64 z)):
  SeqStopsK F n Tryz.prog 134 #[.pointer (some ⟨Bn,0,none⟩)] (fun x:Int=> #[.int .u8 x]) (fun _ _=>True) (fun ys=>ys=encI 8 z) (fun _=>True) 9 w:=by
 intro l J Jx W hW _ _ hY h0;exact groups1_in F n h29 hro hn l Bn z hz J Jx hY W ((hW.cell (p:=⟨Bn,0,none⟩) hB).trans hBn) h0
theorem PutInt_bad(x:Int)(w:World)(h:x< -4611686018427387903\/4611686018427387903<x)(h1 : -9223372036854775808<=x)(h2:x<=9223372036854775807):
  Calls Tryz.prog 88 #[.int .i64 x] w fun e w'=>e= .returned (.tuple #[.string ⟨#[]⟩,.int .i64 10])/\Below w.heap.size w w':=by
 by_cases hc:x< -4611686018427387903
 ·go_enter Tryz.func88,Tryz.ntmps88
  go_wp2
  go_ret2;exact⟨rfl,Below.refl _ _⟩
 ·have hc':4611686018427387903<x:=by omega
  go_enter Tryz.func88,Tryz.ntmps88
  go_wp2
  go_ret2;exact⟨rfl,Below.refl _ _⟩
theorem foldN_eq(x:Int):foldN x=(foldI x:Int):=by unfold foldN foldI;split<;>omega
def Arr(W:World)(B:Nat)(pre:List Int):Prop:=∀j,j<9->W.cell? ⟨B,j,none⟩=some (.int .u8 (pre.getD j 0))/\W.frozen? ⟨B,j,none⟩=false
theorem put_world(w w0:World)(z:Int)(hw:w0=((w.alloc (.cells #[.int .u8 0,.int .u8 0,.int .u8 0,.int .u8 0,.int .u8 0,.int .u8 0,.int .u8 0,.int .u8 0,.int .u8 0] 154)).alloc (.cells #[.int .i64 0] 3)).alloc (.cells #[.int .u64 z] 158)):
  w0.heap.size=w.heap.size+3/\Below w.heap.size w w0/\Arr w0 w.heap.size []/\w0.cell? ⟨w.heap.size+1,0,none⟩=some (.int .i64 0)/\w0.frozen? ⟨w.heap.size+1,0,none⟩=false /\
   w0.cell? ⟨w.heap.size+1+1,0,none⟩=some (.int .u64 z):=by
 subst hw;refine⟨by simp,(((Below.refl _ w).alloc (Nat.le_refl _) _).alloc (by simp) _).alloc (by simp;omega) _,?_,?_,?_,?_⟩
 ·intro j hj;rw[World.cell?_alloc_past _ _ _ (by simp;omega),World.cell?_alloc_past _ _ _ (by simp),World.cell?_alloc_at _ _ _ _ rfl,World.frozen?_alloc_past _ _ _ (by simp;omega),World.frozen?_alloc_past _ _ _ (by simp),World.frozen?_alloc_at _ _ _ _ rfl];refine⟨?_,rfl⟩
  match j,hj with
  | 0,_=>rfl
  | 1,_=>rfl
  | 2,_=>rfl
  | 3,_=>rfl
  | 4,_=>rfl
  | 5,_=>rfl
  | 6,_=>rfl
  | 7,_=>rfl
  | 8,_=>rfl
 ·rw[World.cell?_alloc_past _ _ _ (by simp),World.cell?_alloc_at _ _ _ _ (by simp)];rfl
 ·rw[World.frozen?_alloc_past _ _ _ (by simp),World.frozen?_alloc_at _ _ _ _ (by simp)]
 ·rw[World.cell?_alloc_at _ _ _ _ (by simp)];rfl
theorem pow9:(128:Nat)^9=9223372036854775808:=by decide
theorem lt_pow9(z:Nat)(h:z<=9223372036854775806):z<128^9:=by rw[pow9];omega
theorem encI_len(z:Nat):(encI 8 z).length<=9:=by unfold encI;rw[List.length_map];exact(enc_len 8 z).2
theorem put_step(w W:World)(pre:List Int)(y:Int)(hA:Arr W w.heap.size pre)(hc:W.cell? ⟨w.heap.size+1,0,none⟩=some (.int .i64 pre.length))(hf:W.frozen? ⟨w.heap.size+1,0,none⟩=false)(hB:Below w.heap.size w W)(_hl:pre.length<9):
  KeepsOthers W ((W.setCell ⟨w.heap.size,pre.length,none⟩ (.int .u8 y)).setCell ⟨w.heap.size+1,0,none⟩ (.int .i64 (pre.length+1)))/\True /\
  (Arr ((W.setCell ⟨w.heap.size,pre.length,none⟩ (.int .u8 y)).setCell ⟨w.heap.size+1,0,none⟩ (.int .i64 (pre.length+1))) w.heap.size (pre++[y]) /\
   ((W.setCell ⟨w.heap.size,pre.length,none⟩ (.int .u8 y)).setCell ⟨w.heap.size+1,0,none⟩ (.int .i64 (pre.length+1))).cell? ⟨w.heap.size+1,0,none⟩=some (.int .i64 (pre++[y]).length) /\
   ((W.setCell ⟨w.heap.size,pre.length,none⟩ (.int .u8 y)).setCell ⟨w.heap.size+1,0,none⟩ (.int .i64 (pre.length+1))).frozen? ⟨w.heap.size+1,0,none⟩=false) /\
   Below w.heap.size w ((W.setCell ⟨w.heap.size,pre.length,none⟩ (.int .u8 y)).setCell ⟨w.heap.size+1,0,none⟩ (.int .i64 (pre.length+1))):=by
 refine⟨(KeepsOthers.setCell _ _ _).trans (KeepsOthers.setCell _ _ _),trivial,⟨?_,?_,?_⟩,(hB.setCell (p:=⟨w.heap.size,pre.length,none⟩) (Nat.le_refl _) _).setCell (p:=⟨w.heap.size+1,0,none⟩) (by simp) _⟩
 ·intro j hj;refine⟨?_,by simp only[World.frozen?_setCell];exact(hA j hj).2⟩;rw[World.cell?_setCell_other _ _ _ _ (by simp)];by_cases e:j=pre.length
  ·subst e;rw[World.cell?_setCell_same' _ _ _ (by rw[(hA _ hj).1];rfl)]
   simp
  ·rw[World.cell?_setCell_other _ _ _ _ (by simp),(hA j hj).1];congr 2;simp only[List.getD,List.getElem?_append]
   split
   ·rfl
   ·rw[List.getElem?_eq_none (by omega),List.getElem?_eq_none (by simp;omega)]
 ·rw[World.cell?_setCell_same' _ _ _ (by rw[World.cell?_setCell_other _ _ _ _ (by simp),hc];rfl)]
  simp
 ·simp only[World.frozen?_setCell];exact hf
theorem size5:∀w,(Go.sizeOf 5).run Tryz.prog w= .ok 1 w:=fun _=>by kernel_rfl
theorem slice46(W:World)(b:Nat)(m:Nat)(hm:m<=9):(Instr.sliceAt 154 (.pointer (some ⟨b,0,none⟩)) none (some (.int .i64 (m:Int))) none).run Tryz.prog W= .ok (.slice (some ⟨b,0,none⟩) m 9) W:=by
 have e1:Tryz.prog.arrayLen 154=9:=by kernel_rfl
 have e2:Tryz.prog.elem 154=5:=by kernel_rfl
 rw[run_sliceAt_array_h W 154 ⟨b,0,none⟩ (by kernel_rfl) .i64 m (by omega) (by rw[e1];omega),e2,size5,e1];simp[Result.andThen,slicedAt,Addr.add]
theorem enc_lens(x:Int):(encI 8 (foldI x)).length=(putL x).length:=by simp[encI,putL]
theorem arr_bytes(W:World)(B:Nat)(x:Int)(h:Arr W B (encI 8 (foldI x)))(j:Nat)(hj:j<(putL x).length):W.cell? (Addr.add ⟨B,0,none⟩ j)=some (.int .u8 ((putL x)[j].toNat:Int)):=by
 have hj9:j<9:=by have:=(putL_len x).2;omega
 have h1:=(h j hj9).1;have e:(Addr.add ⟨B,0,none⟩ j)=⟨B,j,none⟩:=by
  unfold Addr.add
  split
  ·rename_i e;rw[e]
  ·simp
 rw[e,h1];congr 2;have e2:(encI 8 (foldI x))[j]?=some ((putL x)[j].toNat:Int):=by
  unfold encI;rw[List.getElem?_map];show((putL x)[j]?).map _=_;rw[List.getElem?_eq_getElem hj];rfl
 simp[List.getD,e2]
set_option maxHeartbeats 400000 in
theorem PutInt_in(x:Int)(w:World)(h1 : -4611686018427387903<=x)(h2:x<=4611686018427387903):
  CallsIn Fence.wide 5 Tryz.prog 88 #[.int .i64 x] w fun e w'=>e= .returned (.tuple #[.string ⟨(putL x).toArray⟩,.int .i64 0])/\Below w.heap.size w w':=by
 have hz:=fold_lt x h1 h2;have d1:decide (x< -4611686018427387903)=false:=by simp;omega
 have d2:decide (4611686018427387903<x)=false:=by simp;omega
 refine callsIn_of_wp_marks Tryz.func88 rfl trivial ?_ rfl;simp only[Tryz.ntmps88,List.size_toArray,List.length_cons,List.length_nil,Nat.reduceAdd,Nat.reduceSub,Array.replicate_succ,Array.replicate_zero,List.push_toArray,List.append_toArray,List.nil_append,List.cons_append]
 gi_wp2_with fail
 refine⟨trivial,(callsIn_wide.2 (fold_any _ _ h1 h2)).mono ?_⟩;rw[foldN_eq];rintro e w' ⟨rfl,rfl⟩
 gi_wp2_with fail
 refine⟨trivial,(callsIn_wide.2 (groups_any _ _)).mono ?_⟩;rintro e w' ⟨rfl,rfl⟩
 gi_wp2_with fail
 obtain⟨w0,hw0⟩:∃w0,w0=((w.alloc (.cells #[.int .u8 0,.int .u8 0,.int .u8 0,.int .u8 0,.int .u8 0,.int .u8 0,.int .u8 0,.int .u8 0,.int .u8 0] 154)).alloc (.cells #[.int .i64 0] 3)).alloc (.cells #[.int .u64 ↑(foldI x)] 158):=⟨_,rfl⟩;rw[<-hw0];obtain⟨hsz,hB0,hA,hS1,hS2,hX⟩:=put_world w w0 _ hw0;clear hw0;have hsz:=Lib.hid hsz;refine wpIn_rangeFunc_ownF (F:=Fence.wide) (n:=5) rfl (by omega) (gf:=134) (lb:= #[.pointer (some ⟨w.heap.size+1+1,0,none⟩)]) rfl trivial (enters_of Tryz.func134 (by kernel_rfl) rfl)
  (groups_stops Fence.wide _ trivial rfl (by omega) (w.heap.size+1+1) (foldI x) (lt_pow9 _ hz) w0 (by have:=hsz.out;omega) hX) (fun _ _=>trivial) (fun _ _ _ _ _ _ _ _=>trivial) (Below.refl _ _) (fun _=>rfl)
  (fun pre W=>(Arr W w.heap.size pre/\W.cell? ⟨w.heap.size+1,0,none⟩=some (.int .i64 pre.length)/\W.frozen? ⟨w.heap.size+1,0,none⟩=false)/\Below w.heap.size w W)
  (fun _ _ _=>False)
  (OwnFrom.and (Own.from (fun s A B row hs hg hr=>⟨fun j hj=>⟨cell_kept (hs.1 j hj).1 hg hr,(frozen_kept (hs.1 j hj).1 hg hr).trans (hs.1 j hj).2⟩,cell_kept hs.2.1 hg hr,(frozen_kept hs.2.1 hg hr).trans hs.2.2⟩) _) (ownFrom_below (Nat.le_refl _) (by have:=hsz.out;omega)))
  (fun _ _ _ _ _ hs _ _=>hs)
  ⟨⟨hA,hS1,hS2⟩,hB0⟩
  (fun y=>{tmps:= #[.int .i64 x,undef,.string {data:= #[]},.int .i64 0,.pointer (some ⟨w.heap.size,0,none⟩),.pointer (some ⟨w.heap.size+1,0,none⟩),.int .u8 y,.int .i64 x,.bool false,.bool false,.int .i64 x,.bool false,.bool false,.int .i64 x,.int .u64 ↑(foldI x),.func (.func 134) #[] #[.pointer (some ⟨w.heap.size+1+1,0,none⟩)],.int .u8 y,undef,undef,undef,undef,undef,undef,undef,undef],defers:=[]}) ?assign ?body ?done ?stop
 case assign =>
  intro l x W K hK
  gi_wp2
  exact hK
 case body =>
  rintro l pre y W ⟨⟨hA1,hc,hf⟩,hB⟩ hlen;have h9:=(hA1 pre.length hlen);have H:=Lib.hid (put_step w W pre y hA1 hc hf hB hlen);clear hA1
  gi_wp2
  exact H.out
 case done =>
  rintro D ys W hD rfl ⟨⟨hA1,hc,hf⟩,hB⟩ hK;have hl:=encI_len (foldI x);rw[enc_lens]at hc hl;have hsl:=slice46 W w.heap.size (putL x).length hl;have hcv:=run_convert_bytes_back (P:=Tryz.prog) W 62 9 5 ⟨w.heap.size,0,none⟩ 9 (putL x) Tryz.underlying62 Tryz.underlying5 Tryz.underlying9 (arr_bytes W _ x hA1);have hA1:=Lib.hid hA1
  gi_wp2
  refine⟨by simp,.inl ⟨_,_,rfl,run_takeDeferred hK,?_⟩⟩;exact⟨_,results_tmp2 rfl _ _ _,rfl,hB.trans (belowK_b (w:=w) (Nat.le_refl _) W D _ _ (by have:=hsz.out;omega) hK rfl rfl)⟩
 case stop =>
  rintro D c pre W _ _ h _;exact h.elim
theorem PutInt_any(x:Int)(w:World)(h1 : -4611686018427387903<=x)(h2:x<=4611686018427387903):
  Calls Tryz.prog 88 #[.int .i64 x] w fun e w'=>e= .returned (.tuple #[.string ⟨(putL x).toArray⟩,.int .i64 0])/\Below w.heap.size w w' :=
 callsIn_wide.1 (PutInt_in x w h1 h2)
theorem unfoldN_eq(z:Nat):unfoldN (z:Int)=unfoldI z:=by
 unfold unfoldN unfoldI;by_cases h:z%2=1
 ·rw[if_pos (by omega),if_pos h];simp
 ·rw[if_neg (by omega),if_neg h];simp
theorem tail_data(s:ByteArray)(k:Nat):(s.extract k s.size).data.toList=s.data.toList.drop k:=by
 rw[Lib.extract_data];exact List.take_of_length_le (by simp)
theorem Int_arg(s:ByteArray)(at_:Int)(w:World)(_hs:s.size<=maxLen)(h:at_<0\/(s.size:Int)<at_)(h1 : -9223372036854775808<=at_)(h2:at_<=9223372036854775807):
  Calls Tryz.prog 118 #[.string s,.int .i64 at_] w fun e w'=>e= .returned (.tuple #[.int .i64 0,.int .i64 0,.int .i64 2])/\w=w':=by
 unfold maxLen at _hs;by_cases hc:at_<0
 ·go_enter Tryz.func118,Tryz.ntmps118
  go_wp2
  go_ret3;exact⟨rfl,rfl⟩
 ·have hc':(s.size:Int)<at_:=by omega
  go_enter Tryz.func118,Tryz.ntmps118
  go_wp2
  go_ret3;exact⟨rfl,rfl⟩
theorem Int_none(s:ByteArray)(k:Nat)(w:World)(hs:s.size<=maxLen)(hk:k<=s.size)(h:getL s.data.toList k=none):
  Calls Tryz.prog 118 #[.string s,.int .i64 k] w fun e w'=>e= .returned (.tuple #[.int .i64 0,.int .i64 0,.int .i64 10])/\w=w':=by
 have hs':=hs;unfold maxLen at hs';have hj:(jr (s.data.toList.drop k)).2=0\/0<(jr (s.data.toList.drop k)).2/\9223372036854775806<(jr (s.data.toList.drop k)).1:=by
  unfold getL at h;unfold jr;cases hq:jn 9 true (s.data.toList.drop k)with
  | none=>exact .inl rfl
  | some p =>
   rw[hq]at h;have:=(jn_sound 8 true _ _ _ hq).2.1;simp at h;exact .inr ⟨by show 0<p.2;omega,by simpa using h⟩
 generalize hg:jr (s.data.toList.drop k)=g at hj;obtain⟨z,i⟩:=g;have hg:=Lib.hid hg;have d1:decide ((k:Int)<0)=false:=by simp
 have d2:decide ((s.size:Int)<(k:Int))=false:=by simp;omega
 have hsz:(s.extract k s.size).size<=maxLen:=by simp;omega
 rcases hj with hj|⟨hj1,hj2⟩
 ·simp at hj;subst hj;go_enter Tryz.func118,Tryz.ntmps118;go_wp2_with fail;refine(join_any _ _ hsz).mono ?_;rw[tail_data,hg.out];rintro e w' ⟨rfl,rfl⟩
  go_wp2
  go_ret3;exact⟨rfl,rfl⟩
 ·simp at hj1 hj2;have d3:((i:Int)==0)=false:=by simp;omega
  go_enter Tryz.func118,Tryz.ntmps118;go_wp2_with fail;refine(join_any _ _ hsz).mono ?_;rw[tail_data,hg.out];rintro e w' ⟨rfl,rfl⟩
  go_wp2
  go_ret3;exact⟨rfl,rfl⟩
theorem Int_ok(s:ByteArray)(k:Nat)(n:Int)(m:Nat)(w:World)(hs:s.size<=maxLen)(hk:k<=s.size)(h:getL s.data.toList k=some (n,m)):
  Calls Tryz.prog 118 #[.string s,.int .i64 k] w fun e w'=>e= .returned (.tuple #[.int .i64 n,.int .i64 m,.int .i64 0])/\w=w':=by
 have hs':=hs;unfold maxLen at hs';obtain⟨z,i,hj,hi,hz,hn,hm⟩:∃z i:Nat,jr (s.data.toList.drop k)=(z,i)/\0<i/\z<=9223372036854775806/\unfoldI z=n/\k+i=m:=by
  unfold getL at h;unfold jr;cases hq:jn 9 true (s.data.toList.drop k)with
  | none=>rw[hq]at h;cases h
  | some p =>
   rw[hq]at h;have:=(jn_sound 8 true _ _ _ hq).2.1;by_cases hz:p.1<=9223372036854775806
   ·simp[hz]at h;exact⟨p.1,p.2,rfl,by omega,hz,h.1,h.2⟩
   ·simp[hz]at h
 have hml:m<=s.size:=by
  have:=(getL_sound _ _ _ _ h).2.2.1 (by simpa using hk);simpa using this
 subst hn;subst hm;have hj:=Lib.hid hj;have d1:decide ((k:Int)<0)=false:=by simp
 have d2:decide ((s.size:Int)<(k:Int))=false:=by simp;omega
 have d3:((i:Int)==0)=false:=by simp;omega
 have d4:decide ((9223372036854775806:Int)<z)=false:=by simp;omega
 have hsz:(s.extract k s.size).size<=maxLen:=by simp;omega
 go_enter Tryz.func118,Tryz.ntmps118;go_wp2_with fail;refine(join_any _ _ hsz).mono ?_;rw[tail_data,hj.out];rintro e w' ⟨rfl,rfl⟩;go_wp2_with fail;refine(unfold_any _ _ (by omega) (by omega)).mono ?_;rw[unfoldN_eq];rintro e w' ⟨rfl,rfl⟩
 go_wp2
 go_ret3;exact⟨by simp,rfl⟩
end Go.Proofs.YtlaldnlgapeckaaGreat
