/- Facts. -/
import Derived.Laws.MakeOwn
import Derived.Lib.BufferWrite
import Derived.Lib.Strings
import Derived.Lib.UnsafeStr
import Derived.Lib.Walk
import Derived.LoopIn
import Derived.LoopNIn
import Derived.OwnWalkIn
import Derived.RangeFuncBound
import Derived.RangeFuncCalls
import Derived.RangeFuncLeaves
import Derived.RangeFuncNested
import Derived.Shelf.Abstract
import Derived.Shelf.RegionOpen
import Derived.TacticsInMore
import Init.Data.List.Lemmas
import Derived.Test.YtlnbobclbaieoaaUNVYA
set_option maxRecDepth 100000
set_option maxHeartbeats 4000000
namespace Go.Proofs.Ytlnbobclbaieoaa
open Go.RowKit
def enc:Nat->Nat->List UInt8
 | 0,z=>[UInt8.ofNat z]
 | k+1,z=>if z<128 then[UInt8.ofNat z]else UInt8.ofNat (z%128+128)::enc k (z / 128)
def pk(c n:Int):Int:=(if c<0 then -(c+1)else c)%n
theorem pk_lo(c n:Int)(h:1<=n):0<=pk c n:=by unfold pk;exact Int.emod_nonneg _ (by omega)
theorem pk_lt(c n:Int)(h:1<=n):pk c n<n:=by unfold pk;exact Int.emod_lt_of_pos _ (by omega)
theorem pickR_any(c n:Int)(w:World)(h1 : -9223372036854775808<=c)(h2:c<=9223372036854775807)(h3:1<=n)(h4:n<=9223372036854775807):
  Calls Try.prog 36 #[.int .i64 c,.int .i64 n] w fun e w'=>e= .returned (.int .i64 (pk c n))/\w=w':=by
 by_cases h:c<0
 ·go_enter Try.func36,Try.ntmps36
  go_wp2
  go_ret;exact⟨ret_int (by rw[pk,if_pos h,<-Int.neg_tmod];exact Int.tmod_eq_emod_of_nonneg (by omega)),rfl⟩
 ·go_enter Try.func36,Try.ntmps36
  go_wp2
  go_ret;exact⟨ret_int (by rw[pk,if_neg (by omega)]),rfl⟩
open Go.RowKit Go.Shelf
attribute [local go_sem] Oper.semAt_some
end Go.Proofs.Ytlnbobclbaieoaa
