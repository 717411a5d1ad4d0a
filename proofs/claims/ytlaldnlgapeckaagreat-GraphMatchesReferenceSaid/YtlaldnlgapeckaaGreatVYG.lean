/- Facts. -/
import Derived.Test.YtlaldnlgapeckaaGreatVYMc
set_option maxHeartbeats 4000000
namespace Go.Proofs.YtlaldnlgapeckaaGreat
open Go.RowKit
theorem L5.below{W W':World}{v:Value}{l:List F5}(h:L5 W v l)(B:Below W.heap.size W W'):L5 W' v l:=by
  rcases h with h|⟨h1,b,o,c,h2,h3,h4,h5⟩
  · exact .inl h
  · exact .inr ⟨h1,b,o,c,h2,h3,Nat.lt_of_lt_of_le h4 B.size,fun j r e i u hu=>by rw[B.cell (by simpa using h4)];exact h5 j r e i u hu⟩
theorem chDepN_le(ks:List Int)(d:Int):∀f k,chDepN ks d f k<=k+f:=by
  intro f
  induction f with
  | zero=>intro k;exact Nat.le_refl _
  | succ f ih=>intro k;unfold chDepN;split;· have:=ih (k+1);omega
               · omega
theorem changed_len(g:Gr)(x:F6)(h:g.vs.length<=1000):(changedC g x).ends.length<=80/\(changedC g x).deps.length<=1000:=by
  have h1:=chEnds_len g.es (chId g x) x.e 80;have h2:=chDeps_len (keysV g.vs) x.d (chDepN (keysV g.vs) x.d g.vs.length 0);have h3:=chDepN_le (keysV g.vs) x.d g.vs.length 0;unfold changedC;dsimp only
  repeat' split
  all_goals (simp only[zC];first|(simp;done)|exact⟨h1,by simp⟩|exact⟨by simp,by omega⟩)
end Go.Proofs.YtlaldnlgapeckaaGreat
