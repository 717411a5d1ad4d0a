/- The reference's act, all kinds from 1 to 10. -/
import Derived.Test.YtlaldnlgapeckaaGreatYRk8
import Derived.Test.YtlaldnlgapeckaaGreatYRk3
import Derived.Test.YtlaldnlgapeckaaGreatYRk10
import Derived.Test.YtlaldnlgapeckaaGreatYRa
set_option maxHeartbeats 4000000
namespace Go.Proofs.YtlaldnlgapeckaaGreat
open Go.RowKit
theorem actR_any (va vb vc ca cb : Value) (g : Gr) (c : Ch) (B0 : Nat) (w0 : World) (h1 : OwnV w0 B0 va g.vs) (h2 : OwnEd w0 B0 vb g.es) (h3 : OwnI w0 B0 vc g.ds) (h4 : DL w0 ca c.ends) (h5 : DL w0 cb c.deps) (hok : Ok g) (hB0 : B0 ≤ w0.heap.size) (hl : c.ends.length ≤ 100000 ∧ c.deps.length ≤ 100000) (hk : 1 ≤ c.kind ∧ c.kind ≤ 10) (hr : ∀ n ∈ c.ends, -9223372036854775808 ≤ n ∧ n ≤ 9223372036854775807) (hx : ∀ eb eo n d, ca = .slice (some ⟨eb, eo, none⟩) n d → c.ends ≠ [] → eb < B0) :
  Calls Tryz.prog 58 #[.agg #[va, vb, vc], .agg (chCells c ca cb)] w0 (ActR g c B0 w0) := by
 have : c.kind = 1 ∨ c.kind = 2 ∨ c.kind = 3 ∨ c.kind = 4 ∨ c.kind = 5 ∨ c.kind = 6 ∨ c.kind = 7 ∨ c.kind = 8 ∨ c.kind = 9 ∨ c.kind = 10 := by omega
 rcases this with h | h | h | h | h | h | h | h | h | h
 ·exact actR_1 va vb vc ca cb g c B0 w0 h1 h2 h3 h4 h5 hok hB0 hl h
 ·exact actR_2 va vb vc ca cb g c B0 w0 h1 h2 h3 h4 h5 hok hB0 hl h
 ·exact actR_3 va vb vc ca cb g c B0 w0 h1 h2 h3 h4 h5 hok hB0 hl h
 ·exact actR_4 va vb vc ca cb g c B0 w0 h1 h2 h3 h4 h5 hok hB0 hl h
 ·exact actR_5 va vb vc ca cb g c B0 w0 h1 h2 h3 h4 h5 hok hB0 hl h
 ·exact actR_6 va vb vc ca cb g c B0 w0 h1 h2 h3 h4 h5 hok hB0 hl h
 ·exact actR_7 va vb vc ca cb g c B0 w0 h1 h2 h3 h4 h5 hok hB0 hl h
 ·exact actR_8 va vb vc ca cb g c B0 w0 h1 h2 h3 h4 h5 hok hB0 hl h hr hx
 ·exact actR_9 va vb vc ca cb g c B0 w0 h1 h2 h3 h4 h5 hok hB0 hl h
 ·exact actR_10 va vb vc ca cb g c B0 w0 h1 h2 h3 h4 h5 hok hB0 hl h
end Go.Proofs.YtlaldnlgapeckaaGreat
