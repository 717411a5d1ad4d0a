/- Facts. -/
import Derived.Test.YtlaldnlgapeckaaGreatVYHi
set_option linter.unusedSimpArgs false
set_option maxRecDepth 100000
set_option maxHeartbeats 4000000
namespace Go.Proofs.YtlaldnlgapeckaaGreat
open Go.RowKit
theorem box3c{W:World}{g:Nat}{x y z:Value}(h:W.heap[g]?=some (.cells #[x,y,z] 26 (0,0))):(W.cell? ⟨g,0,none⟩=some x/\W.cell? ⟨g,1,none⟩=some y/\W.cell? ⟨g,2,none⟩=some z)/\W.frozen? ⟨g,0,none⟩=false/\W.frozen? ⟨g,1,none⟩=false/\W.frozen? ⟨g,2,none⟩=false:=by
 refine⟨⟨?_,?_,?_⟩,frozen_of_row W g 0 _ _ h,frozen_of_row W g 1 _ _ h,frozen_of_row W g 2 _ _ h⟩<;>(rw[cell_of_row W g _ _ _ _ h];rfl)
end Go.Proofs.YtlaldnlgapeckaaGreat
