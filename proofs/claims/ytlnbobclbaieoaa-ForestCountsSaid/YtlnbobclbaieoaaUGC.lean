/- Contracts and facts. -/
import Derived.Deep.LoopGhost
import Derived.Handy
import Derived.RangeFuncNested
import Derived.RangeFuncBound
import Derived.RangeFuncBox
import Derived.RangeFuncCalls
import Derived.RangeFuncLeaves
import Derived.Shelf.Abstract
import Derived.Shelf.RegionOpen
import Derived.WalkKit
import Derived.OwnWalkIn
import Derived.TacticsInMore
import Derived.LoopNIn
import Derived.LoopIn
import Derived.Maps.OwnIn
import Derived.BigRegionIn
import Derived.Stop.RegionWithIn
import Derived.WalkMore
import Derived.BigRegion
import Derived.Laws.EntriesVeiled
import Derived.Test.YtlnbobclbaieoaaUFZ
import Derived.Test.YtlnbobclbaieoaaUGB
set_option linter.unusedSimpArgs false
set_option maxRecDepth 100000
set_option maxHeartbeats 4000000
namespace Go.Proofs.Ytlnbobclbaieoaa
open Go.RowKit Go.Shelf
attribute [local go_sem] Oper.semAt_some
theorem read_any : ReadC := fun v L w hL hl => by
  obtain ⟨a, c, rfl⟩ := hL.shape
  refine (callsIn_wide.1 (read_in Fence.wide 3 trivial trivial trivial rfl (by omega) a c L hl w hL)).mono ?_
  rintro e w' ⟨rfl, hP, B⟩
  exact ⟨_, rfl, hP, B, hP.lt⟩

end Go.Proofs.Ytlnbobclbaieoaa
