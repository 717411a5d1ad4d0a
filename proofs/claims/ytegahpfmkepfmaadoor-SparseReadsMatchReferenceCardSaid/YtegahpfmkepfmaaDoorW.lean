import Derived.Test.YtegahpfmkepfmaaDoorMix
import Derived.Test.YtegahpfmkepfmaaDoorCards
import Derived.Test.YtegahpfmkepfmaaDoorTie
import Derived.ProofKit
import Derived.OpenShut
import Derived.ShutString
import Derived.Deep.DeepHandedRow
import Derived.Lib.LaidTab
import Derived.Lib.SmallJoins
import Derived.SliceStrings
namespace Go.Proofs.YtegahpfmkepfmaaDoor
open Go.ChangeShapes Go.WideShapes Go.ChangeAt Go.RowKit

theorem own : ownKnob Tryd.prog.godebug = none := by kernel_rfl
theorem laidOut : laidOutB Tryd.prog = true := by kernel_rfl
def hv : List Int := [1116352408, 1899447441, 3049323471, 3921009573, 961987163, 1508970993, 2453635748, 2870763221, 3624381080, 310598401, 607225278, 1426881987, 1925078388, 2162078206, 2614888103, 3248222580, 3835390401, 4022224774, 264347078, 604807628, 770255983, 1249150122, 1555081692, 1996064986, 2554220882, 2821834349, 2952996808, 3210313671, 3336571891, 3584528711, 113926993, 338241895, 666307205, 773529912, 1294757372, 1396182291, 1695183700, 1986661051, 2177026350, 2456956037, 2730485921, 2820302411, 3259730800, 3345764771, 3516065817, 3600352804, 4094571909, 275423344, 430227734, 506948616, 659060556, 883997877, 958139571, 1322822218, 1537002063, 1747873779, 1955562222, 2024104815, 2227730452, 2361852424, 2428436474, 2756734187, 3204031479, 3329325298]
theorem hv_at (j : Nat) (h : j < 64) : hv.getD j 0 = ((kN.getD j 0 : Nat) : Int) := by
  have : ∀ m : Fin 64, hv.getD m.1 0 = ((kN.getD m.1 0 : Nat) : Int) := by decide +kernel
  exact this ⟨j, h⟩
theorem gTab : Tryd.prog.globalNamed "clearway/digest.constants" = some 0 := by kernel_rfl
theorem gTabType : (Tryd.prog.globals[0]?).map (·.type) = some 121 := by kernel_rfl
theorem cells121 : Tryd.prog.cellsOf 121 = 64 := by kernel_rfl
theorem cells106 : Tryd.prog.cellsOf 106 = 1 := by kernel_rfl
theorem table {W : World} (h : laidMetH Tryd.prog [("clearway/digest.constants", Rows.laid_clearway_digest_constants)] W) : Tab W := fun j hj => by
  rw [← hv_at j hj]
  exact (Lib.tabIs_of_head (k := .u32) (zs := hv) (rest := []) gTab gTabType Tryd.underlying121 Tryd.underlying106 cells106 cells121 h).cell gTab j (by simpa [hv] using hj)

/-- A WORLD FOR THE WITNESS: the settled one, the table (block 0) holding what its initialiser lays. -/
noncomputable def laidWorld (os : Os) : World :=
  { World.holding Tryd.prog os ⟨#[], #[], []⟩ with heap := (World.holding Tryd.prog os ⟨#[], #[], []⟩).heap.modify 0 fun
      | .cells _ t frozen => .cells (hv.map (Value.int .u32)).toArray t frozen
      | o => o }
end Go.Proofs.YtegahpfmkepfmaaDoor
