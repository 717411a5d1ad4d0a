/-
  No cell of these rows narrows 'for every input' (looked for: loops, veiled, ifaces, maps, wideKeys, modest, calm, conditions, laid).
  DERIVED. THE GIVEN ROWS OF THIS SEAT. 7 by the template 'for every input the law returns true; each argument reads behind the call as it read before'; 0 by the template 'total and deterministic' (their statements: YtlaldnlgapeckaaGreatTotals.lean).
  GIVEN WITH THE SEED: the statements are not yours to turn. If you find one false, say at which input.
  Laid BY PROGRAM, IN A SANDBOX (cutbox-rows.mjs): the forced cells as the released guide's own fill.sh prints them over the translation 513afc6e1e5cea3f… (all of the seat's roots in one cut). By AI agents, Wed Nov 11 2026. No macro, syntax, notation, axiom, sorry.
-/
import Derived.Test.YtlaldnlgapeckaaGreatChecked
import GoSem.Claim
import GoSem.ClaimJoined
import GoSem.ClaimMapViews
import Derived.JoinedTies
import Derived.KernelRfl
namespace Go.Proofs.YtlaldnlgapeckaaGreat
/- THE CELL 'sum', in the pinned program and in every row, IS THE sha256 OF THE DUMP (.gsa) THAT YtlaldnlgapeckaaGreatProg.lean LOADS. Nothing in Lean hashes anything: it is a label: what it is worth is what the hold of that sum in a sandbox is worth. -/
noncomputable def Tryz.pinned : Pinned := { name := "ytlaldnlgapeckaagreat", sum := "513afc6e1e5cea3f93c06eb2e562a885959a239f01e3251e71aced14bcfb71a7", checked := Tryz.checked }
namespace Rows
def none {H : Type} : Left H := { results := [], args := [] }

/-- 'clearwaylaw03.GraphMatchesReference': WHATEVER THE INPUT: true; the input reads as it did. -/
def graphMatchesReferenceSpec : ChangeSpec := { name := "graphMatchesReference", fn := fun _ => fun
  | [d1, d2, d3, d4, d5, d6, d7] => { results := [.lit (.bool true)], args := [d1, d2, d3, d4, d5, d6, d7] }
  | _ => none }
def graphMatchesReferenceRow : OpenClaim := { program := "ytlaldnlgapeckaagreat", sum := "513afc6e1e5cea3f93c06eb2e562a885959a239f01e3251e71aced14bcfb71a7", func := "clearway/clearwaylaw03.GraphMatchesReference", spec := "graphMatchesReference", inPlace := ["slices.overlaps[clearway/api.Vertex]", "slices.overlaps[clearway/api.Edge]", "internal/abi.NoEscape"], unfollowed := true, recurses := true, apart := false }
def GraphMatchesReferenceSaid : Prop := graphMatchesReferenceRow.holds Tryz.pinned (OpenSpec.ofChange graphMatchesReferenceSpec)

/-- ITS FALSE NEIGHBOUR: 'it returns false'. Refute it at one input. -/
def graphMatchesReferenceWrong : ChangeSpec := { name := "graphMatchesReference", fn := fun _ => fun
  | [d1, d2, d3, d4, d5, d6, d7] => { results := [.lit (.bool false)], args := [d1, d2, d3, d4, d5, d6, d7] }
  | _ => none }
def GraphMatchesReferenceWrongFalsely : Prop := graphMatchesReferenceRow.holds Tryz.pinned (OpenSpec.ofChange graphMatchesReferenceWrong)

/-- 'clearwaylaw03.GraphCodeMatchesReference': WHATEVER THE INPUT: true; the input reads as it did. -/
def graphCodeMatchesReferenceSpec : ChangeSpec := { name := "graphCodeMatchesReference", fn := fun _ => fun
  | [d1, d2, d3, d4, d5, d6, d7, d8] => { results := [.lit (.bool true)], args := [d1, d2, d3, d4, d5, d6, d7, d8] }
  | _ => none }
def graphCodeMatchesReferenceRow : OpenClaim := { program := "ytlaldnlgapeckaagreat", sum := "513afc6e1e5cea3f93c06eb2e562a885959a239f01e3251e71aced14bcfb71a7", func := "clearway/clearwaylaw03.GraphCodeMatchesReference", spec := "graphCodeMatchesReference", inPlace := ["slices.overlaps[clearway/api.Vertex]", "slices.overlaps[clearway/api.Edge]", "internal/abi.NoEscape"], unfollowed := true, recurses := true, apart := false }
def GraphCodeMatchesReferenceSaid : Prop := graphCodeMatchesReferenceRow.holds Tryz.pinned (OpenSpec.ofChange graphCodeMatchesReferenceSpec)

/-- ITS FALSE NEIGHBOUR: 'it returns false'. Refute it at one input. -/
def graphCodeMatchesReferenceWrong : ChangeSpec := { name := "graphCodeMatchesReference", fn := fun _ => fun
  | [d1, d2, d3, d4, d5, d6, d7, d8] => { results := [.lit (.bool false)], args := [d1, d2, d3, d4, d5, d6, d7, d8] }
  | _ => none }
def GraphCodeMatchesReferenceWrongFalsely : Prop := graphCodeMatchesReferenceRow.holds Tryz.pinned (OpenSpec.ofChange graphCodeMatchesReferenceWrong)

/-- 'clearwaylaw03.GraphUndoes': WHATEVER THE INPUT: true; the input reads as it did. -/
def graphUndoesSpec : ChangeSpec := { name := "graphUndoes", fn := fun _ => fun
  | [d1, d2, d3, d4] => { results := [.lit (.bool true)], args := [d1, d2, d3, d4] }
  | _ => none }
def graphUndoesRow : OpenClaim := { program := "ytlaldnlgapeckaagreat", sum := "513afc6e1e5cea3f93c06eb2e562a885959a239f01e3251e71aced14bcfb71a7", func := "clearway/clearwaylaw03.GraphUndoes", spec := "graphUndoes", inPlace := ["slices.overlaps[clearway/api.Vertex]", "slices.overlaps[clearway/api.Edge]", "internal/abi.NoEscape"], unfollowed := true, recurses := true, apart := false }
def GraphUndoesSaid : Prop := graphUndoesRow.holds Tryz.pinned (OpenSpec.ofChange graphUndoesSpec)

/-- ITS FALSE NEIGHBOUR: 'it returns false'. Refute it at one input. -/
def graphUndoesWrong : ChangeSpec := { name := "graphUndoes", fn := fun _ => fun
  | [d1, d2, d3, d4] => { results := [.lit (.bool false)], args := [d1, d2, d3, d4] }
  | _ => none }
def GraphUndoesWrongFalsely : Prop := graphUndoesRow.holds Tryz.pinned (OpenSpec.ofChange graphUndoesWrong)

/-- 'clearwaylaw03.GraphLocal': WHATEVER THE INPUT: true; the input reads as it did. -/
def graphLocalSpec : ChangeSpec := { name := "graphLocal", fn := fun _ => fun
  | [d1, d2, d3, d4] => { results := [.lit (.bool true)], args := [d1, d2, d3, d4] }
  | _ => none }
def graphLocalRow : OpenClaim := { program := "ytlaldnlgapeckaagreat", sum := "513afc6e1e5cea3f93c06eb2e562a885959a239f01e3251e71aced14bcfb71a7", func := "clearway/clearwaylaw03.GraphLocal", spec := "graphLocal", inPlace := ["slices.overlaps[clearway/api.Vertex]", "slices.overlaps[clearway/api.Edge]", "internal/abi.NoEscape"], unfollowed := true, recurses := true, apart := false }
def GraphLocalSaid : Prop := graphLocalRow.holds Tryz.pinned (OpenSpec.ofChange graphLocalSpec)

/-- ITS FALSE NEIGHBOUR: 'it returns false'. Refute it at one input. -/
def graphLocalWrong : ChangeSpec := { name := "graphLocal", fn := fun _ => fun
  | [d1, d2, d3, d4] => { results := [.lit (.bool false)], args := [d1, d2, d3, d4] }
  | _ => none }
def GraphLocalWrongFalsely : Prop := graphLocalRow.holds Tryz.pinned (OpenSpec.ofChange graphLocalWrong)

/-- 'clearwaylaw03.GraphCommutes': WHATEVER THE INPUT: true; the input reads as it did. -/
def graphCommutesSpec : ChangeSpec := { name := "graphCommutes", fn := fun _ => fun
  | [d1, d2, d3, d4] => { results := [.lit (.bool true)], args := [d1, d2, d3, d4] }
  | _ => none }
def graphCommutesRow : OpenClaim := { program := "ytlaldnlgapeckaagreat", sum := "513afc6e1e5cea3f93c06eb2e562a885959a239f01e3251e71aced14bcfb71a7", func := "clearway/clearwaylaw03.GraphCommutes", spec := "graphCommutes", inPlace := ["slices.overlaps[clearway/api.Vertex]", "slices.overlaps[clearway/api.Edge]", "internal/abi.NoEscape"], unfollowed := true, recurses := true, apart := false }
def GraphCommutesSaid : Prop := graphCommutesRow.holds Tryz.pinned (OpenSpec.ofChange graphCommutesSpec)

/-- ITS FALSE NEIGHBOUR: 'it returns false'. Refute it at one input. -/
def graphCommutesWrong : ChangeSpec := { name := "graphCommutes", fn := fun _ => fun
  | [d1, d2, d3, d4] => { results := [.lit (.bool false)], args := [d1, d2, d3, d4] }
  | _ => none }
def GraphCommutesWrongFalsely : Prop := graphCommutesRow.holds Tryz.pinned (OpenSpec.ofChange graphCommutesWrong)

/-- 'clearwaylaw03.GraphCode': WHATEVER THE INPUT: true; the input reads as it did. -/
def graphCodeSpec : ChangeSpec := { name := "graphCode", fn := fun _ => fun
  | [d1, d2, d3, d4, d5, d6, d7, d8] => { results := [.lit (.bool true)], args := [d1, d2, d3, d4, d5, d6, d7, d8] }
  | _ => none }
def graphCodeRow : OpenClaim := { program := "ytlaldnlgapeckaagreat", sum := "513afc6e1e5cea3f93c06eb2e562a885959a239f01e3251e71aced14bcfb71a7", func := "clearway/clearwaylaw03.GraphCode", spec := "graphCode", inPlace := ["slices.overlaps[clearway/api.Vertex]", "slices.overlaps[clearway/api.Edge]", "internal/abi.NoEscape"], unfollowed := true, recurses := true, apart := false }
def GraphCodeSaid : Prop := graphCodeRow.holds Tryz.pinned (OpenSpec.ofChange graphCodeSpec)

/-- ITS FALSE NEIGHBOUR: 'it returns false'. Refute it at one input. -/
def graphCodeWrong : ChangeSpec := { name := "graphCode", fn := fun _ => fun
  | [d1, d2, d3, d4, d5, d6, d7, d8] => { results := [.lit (.bool false)], args := [d1, d2, d3, d4, d5, d6, d7, d8] }
  | _ => none }
def GraphCodeWrongFalsely : Prop := graphCodeRow.holds Tryz.pinned (OpenSpec.ofChange graphCodeWrong)

/-- 'clearwaylaw03.GraphContracts': WHATEVER THE INPUT: true; the input reads as it did. -/
def graphContractsSpec : ChangeSpec := { name := "graphContracts", fn := fun _ => fun
  | [d1, d2, d3, d4, d5, d6] => { results := [.lit (.bool true)], args := [d1, d2, d3, d4, d5, d6] }
  | _ => none }
def graphContractsRow : OpenClaim := { program := "ytlaldnlgapeckaagreat", sum := "513afc6e1e5cea3f93c06eb2e562a885959a239f01e3251e71aced14bcfb71a7", func := "clearway/clearwaylaw03.GraphContracts", spec := "graphContracts", inPlace := ["slices.overlaps[clearway/api.Vertex]", "slices.overlaps[clearway/api.Edge]", "internal/abi.NoEscape"], unfollowed := true, recurses := true, apart := false }
def GraphContractsSaid : Prop := graphContractsRow.holds Tryz.pinned (OpenSpec.ofChange graphContractsSpec)

/-- ITS FALSE NEIGHBOUR: 'it returns false'. Refute it at one input. -/
def graphContractsWrong : ChangeSpec := { name := "graphContracts", fn := fun _ => fun
  | [d1, d2, d3, d4, d5, d6] => { results := [.lit (.bool false)], args := [d1, d2, d3, d4, d5, d6] }
  | _ => none }
def GraphContractsWrongFalsely : Prop := graphContractsRow.holds Tryz.pinned (OpenSpec.ofChange graphContractsWrong)

/- THE SECOND FORM. 'bulk': how many values and letters a reading holds, each counted each time it is reached (what is shared counts as often as it is met; a slice's spare places count too). A statement '..UptoSaid' is the law's where the arguments, and the package variables that the reading takes, are together of bulk at most 1048576: NARROWER than '..Said'. Prove '..Said' where nothing that the law and all that it calls make is longer than what came in: it says more and counts as full. Else prove '..UptoSaid'. A law counts once. -/
mutual
def uptoBulk {H : Type} : DataW H → Nat
  | .lit (.string bytes) => bytes.length + 1
  | .lit _ => 1
  | .nil => 1
  | .ptr d => uptoBulk d + 1
  | .slice elems spare => uptoBulkAll elems + uptoBulkAll spare + 1
  | .agg parts => uptoBulkAll parts + 1
  | .iface _ d => uptoBulk d + 1
  | .map entries => uptoBulkEntries entries + 1
  | .held _ => 1
def uptoBulkAll {H : Type} : List (DataW H) → Nat
  | [] => 0
  | d :: r => uptoBulk d + uptoBulkAll r
def uptoBulkEntries {H : Type} : List (Lit × DataW H) → Nat
  | [] => 0
  | x :: r => uptoBulkEntry x + uptoBulkEntries r
def uptoBulkEntry {H : Type} : Lit × DataW H → Nat
  | (.string bytes, d) => bytes.length + uptoBulk d + 1
  | (_, d) => uptoBulk d + 1
 end
def uptoSmall : (H : Type) → List (DataW H) → Bool := fun _ ds => decide (uptoBulkAll ds ≤ 1048576)
def OpenSpec.upto (s : _root_.Go.ChangeSpec) : _root_.Go.OpenSpec := { _root_.Go.OpenSpec.ofChange s with cond := some uptoSmall }

/-- 'clearwaylaw03.GraphMatchesReference', WHERE WHAT IT READS IS OF BULK AT MOST 1048576: true; the input reads as it did. -/
def graphMatchesReferenceUptoRow : OpenClaim := { program := "ytlaldnlgapeckaagreat", sum := "513afc6e1e5cea3f93c06eb2e562a885959a239f01e3251e71aced14bcfb71a7", func := "clearway/clearwaylaw03.GraphMatchesReference", spec := "graphMatchesReference", inPlace := ["slices.overlaps[clearway/api.Vertex]", "slices.overlaps[clearway/api.Edge]", "internal/abi.NoEscape"], unfollowed := true, recurses := true, apart := false, narrowed := true }
def GraphMatchesReferenceUptoSaid : Prop := graphMatchesReferenceUptoRow.holds Tryz.pinned (OpenSpec.upto graphMatchesReferenceSpec)

/-- 'clearwaylaw03.GraphCodeMatchesReference', WHERE WHAT IT READS IS OF BULK AT MOST 1048576: true; the input reads as it did. -/
def graphCodeMatchesReferenceUptoRow : OpenClaim := { program := "ytlaldnlgapeckaagreat", sum := "513afc6e1e5cea3f93c06eb2e562a885959a239f01e3251e71aced14bcfb71a7", func := "clearway/clearwaylaw03.GraphCodeMatchesReference", spec := "graphCodeMatchesReference", inPlace := ["slices.overlaps[clearway/api.Vertex]", "slices.overlaps[clearway/api.Edge]", "internal/abi.NoEscape"], unfollowed := true, recurses := true, apart := false, narrowed := true }
def GraphCodeMatchesReferenceUptoSaid : Prop := graphCodeMatchesReferenceUptoRow.holds Tryz.pinned (OpenSpec.upto graphCodeMatchesReferenceSpec)

/-- 'clearwaylaw03.GraphUndoes', WHERE WHAT IT READS IS OF BULK AT MOST 1048576: true; the input reads as it did. -/
def graphUndoesUptoRow : OpenClaim := { program := "ytlaldnlgapeckaagreat", sum := "513afc6e1e5cea3f93c06eb2e562a885959a239f01e3251e71aced14bcfb71a7", func := "clearway/clearwaylaw03.GraphUndoes", spec := "graphUndoes", inPlace := ["slices.overlaps[clearway/api.Vertex]", "slices.overlaps[clearway/api.Edge]", "internal/abi.NoEscape"], unfollowed := true, recurses := true, apart := false, narrowed := true }
def GraphUndoesUptoSaid : Prop := graphUndoesUptoRow.holds Tryz.pinned (OpenSpec.upto graphUndoesSpec)

/-- 'clearwaylaw03.GraphLocal', WHERE WHAT IT READS IS OF BULK AT MOST 1048576: true; the input reads as it did. -/
def graphLocalUptoRow : OpenClaim := { program := "ytlaldnlgapeckaagreat", sum := "513afc6e1e5cea3f93c06eb2e562a885959a239f01e3251e71aced14bcfb71a7", func := "clearway/clearwaylaw03.GraphLocal", spec := "graphLocal", inPlace := ["slices.overlaps[clearway/api.Vertex]", "slices.overlaps[clearway/api.Edge]", "internal/abi.NoEscape"], unfollowed := true, recurses := true, apart := false, narrowed := true }
def GraphLocalUptoSaid : Prop := graphLocalUptoRow.holds Tryz.pinned (OpenSpec.upto graphLocalSpec)

/-- 'clearwaylaw03.GraphCommutes', WHERE WHAT IT READS IS OF BULK AT MOST 1048576: true; the input reads as it did. -/
def graphCommutesUptoRow : OpenClaim := { program := "ytlaldnlgapeckaagreat", sum := "513afc6e1e5cea3f93c06eb2e562a885959a239f01e3251e71aced14bcfb71a7", func := "clearway/clearwaylaw03.GraphCommutes", spec := "graphCommutes", inPlace := ["slices.overlaps[clearway/api.Vertex]", "slices.overlaps[clearway/api.Edge]", "internal/abi.NoEscape"], unfollowed := true, recurses := true, apart := false, narrowed := true }
def GraphCommutesUptoSaid : Prop := graphCommutesUptoRow.holds Tryz.pinned (OpenSpec.upto graphCommutesSpec)

/-- 'clearwaylaw03.GraphCode', WHERE WHAT IT READS IS OF BULK AT MOST 1048576: true; the input reads as it did. -/
def graphCodeUptoRow : OpenClaim := { program := "ytlaldnlgapeckaagreat", sum := "513afc6e1e5cea3f93c06eb2e562a885959a239f01e3251e71aced14bcfb71a7", func := "clearway/clearwaylaw03.GraphCode", spec := "graphCode", inPlace := ["slices.overlaps[clearway/api.Vertex]", "slices.overlaps[clearway/api.Edge]", "internal/abi.NoEscape"], unfollowed := true, recurses := true, apart := false, narrowed := true }
def GraphCodeUptoSaid : Prop := graphCodeUptoRow.holds Tryz.pinned (OpenSpec.upto graphCodeSpec)

/-- 'clearwaylaw03.GraphContracts', WHERE WHAT IT READS IS OF BULK AT MOST 1048576: true; the input reads as it did. -/
def graphContractsUptoRow : OpenClaim := { program := "ytlaldnlgapeckaagreat", sum := "513afc6e1e5cea3f93c06eb2e562a885959a239f01e3251e71aced14bcfb71a7", func := "clearway/clearwaylaw03.GraphContracts", spec := "graphContracts", inPlace := ["slices.overlaps[clearway/api.Vertex]", "slices.overlaps[clearway/api.Edge]", "internal/abi.NoEscape"], unfollowed := true, recurses := true, apart := false, narrowed := true }
def GraphContractsUptoSaid : Prop := graphContractsUptoRow.holds Tryz.pinned (OpenSpec.upto graphContractsSpec)

end Rows
end Go.Proofs.YtlaldnlgapeckaaGreat
