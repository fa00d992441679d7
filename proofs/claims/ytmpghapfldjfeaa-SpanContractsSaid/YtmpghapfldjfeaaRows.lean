/-
  No cell of these rows narrows 'for every input' (looked for: loops, veiled, ifaces, maps, wideKeys, modest, calm, conditions, laid).
  DERIVED. THE GIVEN ROWS OF THIS SEAT. 12 by the template 'for every input the law returns true; each argument reads behind the call as it read before'; 0 by the template 'total and deterministic' (their statements: YtmpghapfldjfeaaTotals.lean).
  GIVEN WITH THE SEED: the statements are not yours to turn. If you find one false, say at which input.
  Laid BY PROGRAM, IN A SANDBOX (cutbox-rows.mjs): the forced cells as the released guide's own fill.sh prints them over the translation 6cb3e5d1ac7b109b… (all of the seat's roots in one cut). By AI agents, Wed Nov 11 2026. No macro, syntax, notation, axiom, sorry.
-/
import Derived.Test.YtmpghapfldjfeaaChecked
import GoSem.Claim
import GoSem.ClaimJoined
import GoSem.ClaimMapViews
import Derived.JoinedTies
import Derived.KernelRfl
namespace Go.Proofs.Ytmpghapfldjfeaa
/- THE CELL 'sum', in the pinned program and in every row, IS THE sha256 OF THE DUMP (.gsa) THAT YtmpghapfldjfeaaProg.lean LOADS. Nothing in Lean hashes anything: it is a label: what it is worth is what the hold of that sum in a sandbox is worth. -/
noncomputable def Try.pinned : Pinned := { name := "ytmpghapfldjfeaa", sum := "6cb3e5d1ac7b109baea50e696de813390b72be643d5083c93d1aefc35c28d6e0", checked := Try.checked }
namespace Rows
def none {H : Type} : Left H := { results := [], args := [] }

/-- 'tinkerlaw06.SpanBoxes': WHATEVER THE INPUT: true; the input reads as it did. -/
def spanBoxesSpec : ChangeSpec := { name := "spanBoxes", fn := fun _ => fun
  | [d1, d2] => { results := [.lit (.bool true)], args := [d1, d2] }
  | _ => none }
def spanBoxesRow : OpenClaim := { program := "ytmpghapfldjfeaa", sum := "6cb3e5d1ac7b109baea50e696de813390b72be643d5083c93d1aefc35c28d6e0", func := "tinker/tinkerlaw06.SpanBoxes", spec := "spanBoxes", unfollowed := true, recurses := true, apart := false }
def SpanBoxesSaid : Prop := spanBoxesRow.holds Try.pinned (OpenSpec.ofChange spanBoxesSpec)

/-- ITS FALSE NEIGHBOUR: 'it returns false'. Refute it at one input. -/
def spanBoxesWrong : ChangeSpec := { name := "spanBoxes", fn := fun _ => fun
  | [d1, d2] => { results := [.lit (.bool false)], args := [d1, d2] }
  | _ => none }
def SpanBoxesWrongFalsely : Prop := spanBoxesRow.holds Try.pinned (OpenSpec.ofChange spanBoxesWrong)

/-- 'tinkerlaw06.SpanHulls': WHATEVER THE INPUT: true; the input reads as it did. -/
def spanHullsSpec : ChangeSpec := { name := "spanHulls", fn := fun _ => fun
  | [d1, d2] => { results := [.lit (.bool true)], args := [d1, d2] }
  | _ => none }
def spanHullsRow : OpenClaim := { program := "ytmpghapfldjfeaa", sum := "6cb3e5d1ac7b109baea50e696de813390b72be643d5083c93d1aefc35c28d6e0", func := "tinker/tinkerlaw06.SpanHulls", spec := "spanHulls", unfollowed := true, recurses := true, apart := false }
def SpanHullsSaid : Prop := spanHullsRow.holds Try.pinned (OpenSpec.ofChange spanHullsSpec)

/-- ITS FALSE NEIGHBOUR: 'it returns false'. Refute it at one input. -/
def spanHullsWrong : ChangeSpec := { name := "spanHulls", fn := fun _ => fun
  | [d1, d2] => { results := [.lit (.bool false)], args := [d1, d2] }
  | _ => none }
def SpanHullsWrongFalsely : Prop := spanHullsRow.holds Try.pinned (OpenSpec.ofChange spanHullsWrong)

/-- 'tinkerlaw06.SpanMeets': WHATEVER THE INPUT: true; the input reads as it did. -/
def spanMeetsSpec : ChangeSpec := { name := "spanMeets", fn := fun _ => fun
  | [d1, d2, d3] => { results := [.lit (.bool true)], args := [d1, d2, d3] }
  | _ => none }
def spanMeetsRow : OpenClaim := { program := "ytmpghapfldjfeaa", sum := "6cb3e5d1ac7b109baea50e696de813390b72be643d5083c93d1aefc35c28d6e0", func := "tinker/tinkerlaw06.SpanMeets", spec := "spanMeets", unfollowed := true, recurses := true, apart := false }
def SpanMeetsSaid : Prop := spanMeetsRow.holds Try.pinned (OpenSpec.ofChange spanMeetsSpec)

/-- ITS FALSE NEIGHBOUR: 'it returns false'. Refute it at one input. -/
def spanMeetsWrong : ChangeSpec := { name := "spanMeets", fn := fun _ => fun
  | [d1, d2, d3] => { results := [.lit (.bool false)], args := [d1, d2, d3] }
  | _ => none }
def SpanMeetsWrongFalsely : Prop := spanMeetsRow.holds Try.pinned (OpenSpec.ofChange spanMeetsWrong)

/-- 'tinkerlaw06.SpanPoints': WHATEVER THE INPUT: true; the input reads as it did. -/
def spanPointsSpec : ChangeSpec := { name := "spanPoints", fn := fun _ => fun
  | [d1, d2] => { results := [.lit (.bool true)], args := [d1, d2] }
  | _ => none }
def spanPointsRow : OpenClaim := { program := "ytmpghapfldjfeaa", sum := "6cb3e5d1ac7b109baea50e696de813390b72be643d5083c93d1aefc35c28d6e0", func := "tinker/tinkerlaw06.SpanPoints", spec := "spanPoints", unfollowed := true, recurses := true, apart := false }
def SpanPointsSaid : Prop := spanPointsRow.holds Try.pinned (OpenSpec.ofChange spanPointsSpec)

/-- ITS FALSE NEIGHBOUR: 'it returns false'. Refute it at one input. -/
def spanPointsWrong : ChangeSpec := { name := "spanPoints", fn := fun _ => fun
  | [d1, d2] => { results := [.lit (.bool false)], args := [d1, d2] }
  | _ => none }
def SpanPointsWrongFalsely : Prop := spanPointsRow.holds Try.pinned (OpenSpec.ofChange spanPointsWrong)

/-- 'tinkerlaw06.SpanContracts': WHATEVER THE INPUT: true; the input reads as it did. -/
def spanContractsSpec : ChangeSpec := { name := "spanContracts", fn := fun _ => fun
  | [d] => { results := [.lit (.bool true)], args := [d] }
  | _ => none }
def spanContractsRow : OpenClaim := { program := "ytmpghapfldjfeaa", sum := "6cb3e5d1ac7b109baea50e696de813390b72be643d5083c93d1aefc35c28d6e0", func := "tinker/tinkerlaw06.SpanContracts", spec := "spanContracts", unfollowed := true, recurses := true, apart := false }
def SpanContractsSaid : Prop := spanContractsRow.holds Try.pinned (OpenSpec.ofChange spanContractsSpec)

/-- ITS FALSE NEIGHBOUR: 'it returns false'. Refute it at one input. -/
def spanContractsWrong : ChangeSpec := { name := "spanContracts", fn := fun _ => fun
  | [d] => { results := [.lit (.bool false)], args := [d] }
  | _ => none }
def SpanContractsWrongFalsely : Prop := spanContractsRow.holds Try.pinned (OpenSpec.ofChange spanContractsWrong)

/-- 'tinkerlaw06.SpanAfters': WHATEVER THE INPUT: true; the input reads as it did. -/
def spanAftersSpec : ChangeSpec := { name := "spanAfters", fn := fun _ => fun
  | [d1, d2, d3] => { results := [.lit (.bool true)], args := [d1, d2, d3] }
  | _ => none }
def spanAftersRow : OpenClaim := { program := "ytmpghapfldjfeaa", sum := "6cb3e5d1ac7b109baea50e696de813390b72be643d5083c93d1aefc35c28d6e0", func := "tinker/tinkerlaw06.SpanAfters", spec := "spanAfters", unfollowed := true, recurses := true, apart := false }
def SpanAftersSaid : Prop := spanAftersRow.holds Try.pinned (OpenSpec.ofChange spanAftersSpec)

/-- ITS FALSE NEIGHBOUR: 'it returns false'. Refute it at one input. -/
def spanAftersWrong : ChangeSpec := { name := "spanAfters", fn := fun _ => fun
  | [d1, d2, d3] => { results := [.lit (.bool false)], args := [d1, d2, d3] }
  | _ => none }
def SpanAftersWrongFalsely : Prop := spanAftersRow.holds Try.pinned (OpenSpec.ofChange spanAftersWrong)

/-- 'tinkerlaw06.SpanReaches': WHATEVER THE INPUT: true; the input reads as it did. -/
def spanReachesSpec : ChangeSpec := { name := "spanReaches", fn := fun _ => fun
  | [d1, d2] => { results := [.lit (.bool true)], args := [d1, d2] }
  | _ => none }
def spanReachesRow : OpenClaim := { program := "ytmpghapfldjfeaa", sum := "6cb3e5d1ac7b109baea50e696de813390b72be643d5083c93d1aefc35c28d6e0", func := "tinker/tinkerlaw06.SpanReaches", spec := "spanReaches", unfollowed := true, recurses := true, apart := false }
def SpanReachesSaid : Prop := spanReachesRow.holds Try.pinned (OpenSpec.ofChange spanReachesSpec)

/-- ITS FALSE NEIGHBOUR: 'it returns false'. Refute it at one input. -/
def spanReachesWrong : ChangeSpec := { name := "spanReaches", fn := fun _ => fun
  | [d1, d2] => { results := [.lit (.bool false)], args := [d1, d2] }
  | _ => none }
def SpanReachesWrongFalsely : Prop := spanReachesRow.holds Try.pinned (OpenSpec.ofChange spanReachesWrong)

/-- 'tinkerlaw06.SpanHolds': WHATEVER THE INPUT: true; the input reads as it did. -/
def spanHoldsSpec : ChangeSpec := { name := "spanHolds", fn := fun _ => fun
  | [d1, d2, d3] => { results := [.lit (.bool true)], args := [d1, d2, d3] }
  | _ => none }
def spanHoldsRow : OpenClaim := { program := "ytmpghapfldjfeaa", sum := "6cb3e5d1ac7b109baea50e696de813390b72be643d5083c93d1aefc35c28d6e0", func := "tinker/tinkerlaw06.SpanHolds", spec := "spanHolds", unfollowed := true, recurses := true, apart := false }
def SpanHoldsSaid : Prop := spanHoldsRow.holds Try.pinned (OpenSpec.ofChange spanHoldsSpec)

/-- ITS FALSE NEIGHBOUR: 'it returns false'. Refute it at one input. -/
def spanHoldsWrong : ChangeSpec := { name := "spanHolds", fn := fun _ => fun
  | [d1, d2, d3] => { results := [.lit (.bool false)], args := [d1, d2, d3] }
  | _ => none }
def SpanHoldsWrongFalsely : Prop := spanHoldsRow.holds Try.pinned (OpenSpec.ofChange spanHoldsWrong)

/-- 'tinkerlaw06.SpanGrows': WHATEVER THE INPUT: true; the input reads as it did. -/
def spanGrowsSpec : ChangeSpec := { name := "spanGrows", fn := fun _ => fun
  | [d1, d2, d3] => { results := [.lit (.bool true)], args := [d1, d2, d3] }
  | _ => none }
def spanGrowsRow : OpenClaim := { program := "ytmpghapfldjfeaa", sum := "6cb3e5d1ac7b109baea50e696de813390b72be643d5083c93d1aefc35c28d6e0", func := "tinker/tinkerlaw06.SpanGrows", spec := "spanGrows", unfollowed := true, recurses := true, apart := false }
def SpanGrowsSaid : Prop := spanGrowsRow.holds Try.pinned (OpenSpec.ofChange spanGrowsSpec)

/-- ITS FALSE NEIGHBOUR: 'it returns false'. Refute it at one input. -/
def spanGrowsWrong : ChangeSpec := { name := "spanGrows", fn := fun _ => fun
  | [d1, d2, d3] => { results := [.lit (.bool false)], args := [d1, d2, d3] }
  | _ => none }
def SpanGrowsWrongFalsely : Prop := spanGrowsRow.holds Try.pinned (OpenSpec.ofChange spanGrowsWrong)

/-- 'tinkerlaw06.SpanProves': WHATEVER THE INPUT: true; the input reads as it did. -/
def spanProvesSpec : ChangeSpec := { name := "spanProves", fn := fun _ => fun
  | [d1, d2, d3] => { results := [.lit (.bool true)], args := [d1, d2, d3] }
  | _ => none }
def spanProvesRow : OpenClaim := { program := "ytmpghapfldjfeaa", sum := "6cb3e5d1ac7b109baea50e696de813390b72be643d5083c93d1aefc35c28d6e0", func := "tinker/tinkerlaw06.SpanProves", spec := "spanProves", unfollowed := true, recurses := true, apart := false }
def SpanProvesSaid : Prop := spanProvesRow.holds Try.pinned (OpenSpec.ofChange spanProvesSpec)

/-- ITS FALSE NEIGHBOUR: 'it returns false'. Refute it at one input. -/
def spanProvesWrong : ChangeSpec := { name := "spanProves", fn := fun _ => fun
  | [d1, d2, d3] => { results := [.lit (.bool false)], args := [d1, d2, d3] }
  | _ => none }
def SpanProvesWrongFalsely : Prop := spanProvesRow.holds Try.pinned (OpenSpec.ofChange spanProvesWrong)

/-- 'tinkerlaw06.SpanLosses': WHATEVER THE INPUT: true; the input reads as it did. -/
def spanLossesSpec : ChangeSpec := { name := "spanLosses", fn := fun _ => fun
  | [d1, d2] => { results := [.lit (.bool true)], args := [d1, d2] }
  | _ => none }
def spanLossesRow : OpenClaim := { program := "ytmpghapfldjfeaa", sum := "6cb3e5d1ac7b109baea50e696de813390b72be643d5083c93d1aefc35c28d6e0", func := "tinker/tinkerlaw06.SpanLosses", spec := "spanLosses", unfollowed := true, recurses := true, apart := false }
def SpanLossesSaid : Prop := spanLossesRow.holds Try.pinned (OpenSpec.ofChange spanLossesSpec)

/-- ITS FALSE NEIGHBOUR: 'it returns false'. Refute it at one input. -/
def spanLossesWrong : ChangeSpec := { name := "spanLosses", fn := fun _ => fun
  | [d1, d2] => { results := [.lit (.bool false)], args := [d1, d2] }
  | _ => none }
def SpanLossesWrongFalsely : Prop := spanLossesRow.holds Try.pinned (OpenSpec.ofChange spanLossesWrong)

/-- 'tinkerlaw06.SpanHalves': WHATEVER THE INPUT: true; the input reads as it did. -/
def spanHalvesSpec : ChangeSpec := { name := "spanHalves", fn := fun _ => fun
  | [d1, d2, d3] => { results := [.lit (.bool true)], args := [d1, d2, d3] }
  | _ => none }
def spanHalvesRow : OpenClaim := { program := "ytmpghapfldjfeaa", sum := "6cb3e5d1ac7b109baea50e696de813390b72be643d5083c93d1aefc35c28d6e0", func := "tinker/tinkerlaw06.SpanHalves", spec := "spanHalves", unfollowed := true, recurses := true, apart := false }
def SpanHalvesSaid : Prop := spanHalvesRow.holds Try.pinned (OpenSpec.ofChange spanHalvesSpec)

/-- ITS FALSE NEIGHBOUR: 'it returns false'. Refute it at one input. -/
def spanHalvesWrong : ChangeSpec := { name := "spanHalves", fn := fun _ => fun
  | [d1, d2, d3] => { results := [.lit (.bool false)], args := [d1, d2, d3] }
  | _ => none }
def SpanHalvesWrongFalsely : Prop := spanHalvesRow.holds Try.pinned (OpenSpec.ofChange spanHalvesWrong)

/- THE SECOND FORM. 'bulk': how many values and letters a reading holds, each counted each time it is reached (what is shared counts as often as it is met; a slice's spare places count too). A statement '..UptoSaid' is the law's where the arguments, and the package variables that the reading takes, are together of bulk at most 1048576: NARROWER than '..Said'. Prove '..Said' where nothing that the law and all that it calls make is longer than what came in: it says more and counts as full. Else prove '..UptoSaid'. A law counts once. -/
mutual
def uptoBulk {H : Type} : DataW H → Nat
  | .lit (.string bytes) => bytes.length + 1
  | .lit _ => 1
  | .nil => 1
  | .ptr d => uptoBulk d + 1
  | .slice elems spare => uptoBulkAll elems + uptoBulkAll spare + 1
  | .agg parts => uptoBulkAll parts + 1
  | .iface _ d => uptoBulk d + 1
  | .map entries => uptoBulkEntries entries + 1
  | .held _ => 1
def uptoBulkAll {H : Type} : List (DataW H) → Nat
  | [] => 0
  | d :: r => uptoBulk d + uptoBulkAll r
def uptoBulkEntries {H : Type} : List (Lit × DataW H) → Nat
  | [] => 0
  | x :: r => uptoBulkEntry x + uptoBulkEntries r
def uptoBulkEntry {H : Type} : Lit × DataW H → Nat
  | (.string bytes, d) => bytes.length + uptoBulk d + 1
  | (_, d) => uptoBulk d + 1
 end
def uptoSmall : (H : Type) → List (DataW H) → Bool := fun _ ds => decide (uptoBulkAll ds ≤ 1048576)
def OpenSpec.upto (s : _root_.Go.ChangeSpec) : _root_.Go.OpenSpec := { _root_.Go.OpenSpec.ofChange s with cond := some uptoSmall }

/-- 'tinkerlaw06.SpanBoxes', WHERE WHAT IT READS IS OF BULK AT MOST 1048576: true; the input reads as it did. -/
def spanBoxesUptoRow : OpenClaim := { program := "ytmpghapfldjfeaa", sum := "6cb3e5d1ac7b109baea50e696de813390b72be643d5083c93d1aefc35c28d6e0", func := "tinker/tinkerlaw06.SpanBoxes", spec := "spanBoxes", unfollowed := true, recurses := true, apart := false, narrowed := true }
def SpanBoxesUptoSaid : Prop := spanBoxesUptoRow.holds Try.pinned (OpenSpec.upto spanBoxesSpec)

/-- 'tinkerlaw06.SpanHulls', WHERE WHAT IT READS IS OF BULK AT MOST 1048576: true; the input reads as it did. -/
def spanHullsUptoRow : OpenClaim := { program := "ytmpghapfldjfeaa", sum := "6cb3e5d1ac7b109baea50e696de813390b72be643d5083c93d1aefc35c28d6e0", func := "tinker/tinkerlaw06.SpanHulls", spec := "spanHulls", unfollowed := true, recurses := true, apart := false, narrowed := true }
def SpanHullsUptoSaid : Prop := spanHullsUptoRow.holds Try.pinned (OpenSpec.upto spanHullsSpec)

/-- 'tinkerlaw06.SpanMeets', WHERE WHAT IT READS IS OF BULK AT MOST 1048576: true; the input reads as it did. -/
def spanMeetsUptoRow : OpenClaim := { program := "ytmpghapfldjfeaa", sum := "6cb3e5d1ac7b109baea50e696de813390b72be643d5083c93d1aefc35c28d6e0", func := "tinker/tinkerlaw06.SpanMeets", spec := "spanMeets", unfollowed := true, recurses := true, apart := false, narrowed := true }
def SpanMeetsUptoSaid : Prop := spanMeetsUptoRow.holds Try.pinned (OpenSpec.upto spanMeetsSpec)

/-- 'tinkerlaw06.SpanPoints', WHERE WHAT IT READS IS OF BULK AT MOST 1048576: true; the input reads as it did. -/
def spanPointsUptoRow : OpenClaim := { program := "ytmpghapfldjfeaa", sum := "6cb3e5d1ac7b109baea50e696de813390b72be643d5083c93d1aefc35c28d6e0", func := "tinker/tinkerlaw06.SpanPoints", spec := "spanPoints", unfollowed := true, recurses := true, apart := false, narrowed := true }
def SpanPointsUptoSaid : Prop := spanPointsUptoRow.holds Try.pinned (OpenSpec.upto spanPointsSpec)

/-- 'tinkerlaw06.SpanContracts', WHERE WHAT IT READS IS OF BULK AT MOST 1048576: true; the input reads as it did. -/
def spanContractsUptoRow : OpenClaim := { program := "ytmpghapfldjfeaa", sum := "6cb3e5d1ac7b109baea50e696de813390b72be643d5083c93d1aefc35c28d6e0", func := "tinker/tinkerlaw06.SpanContracts", spec := "spanContracts", unfollowed := true, recurses := true, apart := false, narrowed := true }
def SpanContractsUptoSaid : Prop := spanContractsUptoRow.holds Try.pinned (OpenSpec.upto spanContractsSpec)

/-- 'tinkerlaw06.SpanAfters', WHERE WHAT IT READS IS OF BULK AT MOST 1048576: true; the input reads as it did. -/
def spanAftersUptoRow : OpenClaim := { program := "ytmpghapfldjfeaa", sum := "6cb3e5d1ac7b109baea50e696de813390b72be643d5083c93d1aefc35c28d6e0", func := "tinker/tinkerlaw06.SpanAfters", spec := "spanAfters", unfollowed := true, recurses := true, apart := false, narrowed := true }
def SpanAftersUptoSaid : Prop := spanAftersUptoRow.holds Try.pinned (OpenSpec.upto spanAftersSpec)

/-- 'tinkerlaw06.SpanReaches', WHERE WHAT IT READS IS OF BULK AT MOST 1048576: true; the input reads as it did. -/
def spanReachesUptoRow : OpenClaim := { program := "ytmpghapfldjfeaa", sum := "6cb3e5d1ac7b109baea50e696de813390b72be643d5083c93d1aefc35c28d6e0", func := "tinker/tinkerlaw06.SpanReaches", spec := "spanReaches", unfollowed := true, recurses := true, apart := false, narrowed := true }
def SpanReachesUptoSaid : Prop := spanReachesUptoRow.holds Try.pinned (OpenSpec.upto spanReachesSpec)

/-- 'tinkerlaw06.SpanHolds', WHERE WHAT IT READS IS OF BULK AT MOST 1048576: true; the input reads as it did. -/
def spanHoldsUptoRow : OpenClaim := { program := "ytmpghapfldjfeaa", sum := "6cb3e5d1ac7b109baea50e696de813390b72be643d5083c93d1aefc35c28d6e0", func := "tinker/tinkerlaw06.SpanHolds", spec := "spanHolds", unfollowed := true, recurses := true, apart := false, narrowed := true }
def SpanHoldsUptoSaid : Prop := spanHoldsUptoRow.holds Try.pinned (OpenSpec.upto spanHoldsSpec)

/-- 'tinkerlaw06.SpanGrows', WHERE WHAT IT READS IS OF BULK AT MOST 1048576: true; the input reads as it did. -/
def spanGrowsUptoRow : OpenClaim := { program := "ytmpghapfldjfeaa", sum := "6cb3e5d1ac7b109baea50e696de813390b72be643d5083c93d1aefc35c28d6e0", func := "tinker/tinkerlaw06.SpanGrows", spec := "spanGrows", unfollowed := true, recurses := true, apart := false, narrowed := true }
def SpanGrowsUptoSaid : Prop := spanGrowsUptoRow.holds Try.pinned (OpenSpec.upto spanGrowsSpec)

/-- 'tinkerlaw06.SpanProves', WHERE WHAT IT READS IS OF BULK AT MOST 1048576: true; the input reads as it did. -/
def spanProvesUptoRow : OpenClaim := { program := "ytmpghapfldjfeaa", sum := "6cb3e5d1ac7b109baea50e696de813390b72be643d5083c93d1aefc35c28d6e0", func := "tinker/tinkerlaw06.SpanProves", spec := "spanProves", unfollowed := true, recurses := true, apart := false, narrowed := true }
def SpanProvesUptoSaid : Prop := spanProvesUptoRow.holds Try.pinned (OpenSpec.upto spanProvesSpec)

/-- 'tinkerlaw06.SpanLosses', WHERE WHAT IT READS IS OF BULK AT MOST 1048576: true; the input reads as it did. -/
def spanLossesUptoRow : OpenClaim := { program := "ytmpghapfldjfeaa", sum := "6cb3e5d1ac7b109baea50e696de813390b72be643d5083c93d1aefc35c28d6e0", func := "tinker/tinkerlaw06.SpanLosses", spec := "spanLosses", unfollowed := true, recurses := true, apart := false, narrowed := true }
def SpanLossesUptoSaid : Prop := spanLossesUptoRow.holds Try.pinned (OpenSpec.upto spanLossesSpec)

/-- 'tinkerlaw06.SpanHalves', WHERE WHAT IT READS IS OF BULK AT MOST 1048576: true; the input reads as it did. -/
def spanHalvesUptoRow : OpenClaim := { program := "ytmpghapfldjfeaa", sum := "6cb3e5d1ac7b109baea50e696de813390b72be643d5083c93d1aefc35c28d6e0", func := "tinker/tinkerlaw06.SpanHalves", spec := "spanHalves", unfollowed := true, recurses := true, apart := false, narrowed := true }
def SpanHalvesUptoSaid : Prop := spanHalvesUptoRow.holds Try.pinned (OpenSpec.upto spanHalvesSpec)

end Rows
end Go.Proofs.Ytmpghapfldjfeaa
