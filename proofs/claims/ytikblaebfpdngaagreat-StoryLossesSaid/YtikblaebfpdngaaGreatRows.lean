/-
  No cell of these rows narrows 'for every input' (looked for: loops, veiled, ifaces, maps, wideKeys, modest, calm, conditions, laid).
  DERIVED. THE GIVEN ROWS OF THIS SEAT. 5 by the template 'for every input the law returns true; each argument reads behind the call as it read before'; 0 by the template 'total and deterministic' (their statements: YtikblaebfpdngaaGreatTotals.lean).
  GIVEN WITH THE SEED: the statements are not yours to turn. If you find one false, say at which input.
  Laid BY PROGRAM, IN A SANDBOX (cutbox-rows.mjs): the forced cells as the released guide's own fill.sh prints them over the translation 3e1b3fdd5930eb7f… (all of the seat's roots in one cut). By AI agents, Wed Nov 11 2026. No macro, syntax, notation, axiom, sorry.
-/
import Derived.Test.YtikblaebfpdngaaGreatChecked
import GoSem.Claim
import GoSem.ClaimJoined
import GoSem.ClaimMapViews
import Derived.JoinedTies
import Derived.KernelRfl
namespace Go.Proofs.YtikblaebfpdngaaGreat
/- THE CELL 'sum', in the pinned program and in every row, IS THE sha256 OF THE DUMP (.gsa) THAT YtikblaebfpdngaaGreatProg.lean LOADS. Nothing in Lean hashes anything: it is a label: what it is worth is what the hold of that sum in a sandbox is worth. -/
noncomputable def Tryz.pinned : Pinned := { name := "ytikblaebfpdngaagreat", sum := "3e1b3fdd5930eb7fbdb51e50f7ee6c2ed0a2400196419ea0aa231c283158b427", checked := Tryz.checked }
namespace Rows
def none {H : Type} : Left H := { results := [], args := [] }

/-- 'tinkerlaw07.StoryOrders': WHATEVER THE INPUT: true; the input reads as it did. -/
def storyOrdersSpec : ChangeSpec := { name := "storyOrders", fn := fun _ => fun
  | [d1, d2, d3] => { results := [.lit (.bool true)], args := [d1, d2, d3] }
  | _ => none }
def storyOrdersRow : OpenClaim := { program := "ytikblaebfpdngaagreat", sum := "3e1b3fdd5930eb7fbdb51e50f7ee6c2ed0a2400196419ea0aa231c283158b427", func := "tinker/tinkerlaw07.StoryOrders", spec := "storyOrders", unfollowed := true, recurses := true, plainKeys := false, apart := false }
def StoryOrdersSaid : Prop := storyOrdersRow.holds Tryz.pinned (OpenSpec.ofChange storyOrdersSpec)

/-- ITS FALSE NEIGHBOUR: 'it returns false'. Refute it at one input. -/
def storyOrdersWrong : ChangeSpec := { name := "storyOrders", fn := fun _ => fun
  | [d1, d2, d3] => { results := [.lit (.bool false)], args := [d1, d2, d3] }
  | _ => none }
def StoryOrdersWrongFalsely : Prop := storyOrdersRow.holds Tryz.pinned (OpenSpec.ofChange storyOrdersWrong)

/-- 'tinkerlaw07.StoryCounts': WHATEVER THE INPUT: true; the input reads as it did. -/
def storyCountsSpec : ChangeSpec := { name := "storyCounts", fn := fun _ => fun
  | [d1, d2] => { results := [.lit (.bool true)], args := [d1, d2] }
  | _ => none }
def storyCountsRow : OpenClaim := { program := "ytikblaebfpdngaagreat", sum := "3e1b3fdd5930eb7fbdb51e50f7ee6c2ed0a2400196419ea0aa231c283158b427", func := "tinker/tinkerlaw07.StoryCounts", spec := "storyCounts", unfollowed := true, recurses := true, plainKeys := false, apart := false }
def StoryCountsSaid : Prop := storyCountsRow.holds Tryz.pinned (OpenSpec.ofChange storyCountsSpec)

/-- ITS FALSE NEIGHBOUR: 'it returns false'. Refute it at one input. -/
def storyCountsWrong : ChangeSpec := { name := "storyCounts", fn := fun _ => fun
  | [d1, d2] => { results := [.lit (.bool false)], args := [d1, d2] }
  | _ => none }
def StoryCountsWrongFalsely : Prop := storyCountsRow.holds Tryz.pinned (OpenSpec.ofChange storyCountsWrong)

/-- 'tinkerlaw07.StoryGreens': WHATEVER THE INPUT: true; the input reads as it did. -/
def storyGreensSpec : ChangeSpec := { name := "storyGreens", fn := fun _ => fun
  | [d1, d2, d3] => { results := [.lit (.bool true)], args := [d1, d2, d3] }
  | _ => none }
def storyGreensRow : OpenClaim := { program := "ytikblaebfpdngaagreat", sum := "3e1b3fdd5930eb7fbdb51e50f7ee6c2ed0a2400196419ea0aa231c283158b427", func := "tinker/tinkerlaw07.StoryGreens", spec := "storyGreens", unfollowed := true, recurses := true, plainKeys := false, apart := false }
def StoryGreensSaid : Prop := storyGreensRow.holds Tryz.pinned (OpenSpec.ofChange storyGreensSpec)

/-- ITS FALSE NEIGHBOUR: 'it returns false'. Refute it at one input. -/
def storyGreensWrong : ChangeSpec := { name := "storyGreens", fn := fun _ => fun
  | [d1, d2, d3] => { results := [.lit (.bool false)], args := [d1, d2, d3] }
  | _ => none }
def StoryGreensWrongFalsely : Prop := storyGreensRow.holds Tryz.pinned (OpenSpec.ofChange storyGreensWrong)

/-- 'tinkerlaw07.StoryBisects': WHATEVER THE INPUT: true; the input reads as it did. -/
def storyBisectsSpec : ChangeSpec := { name := "storyBisects", fn := fun _ => fun
  | [d1, d2, d3] => { results := [.lit (.bool true)], args := [d1, d2, d3] }
  | _ => none }
def storyBisectsRow : OpenClaim := { program := "ytikblaebfpdngaagreat", sum := "3e1b3fdd5930eb7fbdb51e50f7ee6c2ed0a2400196419ea0aa231c283158b427", func := "tinker/tinkerlaw07.StoryBisects", spec := "storyBisects", unfollowed := true, recurses := true, plainKeys := false, apart := false }
def StoryBisectsSaid : Prop := storyBisectsRow.holds Tryz.pinned (OpenSpec.ofChange storyBisectsSpec)

/-- ITS FALSE NEIGHBOUR: 'it returns false'. Refute it at one input. -/
def storyBisectsWrong : ChangeSpec := { name := "storyBisects", fn := fun _ => fun
  | [d1, d2, d3] => { results := [.lit (.bool false)], args := [d1, d2, d3] }
  | _ => none }
def StoryBisectsWrongFalsely : Prop := storyBisectsRow.holds Tryz.pinned (OpenSpec.ofChange storyBisectsWrong)

/-- 'tinkerlaw07.StoryLosses': WHATEVER THE INPUT: true; the input reads as it did. -/
def storyLossesSpec : ChangeSpec := { name := "storyLosses", fn := fun _ => fun
  | [d1, d2, d3] => { results := [.lit (.bool true)], args := [d1, d2, d3] }
  | _ => none }
def storyLossesRow : OpenClaim := { program := "ytikblaebfpdngaagreat", sum := "3e1b3fdd5930eb7fbdb51e50f7ee6c2ed0a2400196419ea0aa231c283158b427", func := "tinker/tinkerlaw07.StoryLosses", spec := "storyLosses", unfollowed := true, recurses := true, plainKeys := false, apart := false }
def StoryLossesSaid : Prop := storyLossesRow.holds Tryz.pinned (OpenSpec.ofChange storyLossesSpec)

/-- ITS FALSE NEIGHBOUR: 'it returns false'. Refute it at one input. -/
def storyLossesWrong : ChangeSpec := { name := "storyLosses", fn := fun _ => fun
  | [d1, d2, d3] => { results := [.lit (.bool false)], args := [d1, d2, d3] }
  | _ => none }
def StoryLossesWrongFalsely : Prop := storyLossesRow.holds Tryz.pinned (OpenSpec.ofChange storyLossesWrong)

/- THE SECOND FORM. 'bulk': how many values and letters a reading holds, each counted each time it is reached (what is shared counts as often as it is met; a slice's spare places count too). A statement '..UptoSaid' is the law's where the arguments, and the package variables that the reading takes, are together of bulk at most 1048576: NARROWER than '..Said'. Prove '..Said' where nothing that the law and all that it calls make is longer than what came in: it says more and counts as full. Else prove '..UptoSaid'. A law counts once. -/
mutual
def uptoBulk {H : Type} : DataW H → Nat
  | .lit (.string bytes) => bytes.length + 1
  | .lit _ => 1
  | .nil => 1
  | .ptr d => uptoBulk d + 1
  | .slice elems spare => uptoBulkAll elems + uptoBulkAll spare + 1
  | .agg parts => uptoBulkAll parts + 1
  | .iface _ d => uptoBulk d + 1
  | .map entries => uptoBulkEntries entries + 1
  | .held _ => 1
def uptoBulkAll {H : Type} : List (DataW H) → Nat
  | [] => 0
  | d :: r => uptoBulk d + uptoBulkAll r
def uptoBulkEntries {H : Type} : List (Lit × DataW H) → Nat
  | [] => 0
  | x :: r => uptoBulkEntry x + uptoBulkEntries r
def uptoBulkEntry {H : Type} : Lit × DataW H → Nat
  | (.string bytes, d) => bytes.length + uptoBulk d + 1
  | (_, d) => uptoBulk d + 1
 end
def uptoSmall : (H : Type) → List (DataW H) → Bool := fun _ ds => decide (uptoBulkAll ds ≤ 1048576)
def OpenSpec.upto (s : _root_.Go.ChangeSpec) : _root_.Go.OpenSpec := { _root_.Go.OpenSpec.ofChange s with cond := some uptoSmall }

/-- 'tinkerlaw07.StoryOrders', WHERE WHAT IT READS IS OF BULK AT MOST 1048576: true; the input reads as it did. -/
def storyOrdersUptoRow : OpenClaim := { program := "ytikblaebfpdngaagreat", sum := "3e1b3fdd5930eb7fbdb51e50f7ee6c2ed0a2400196419ea0aa231c283158b427", func := "tinker/tinkerlaw07.StoryOrders", spec := "storyOrders", unfollowed := true, recurses := true, plainKeys := false, apart := false, narrowed := true }
def StoryOrdersUptoSaid : Prop := storyOrdersUptoRow.holds Tryz.pinned (OpenSpec.upto storyOrdersSpec)

/-- 'tinkerlaw07.StoryCounts', WHERE WHAT IT READS IS OF BULK AT MOST 1048576: true; the input reads as it did. -/
def storyCountsUptoRow : OpenClaim := { program := "ytikblaebfpdngaagreat", sum := "3e1b3fdd5930eb7fbdb51e50f7ee6c2ed0a2400196419ea0aa231c283158b427", func := "tinker/tinkerlaw07.StoryCounts", spec := "storyCounts", unfollowed := true, recurses := true, plainKeys := false, apart := false, narrowed := true }
def StoryCountsUptoSaid : Prop := storyCountsUptoRow.holds Tryz.pinned (OpenSpec.upto storyCountsSpec)

/-- 'tinkerlaw07.StoryGreens', WHERE WHAT IT READS IS OF BULK AT MOST 1048576: true; the input reads as it did. -/
def storyGreensUptoRow : OpenClaim := { program := "ytikblaebfpdngaagreat", sum := "3e1b3fdd5930eb7fbdb51e50f7ee6c2ed0a2400196419ea0aa231c283158b427", func := "tinker/tinkerlaw07.StoryGreens", spec := "storyGreens", unfollowed := true, recurses := true, plainKeys := false, apart := false, narrowed := true }
def StoryGreensUptoSaid : Prop := storyGreensUptoRow.holds Tryz.pinned (OpenSpec.upto storyGreensSpec)

/-- 'tinkerlaw07.StoryBisects', WHERE WHAT IT READS IS OF BULK AT MOST 1048576: true; the input reads as it did. -/
def storyBisectsUptoRow : OpenClaim := { program := "ytikblaebfpdngaagreat", sum := "3e1b3fdd5930eb7fbdb51e50f7ee6c2ed0a2400196419ea0aa231c283158b427", func := "tinker/tinkerlaw07.StoryBisects", spec := "storyBisects", unfollowed := true, recurses := true, plainKeys := false, apart := false, narrowed := true }
def StoryBisectsUptoSaid : Prop := storyBisectsUptoRow.holds Tryz.pinned (OpenSpec.upto storyBisectsSpec)

/-- 'tinkerlaw07.StoryLosses', WHERE WHAT IT READS IS OF BULK AT MOST 1048576: true; the input reads as it did. -/
def storyLossesUptoRow : OpenClaim := { program := "ytikblaebfpdngaagreat", sum := "3e1b3fdd5930eb7fbdb51e50f7ee6c2ed0a2400196419ea0aa231c283158b427", func := "tinker/tinkerlaw07.StoryLosses", spec := "storyLosses", unfollowed := true, recurses := true, plainKeys := false, apart := false, narrowed := true }
def StoryLossesUptoSaid : Prop := storyLossesUptoRow.holds Tryz.pinned (OpenSpec.upto storyLossesSpec)

end Rows
end Go.Proofs.YtikblaebfpdngaaGreat
