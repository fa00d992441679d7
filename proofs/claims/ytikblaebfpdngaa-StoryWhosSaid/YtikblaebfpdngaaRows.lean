/-
  No cell of these rows narrows 'for every input' (looked for: loops, veiled, ifaces, maps, wideKeys, modest, calm, conditions, laid).
  DERIVED. THE GIVEN ROWS OF THIS SEAT. 7 by the template 'for every input the law returns true; each argument reads behind the call as it read before'; 0 by the template 'total and deterministic' (their statements: YtikblaebfpdngaaTotals.lean).
  GIVEN WITH THE SEED: the statements are not yours to turn. If you find one false, say at which input.
  Laid BY PROGRAM, IN A SANDBOX (cutbox-rows.mjs): the forced cells as the released guide's own fill.sh prints them over the translation c692bd41d3f1e858… (all of the seat's roots in one cut). By AI agents, Wed Nov 11 2026. No macro, syntax, notation, axiom, sorry.
-/
import Derived.Test.YtikblaebfpdngaaChecked
import GoSem.Claim
import GoSem.ClaimJoined
import GoSem.ClaimMapViews
import Derived.JoinedTies
import Derived.KernelRfl
namespace Go.Proofs.Ytikblaebfpdngaa
/- THE CELL 'sum', in the pinned program and in every row, IS THE sha256 OF THE DUMP (.gsa) THAT YtikblaebfpdngaaProg.lean LOADS. Nothing in Lean hashes anything: it is a label: what it is worth is what the hold of that sum in a sandbox is worth. -/
noncomputable def Try.pinned : Pinned := { name := "ytikblaebfpdngaa", sum := "c692bd41d3f1e85887393ecfeb839b2439f0447c3a4bd8cd13e9854141e497fd", checked := Try.checked }
namespace Rows
def none {H : Type} : Left H := { results := [], args := [] }

/-- 'tinkerlaw07.StoryPlays': WHATEVER THE INPUT: true; the input reads as it did. -/
def storyPlaysSpec : ChangeSpec := { name := "storyPlays", fn := fun _ => fun
  | [d1, d2, d3] => { results := [.lit (.bool true)], args := [d1, d2, d3] }
  | _ => none }
def storyPlaysRow : OpenClaim := { program := "ytikblaebfpdngaa", sum := "c692bd41d3f1e85887393ecfeb839b2439f0447c3a4bd8cd13e9854141e497fd", func := "tinker/tinkerlaw07.StoryPlays", spec := "storyPlays", unfollowed := true, recurses := true, plainKeys := false, apart := false }
def StoryPlaysSaid : Prop := storyPlaysRow.holds Try.pinned (OpenSpec.ofChange storyPlaysSpec)

/-- ITS FALSE NEIGHBOUR: 'it returns false'. Refute it at one input. -/
def storyPlaysWrong : ChangeSpec := { name := "storyPlays", fn := fun _ => fun
  | [d1, d2, d3] => { results := [.lit (.bool false)], args := [d1, d2, d3] }
  | _ => none }
def StoryPlaysWrongFalsely : Prop := storyPlaysRow.holds Try.pinned (OpenSpec.ofChange storyPlaysWrong)

/-- 'tinkerlaw07.StoryNeeds': WHATEVER THE INPUT: true; the input reads as it did. -/
def storyNeedsSpec : ChangeSpec := { name := "storyNeeds", fn := fun _ => fun
  | [d1, d2, d3] => { results := [.lit (.bool true)], args := [d1, d2, d3] }
  | _ => none }
def storyNeedsRow : OpenClaim := { program := "ytikblaebfpdngaa", sum := "c692bd41d3f1e85887393ecfeb839b2439f0447c3a4bd8cd13e9854141e497fd", func := "tinker/tinkerlaw07.StoryNeeds", spec := "storyNeeds", unfollowed := true, recurses := true, plainKeys := false, apart := false }
def StoryNeedsSaid : Prop := storyNeedsRow.holds Try.pinned (OpenSpec.ofChange storyNeedsSpec)

/-- ITS FALSE NEIGHBOUR: 'it returns false'. Refute it at one input. -/
def storyNeedsWrong : ChangeSpec := { name := "storyNeeds", fn := fun _ => fun
  | [d1, d2, d3] => { results := [.lit (.bool false)], args := [d1, d2, d3] }
  | _ => none }
def StoryNeedsWrongFalsely : Prop := storyNeedsRow.holds Try.pinned (OpenSpec.ofChange storyNeedsWrong)

/-- 'tinkerlaw07.StoryMutual': WHATEVER THE INPUT: true; the input reads as it did. -/
def storyMutualSpec : ChangeSpec := { name := "storyMutual", fn := fun _ => fun
  | [d1, d2, d3] => { results := [.lit (.bool true)], args := [d1, d2, d3] }
  | _ => none }
def storyMutualRow : OpenClaim := { program := "ytikblaebfpdngaa", sum := "c692bd41d3f1e85887393ecfeb839b2439f0447c3a4bd8cd13e9854141e497fd", func := "tinker/tinkerlaw07.StoryMutual", spec := "storyMutual", unfollowed := true, recurses := true, plainKeys := false, apart := false }
def StoryMutualSaid : Prop := storyMutualRow.holds Try.pinned (OpenSpec.ofChange storyMutualSpec)

/-- ITS FALSE NEIGHBOUR: 'it returns false'. Refute it at one input. -/
def storyMutualWrong : ChangeSpec := { name := "storyMutual", fn := fun _ => fun
  | [d1, d2, d3] => { results := [.lit (.bool false)], args := [d1, d2, d3] }
  | _ => none }
def StoryMutualWrongFalsely : Prop := storyMutualRow.holds Try.pinned (OpenSpec.ofChange storyMutualWrong)

/-- 'tinkerlaw07.StoryReverts': WHATEVER THE INPUT: true; the input reads as it did. -/
def storyRevertsSpec : ChangeSpec := { name := "storyReverts", fn := fun _ => fun
  | [d1, d2, d3] => { results := [.lit (.bool true)], args := [d1, d2, d3] }
  | _ => none }
def storyRevertsRow : OpenClaim := { program := "ytikblaebfpdngaa", sum := "c692bd41d3f1e85887393ecfeb839b2439f0447c3a4bd8cd13e9854141e497fd", func := "tinker/tinkerlaw07.StoryReverts", spec := "storyReverts", unfollowed := true, recurses := true, plainKeys := false, apart := false }
def StoryRevertsSaid : Prop := storyRevertsRow.holds Try.pinned (OpenSpec.ofChange storyRevertsSpec)

/-- ITS FALSE NEIGHBOUR: 'it returns false'. Refute it at one input. -/
def storyRevertsWrong : ChangeSpec := { name := "storyReverts", fn := fun _ => fun
  | [d1, d2, d3] => { results := [.lit (.bool false)], args := [d1, d2, d3] }
  | _ => none }
def StoryRevertsWrongFalsely : Prop := storyRevertsRow.holds Try.pinned (OpenSpec.ofChange storyRevertsWrong)

/-- 'tinkerlaw07.StoryLeaves': WHATEVER THE INPUT: true; the input reads as it did. -/
def storyLeavesSpec : ChangeSpec := { name := "storyLeaves", fn := fun _ => fun
  | [d1, d2, d3] => { results := [.lit (.bool true)], args := [d1, d2, d3] }
  | _ => none }
def storyLeavesRow : OpenClaim := { program := "ytikblaebfpdngaa", sum := "c692bd41d3f1e85887393ecfeb839b2439f0447c3a4bd8cd13e9854141e497fd", func := "tinker/tinkerlaw07.StoryLeaves", spec := "storyLeaves", unfollowed := true, recurses := true, plainKeys := false, apart := false }
def StoryLeavesSaid : Prop := storyLeavesRow.holds Try.pinned (OpenSpec.ofChange storyLeavesSpec)

/-- ITS FALSE NEIGHBOUR: 'it returns false'. Refute it at one input. -/
def storyLeavesWrong : ChangeSpec := { name := "storyLeaves", fn := fun _ => fun
  | [d1, d2, d3] => { results := [.lit (.bool false)], args := [d1, d2, d3] }
  | _ => none }
def StoryLeavesWrongFalsely : Prop := storyLeavesRow.holds Try.pinned (OpenSpec.ofChange storyLeavesWrong)

/-- 'tinkerlaw07.StoryWhos': WHATEVER THE INPUT: true; the input reads as it did. -/
def storyWhosSpec : ChangeSpec := { name := "storyWhos", fn := fun _ => fun
  | [d1, d2, d3] => { results := [.lit (.bool true)], args := [d1, d2, d3] }
  | _ => none }
def storyWhosRow : OpenClaim := { program := "ytikblaebfpdngaa", sum := "c692bd41d3f1e85887393ecfeb839b2439f0447c3a4bd8cd13e9854141e497fd", func := "tinker/tinkerlaw07.StoryWhos", spec := "storyWhos", unfollowed := true, recurses := true, plainKeys := false, apart := false }
def StoryWhosSaid : Prop := storyWhosRow.holds Try.pinned (OpenSpec.ofChange storyWhosSpec)

/-- ITS FALSE NEIGHBOUR: 'it returns false'. Refute it at one input. -/
def storyWhosWrong : ChangeSpec := { name := "storyWhos", fn := fun _ => fun
  | [d1, d2, d3] => { results := [.lit (.bool false)], args := [d1, d2, d3] }
  | _ => none }
def StoryWhosWrongFalsely : Prop := storyWhosRow.holds Try.pinned (OpenSpec.ofChange storyWhosWrong)

/-- 'tinkerlaw07.StorySquashes': WHATEVER THE INPUT: true; the input reads as it did. -/
def storySquashesSpec : ChangeSpec := { name := "storySquashes", fn := fun _ => fun
  | [d1, d2] => { results := [.lit (.bool true)], args := [d1, d2] }
  | _ => none }
def storySquashesRow : OpenClaim := { program := "ytikblaebfpdngaa", sum := "c692bd41d3f1e85887393ecfeb839b2439f0447c3a4bd8cd13e9854141e497fd", func := "tinker/tinkerlaw07.StorySquashes", spec := "storySquashes", unfollowed := true, recurses := true, plainKeys := false, apart := false }
def StorySquashesSaid : Prop := storySquashesRow.holds Try.pinned (OpenSpec.ofChange storySquashesSpec)

/-- ITS FALSE NEIGHBOUR: 'it returns false'. Refute it at one input. -/
def storySquashesWrong : ChangeSpec := { name := "storySquashes", fn := fun _ => fun
  | [d1, d2] => { results := [.lit (.bool false)], args := [d1, d2] }
  | _ => none }
def StorySquashesWrongFalsely : Prop := storySquashesRow.holds Try.pinned (OpenSpec.ofChange storySquashesWrong)

/- THE SECOND FORM. 'bulk': how many values and letters a reading holds, each counted each time it is reached (what is shared counts as often as it is met; a slice's spare places count too). A statement '..UptoSaid' is the law's where the arguments, and the package variables that the reading takes, are together of bulk at most 1048576: NARROWER than '..Said'. Prove '..Said' where nothing that the law and all that it calls make is longer than what came in: it says more and counts as full. Else prove '..UptoSaid'. A law counts once. -/
mutual
def uptoBulk {H : Type} : DataW H → Nat
  | .lit (.string bytes) => bytes.length + 1
  | .lit _ => 1
  | .nil => 1
  | .ptr d => uptoBulk d + 1
  | .slice elems spare => uptoBulkAll elems + uptoBulkAll spare + 1
  | .agg parts => uptoBulkAll parts + 1
  | .iface _ d => uptoBulk d + 1
  | .map entries => uptoBulkEntries entries + 1
  | .held _ => 1
def uptoBulkAll {H : Type} : List (DataW H) → Nat
  | [] => 0
  | d :: r => uptoBulk d + uptoBulkAll r
def uptoBulkEntries {H : Type} : List (Lit × DataW H) → Nat
  | [] => 0
  | x :: r => uptoBulkEntry x + uptoBulkEntries r
def uptoBulkEntry {H : Type} : Lit × DataW H → Nat
  | (.string bytes, d) => bytes.length + uptoBulk d + 1
  | (_, d) => uptoBulk d + 1
 end
def uptoSmall : (H : Type) → List (DataW H) → Bool := fun _ ds => decide (uptoBulkAll ds ≤ 1048576)
def OpenSpec.upto (s : _root_.Go.ChangeSpec) : _root_.Go.OpenSpec := { _root_.Go.OpenSpec.ofChange s with cond := some uptoSmall }

/-- 'tinkerlaw07.StoryPlays', WHERE WHAT IT READS IS OF BULK AT MOST 1048576: true; the input reads as it did. -/
def storyPlaysUptoRow : OpenClaim := { program := "ytikblaebfpdngaa", sum := "c692bd41d3f1e85887393ecfeb839b2439f0447c3a4bd8cd13e9854141e497fd", func := "tinker/tinkerlaw07.StoryPlays", spec := "storyPlays", unfollowed := true, recurses := true, plainKeys := false, apart := false, narrowed := true }
def StoryPlaysUptoSaid : Prop := storyPlaysUptoRow.holds Try.pinned (OpenSpec.upto storyPlaysSpec)

/-- 'tinkerlaw07.StoryNeeds', WHERE WHAT IT READS IS OF BULK AT MOST 1048576: true; the input reads as it did. -/
def storyNeedsUptoRow : OpenClaim := { program := "ytikblaebfpdngaa", sum := "c692bd41d3f1e85887393ecfeb839b2439f0447c3a4bd8cd13e9854141e497fd", func := "tinker/tinkerlaw07.StoryNeeds", spec := "storyNeeds", unfollowed := true, recurses := true, plainKeys := false, apart := false, narrowed := true }
def StoryNeedsUptoSaid : Prop := storyNeedsUptoRow.holds Try.pinned (OpenSpec.upto storyNeedsSpec)

/-- 'tinkerlaw07.StoryMutual', WHERE WHAT IT READS IS OF BULK AT MOST 1048576: true; the input reads as it did. -/
def storyMutualUptoRow : OpenClaim := { program := "ytikblaebfpdngaa", sum := "c692bd41d3f1e85887393ecfeb839b2439f0447c3a4bd8cd13e9854141e497fd", func := "tinker/tinkerlaw07.StoryMutual", spec := "storyMutual", unfollowed := true, recurses := true, plainKeys := false, apart := false, narrowed := true }
def StoryMutualUptoSaid : Prop := storyMutualUptoRow.holds Try.pinned (OpenSpec.upto storyMutualSpec)

/-- 'tinkerlaw07.StoryReverts', WHERE WHAT IT READS IS OF BULK AT MOST 1048576: true; the input reads as it did. -/
def storyRevertsUptoRow : OpenClaim := { program := "ytikblaebfpdngaa", sum := "c692bd41d3f1e85887393ecfeb839b2439f0447c3a4bd8cd13e9854141e497fd", func := "tinker/tinkerlaw07.StoryReverts", spec := "storyReverts", unfollowed := true, recurses := true, plainKeys := false, apart := false, narrowed := true }
def StoryRevertsUptoSaid : Prop := storyRevertsUptoRow.holds Try.pinned (OpenSpec.upto storyRevertsSpec)

/-- 'tinkerlaw07.StoryLeaves', WHERE WHAT IT READS IS OF BULK AT MOST 1048576: true; the input reads as it did. -/
def storyLeavesUptoRow : OpenClaim := { program := "ytikblaebfpdngaa", sum := "c692bd41d3f1e85887393ecfeb839b2439f0447c3a4bd8cd13e9854141e497fd", func := "tinker/tinkerlaw07.StoryLeaves", spec := "storyLeaves", unfollowed := true, recurses := true, plainKeys := false, apart := false, narrowed := true }
def StoryLeavesUptoSaid : Prop := storyLeavesUptoRow.holds Try.pinned (OpenSpec.upto storyLeavesSpec)

/-- 'tinkerlaw07.StoryWhos', WHERE WHAT IT READS IS OF BULK AT MOST 1048576: true; the input reads as it did. -/
def storyWhosUptoRow : OpenClaim := { program := "ytikblaebfpdngaa", sum := "c692bd41d3f1e85887393ecfeb839b2439f0447c3a4bd8cd13e9854141e497fd", func := "tinker/tinkerlaw07.StoryWhos", spec := "storyWhos", unfollowed := true, recurses := true, plainKeys := false, apart := false, narrowed := true }
def StoryWhosUptoSaid : Prop := storyWhosUptoRow.holds Try.pinned (OpenSpec.upto storyWhosSpec)

/-- 'tinkerlaw07.StorySquashes', WHERE WHAT IT READS IS OF BULK AT MOST 1048576: true; the input reads as it did. -/
def storySquashesUptoRow : OpenClaim := { program := "ytikblaebfpdngaa", sum := "c692bd41d3f1e85887393ecfeb839b2439f0447c3a4bd8cd13e9854141e497fd", func := "tinker/tinkerlaw07.StorySquashes", spec := "storySquashes", unfollowed := true, recurses := true, plainKeys := false, apart := false, narrowed := true }
def StorySquashesUptoSaid : Prop := storySquashesUptoRow.holds Try.pinned (OpenSpec.upto storySquashesSpec)

end Rows
end Go.Proofs.Ytikblaebfpdngaa
