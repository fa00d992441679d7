/-
  No cell of these rows narrows 'for every input' (looked for: loops, veiled, ifaces, maps, wideKeys, modest, calm, conditions, laid).
  DERIVED. THE GIVEN ROWS OF THIS SEAT. 16 by the template 'for every input the law returns true; each argument reads behind the call as it read before'; 0 by the template 'total and deterministic' (their statements: YtkakdkolankmpaaGreatTotals.lean).
  GIVEN WITH THE SEED: the statements are not yours to turn. If you find one false, say at which input.
  Laid BY PROGRAM, IN A SANDBOX (cutbox-rows.mjs): the forced cells as the released guide's own fill.sh prints them over the translation 24c9d45abd388c48… (all of the seat's roots in one cut). By AI agents, Wed Nov 11 2026. No macro, syntax, notation, axiom, sorry.
-/
import Derived.Test.YtkakdkolankmpaaGreatChecked
import GoSem.Claim
import GoSem.ClaimJoined
import GoSem.ClaimMapViews
import Derived.JoinedTies
import Derived.KernelRfl
namespace Go.Proofs.YtkakdkolankmpaaGreat
/- THE CELL 'sum', in the pinned program and in every row, IS THE sha256 OF THE DUMP (.gsa) THAT YtkakdkolankmpaaGreatProg.lean LOADS. Nothing in Lean hashes anything: it is a label: what it is worth is what the hold of that sum in a sandbox is worth. -/
noncomputable def Tryz.pinned : Pinned := { name := "ytkakdkolankmpaagreat", sum := "24c9d45abd388c48a309b3302cb4fcb6a4992ec5e0ca88f261656e99011ca521", checked := Tryz.checked }
namespace Rows
def none {H : Type} : Left H := { results := [], args := [] }

/-- 'tinkerlaw04.PatchFixes': WHATEVER THE INPUT: true; the input reads as it did. -/
def patchFixesSpec : ChangeSpec := { name := "patchFixes", fn := fun _ => fun
  | [d1, d2, d3] => { results := [.lit (.bool true)], args := [d1, d2, d3] }
  | _ => none }
def patchFixesRow : OpenClaim := { program := "ytkakdkolankmpaagreat", sum := "24c9d45abd388c48a309b3302cb4fcb6a4992ec5e0ca88f261656e99011ca521", func := "tinker/tinkerlaw04.PatchFixes", spec := "patchFixes", unfollowed := true, recurses := true, plainKeys := false, apart := false }
def PatchFixesSaid : Prop := patchFixesRow.holds Tryz.pinned (OpenSpec.ofChange patchFixesSpec)

/-- ITS FALSE NEIGHBOUR: 'it returns false'. Refute it at one input. -/
def patchFixesWrong : ChangeSpec := { name := "patchFixes", fn := fun _ => fun
  | [d1, d2, d3] => { results := [.lit (.bool false)], args := [d1, d2, d3] }
  | _ => none }
def PatchFixesWrongFalsely : Prop := patchFixesRow.holds Tryz.pinned (OpenSpec.ofChange patchFixesWrong)

/-- 'tinkerlaw04.PatchGood': WHATEVER THE INPUT: true; the input reads as it did. -/
def patchGoodSpec : ChangeSpec := { name := "patchGood", fn := fun _ => fun
  | [d1, d2, d3] => { results := [.lit (.bool true)], args := [d1, d2, d3] }
  | _ => none }
def patchGoodRow : OpenClaim := { program := "ytkakdkolankmpaagreat", sum := "24c9d45abd388c48a309b3302cb4fcb6a4992ec5e0ca88f261656e99011ca521", func := "tinker/tinkerlaw04.PatchGood", spec := "patchGood", unfollowed := true, recurses := true, plainKeys := false, apart := false }
def PatchGoodSaid : Prop := patchGoodRow.holds Tryz.pinned (OpenSpec.ofChange patchGoodSpec)

/-- ITS FALSE NEIGHBOUR: 'it returns false'. Refute it at one input. -/
def patchGoodWrong : ChangeSpec := { name := "patchGood", fn := fun _ => fun
  | [d1, d2, d3] => { results := [.lit (.bool false)], args := [d1, d2, d3] }
  | _ => none }
def PatchGoodWrongFalsely : Prop := patchGoodRow.holds Tryz.pinned (OpenSpec.ofChange patchGoodWrong)

/-- 'tinkerlaw04.PatchReduces': WHATEVER THE INPUT: true; the input reads as it did. -/
def patchReducesSpec : ChangeSpec := { name := "patchReduces", fn := fun _ => fun
  | [d1, d2, d3] => { results := [.lit (.bool true)], args := [d1, d2, d3] }
  | _ => none }
def patchReducesRow : OpenClaim := { program := "ytkakdkolankmpaagreat", sum := "24c9d45abd388c48a309b3302cb4fcb6a4992ec5e0ca88f261656e99011ca521", func := "tinker/tinkerlaw04.PatchReduces", spec := "patchReduces", unfollowed := true, recurses := true, plainKeys := false, apart := false }
def PatchReducesSaid : Prop := patchReducesRow.holds Tryz.pinned (OpenSpec.ofChange patchReducesSpec)

/-- ITS FALSE NEIGHBOUR: 'it returns false'. Refute it at one input. -/
def patchReducesWrong : ChangeSpec := { name := "patchReduces", fn := fun _ => fun
  | [d1, d2, d3] => { results := [.lit (.bool false)], args := [d1, d2, d3] }
  | _ => none }
def PatchReducesWrongFalsely : Prop := patchReducesRow.holds Tryz.pinned (OpenSpec.ofChange patchReducesWrong)

/-- 'tinkerlaw04.PatchSmallest': WHATEVER THE INPUT: true; the input reads as it did. -/
def patchSmallestSpec : ChangeSpec := { name := "patchSmallest", fn := fun _ => fun
  | [d1, d2, d3] => { results := [.lit (.bool true)], args := [d1, d2, d3] }
  | _ => none }
def patchSmallestRow : OpenClaim := { program := "ytkakdkolankmpaagreat", sum := "24c9d45abd388c48a309b3302cb4fcb6a4992ec5e0ca88f261656e99011ca521", func := "tinker/tinkerlaw04.PatchSmallest", spec := "patchSmallest", unfollowed := true, recurses := true, plainKeys := false, apart := false }
def PatchSmallestSaid : Prop := patchSmallestRow.holds Tryz.pinned (OpenSpec.ofChange patchSmallestSpec)

/-- ITS FALSE NEIGHBOUR: 'it returns false'. Refute it at one input. -/
def patchSmallestWrong : ChangeSpec := { name := "patchSmallest", fn := fun _ => fun
  | [d1, d2, d3] => { results := [.lit (.bool false)], args := [d1, d2, d3] }
  | _ => none }
def PatchSmallestWrongFalsely : Prop := patchSmallestRow.holds Tryz.pinned (OpenSpec.ofChange patchSmallestWrong)

/-- 'tinkerlaw05.SeekTemplates': WHATEVER THE INPUT: true; the input reads as it did. -/
def seekTemplatesSpec : ChangeSpec := { name := "seekTemplates", fn := fun _ => fun
  | [d1, d2] => { results := [.lit (.bool true)], args := [d1, d2] }
  | _ => none }
def seekTemplatesRow : OpenClaim := { program := "ytkakdkolankmpaagreat", sum := "24c9d45abd388c48a309b3302cb4fcb6a4992ec5e0ca88f261656e99011ca521", func := "tinker/tinkerlaw05.SeekTemplates", spec := "seekTemplates", unfollowed := true, recurses := true, plainKeys := false, apart := false }
def SeekTemplatesSaid : Prop := seekTemplatesRow.holds Tryz.pinned (OpenSpec.ofChange seekTemplatesSpec)

/-- ITS FALSE NEIGHBOUR: 'it returns false'. Refute it at one input. -/
def seekTemplatesWrong : ChangeSpec := { name := "seekTemplates", fn := fun _ => fun
  | [d1, d2] => { results := [.lit (.bool false)], args := [d1, d2] }
  | _ => none }
def SeekTemplatesWrongFalsely : Prop := seekTemplatesRow.holds Tryz.pinned (OpenSpec.ofChange seekTemplatesWrong)

/-- 'tinkerlaw05.SeekFixes': WHATEVER THE INPUT: true; the input reads as it did. -/
def seekFixesSpec : ChangeSpec := { name := "seekFixes", fn := fun _ => fun
  | [d1, d2, d3] => { results := [.lit (.bool true)], args := [d1, d2, d3] }
  | _ => none }
def seekFixesRow : OpenClaim := { program := "ytkakdkolankmpaagreat", sum := "24c9d45abd388c48a309b3302cb4fcb6a4992ec5e0ca88f261656e99011ca521", func := "tinker/tinkerlaw05.SeekFixes", spec := "seekFixes", unfollowed := true, recurses := true, plainKeys := false, apart := false }
def SeekFixesSaid : Prop := seekFixesRow.holds Tryz.pinned (OpenSpec.ofChange seekFixesSpec)

/-- ITS FALSE NEIGHBOUR: 'it returns false'. Refute it at one input. -/
def seekFixesWrong : ChangeSpec := { name := "seekFixes", fn := fun _ => fun
  | [d1, d2, d3] => { results := [.lit (.bool false)], args := [d1, d2, d3] }
  | _ => none }
def SeekFixesWrongFalsely : Prop := seekFixesRow.holds Tryz.pinned (OpenSpec.ofChange seekFixesWrong)

/-- 'tinkerlaw05.SeekCounts': WHATEVER THE INPUT: true; the input reads as it did. -/
def seekCountsSpec : ChangeSpec := { name := "seekCounts", fn := fun _ => fun
  | [d1, d2, d3] => { results := [.lit (.bool true)], args := [d1, d2, d3] }
  | _ => none }
def seekCountsRow : OpenClaim := { program := "ytkakdkolankmpaagreat", sum := "24c9d45abd388c48a309b3302cb4fcb6a4992ec5e0ca88f261656e99011ca521", func := "tinker/tinkerlaw05.SeekCounts", spec := "seekCounts", unfollowed := true, recurses := true, plainKeys := false, apart := false }
def SeekCountsSaid : Prop := seekCountsRow.holds Tryz.pinned (OpenSpec.ofChange seekCountsSpec)

/-- ITS FALSE NEIGHBOUR: 'it returns false'. Refute it at one input. -/
def seekCountsWrong : ChangeSpec := { name := "seekCounts", fn := fun _ => fun
  | [d1, d2, d3] => { results := [.lit (.bool false)], args := [d1, d2, d3] }
  | _ => none }
def SeekCountsWrongFalsely : Prop := seekCountsRow.holds Tryz.pinned (OpenSpec.ofChange seekCountsWrong)

/-- 'tinkerlaw05.SeekSingles': WHATEVER THE INPUT: true; the input reads as it did. -/
def seekSinglesSpec : ChangeSpec := { name := "seekSingles", fn := fun _ => fun
  | [d1, d2, d3] => { results := [.lit (.bool true)], args := [d1, d2, d3] }
  | _ => none }
def seekSinglesRow : OpenClaim := { program := "ytkakdkolankmpaagreat", sum := "24c9d45abd388c48a309b3302cb4fcb6a4992ec5e0ca88f261656e99011ca521", func := "tinker/tinkerlaw05.SeekSingles", spec := "seekSingles", unfollowed := true, recurses := true, plainKeys := false, apart := false }
def SeekSinglesSaid : Prop := seekSinglesRow.holds Tryz.pinned (OpenSpec.ofChange seekSinglesSpec)

/-- ITS FALSE NEIGHBOUR: 'it returns false'. Refute it at one input. -/
def seekSinglesWrong : ChangeSpec := { name := "seekSingles", fn := fun _ => fun
  | [d1, d2, d3] => { results := [.lit (.bool false)], args := [d1, d2, d3] }
  | _ => none }
def SeekSinglesWrongFalsely : Prop := seekSinglesRow.holds Tryz.pinned (OpenSpec.ofChange seekSinglesWrong)

/-- 'tinkerlaw05.SeekDoubles': WHATEVER THE INPUT: true; the input reads as it did. -/
def seekDoublesSpec : ChangeSpec := { name := "seekDoubles", fn := fun _ => fun
  | [d1, d2] => { results := [.lit (.bool true)], args := [d1, d2] }
  | _ => none }
def seekDoublesRow : OpenClaim := { program := "ytkakdkolankmpaagreat", sum := "24c9d45abd388c48a309b3302cb4fcb6a4992ec5e0ca88f261656e99011ca521", func := "tinker/tinkerlaw05.SeekDoubles", spec := "seekDoubles", unfollowed := true, recurses := true, plainKeys := false, apart := false }
def SeekDoublesSaid : Prop := seekDoublesRow.holds Tryz.pinned (OpenSpec.ofChange seekDoublesSpec)

/-- ITS FALSE NEIGHBOUR: 'it returns false'. Refute it at one input. -/
def seekDoublesWrong : ChangeSpec := { name := "seekDoubles", fn := fun _ => fun
  | [d1, d2] => { results := [.lit (.bool false)], args := [d1, d2] }
  | _ => none }
def SeekDoublesWrongFalsely : Prop := seekDoublesRow.holds Tryz.pinned (OpenSpec.ofChange seekDoublesWrong)

/-- 'tinkerlaw05.SeekRepairs': WHATEVER THE INPUT: true; the input reads as it did. -/
def seekRepairsSpec : ChangeSpec := { name := "seekRepairs", fn := fun _ => fun
  | [d1, d2] => { results := [.lit (.bool true)], args := [d1, d2] }
  | _ => none }
def seekRepairsRow : OpenClaim := { program := "ytkakdkolankmpaagreat", sum := "24c9d45abd388c48a309b3302cb4fcb6a4992ec5e0ca88f261656e99011ca521", func := "tinker/tinkerlaw05.SeekRepairs", spec := "seekRepairs", unfollowed := true, recurses := true, plainKeys := false, apart := false }
def SeekRepairsSaid : Prop := seekRepairsRow.holds Tryz.pinned (OpenSpec.ofChange seekRepairsSpec)

/-- ITS FALSE NEIGHBOUR: 'it returns false'. Refute it at one input. -/
def seekRepairsWrong : ChangeSpec := { name := "seekRepairs", fn := fun _ => fun
  | [d1, d2] => { results := [.lit (.bool false)], args := [d1, d2] }
  | _ => none }
def SeekRepairsWrongFalsely : Prop := seekRepairsRow.holds Tryz.pinned (OpenSpec.ofChange seekRepairsWrong)

/-- 'tinkerlaw05.SeekMutants': WHATEVER THE INPUT: true; the input reads as it did. -/
def seekMutantsSpec : ChangeSpec := { name := "seekMutants", fn := fun _ => fun
  | [d1, d2, d3] => { results := [.lit (.bool true)], args := [d1, d2, d3] }
  | _ => none }
def seekMutantsRow : OpenClaim := { program := "ytkakdkolankmpaagreat", sum := "24c9d45abd388c48a309b3302cb4fcb6a4992ec5e0ca88f261656e99011ca521", func := "tinker/tinkerlaw05.SeekMutants", spec := "seekMutants", unfollowed := true, recurses := true, plainKeys := false, apart := false }
def SeekMutantsSaid : Prop := seekMutantsRow.holds Tryz.pinned (OpenSpec.ofChange seekMutantsSpec)

/-- ITS FALSE NEIGHBOUR: 'it returns false'. Refute it at one input. -/
def seekMutantsWrong : ChangeSpec := { name := "seekMutants", fn := fun _ => fun
  | [d1, d2, d3] => { results := [.lit (.bool false)], args := [d1, d2, d3] }
  | _ => none }
def SeekMutantsWrongFalsely : Prop := seekMutantsRow.holds Tryz.pinned (OpenSpec.ofChange seekMutantsWrong)

/-- 'tinkerlaw05.SeekScores': WHATEVER THE INPUT: true; the input reads as it did. -/
def seekScoresSpec : ChangeSpec := { name := "seekScores", fn := fun _ => fun
  | [d1, d2] => { results := [.lit (.bool true)], args := [d1, d2] }
  | _ => none }
def seekScoresRow : OpenClaim := { program := "ytkakdkolankmpaagreat", sum := "24c9d45abd388c48a309b3302cb4fcb6a4992ec5e0ca88f261656e99011ca521", func := "tinker/tinkerlaw05.SeekScores", spec := "seekScores", unfollowed := true, recurses := true, plainKeys := false, apart := false }
def SeekScoresSaid : Prop := seekScoresRow.holds Tryz.pinned (OpenSpec.ofChange seekScoresSpec)

/-- ITS FALSE NEIGHBOUR: 'it returns false'. Refute it at one input. -/
def seekScoresWrong : ChangeSpec := { name := "seekScores", fn := fun _ => fun
  | [d1, d2] => { results := [.lit (.bool false)], args := [d1, d2] }
  | _ => none }
def SeekScoresWrongFalsely : Prop := seekScoresRow.holds Tryz.pinned (OpenSpec.ofChange seekScoresWrong)

/-- 'tinkerlaw05.SeekEnoughs': WHATEVER THE INPUT: true; the input reads as it did. -/
def seekEnoughsSpec : ChangeSpec := { name := "seekEnoughs", fn := fun _ => fun
  | [d1, d2] => { results := [.lit (.bool true)], args := [d1, d2] }
  | _ => none }
def seekEnoughsRow : OpenClaim := { program := "ytkakdkolankmpaagreat", sum := "24c9d45abd388c48a309b3302cb4fcb6a4992ec5e0ca88f261656e99011ca521", func := "tinker/tinkerlaw05.SeekEnoughs", spec := "seekEnoughs", unfollowed := true, recurses := true, plainKeys := false, apart := false }
def SeekEnoughsSaid : Prop := seekEnoughsRow.holds Tryz.pinned (OpenSpec.ofChange seekEnoughsSpec)

/-- ITS FALSE NEIGHBOUR: 'it returns false'. Refute it at one input. -/
def seekEnoughsWrong : ChangeSpec := { name := "seekEnoughs", fn := fun _ => fun
  | [d1, d2] => { results := [.lit (.bool false)], args := [d1, d2] }
  | _ => none }
def SeekEnoughsWrongFalsely : Prop := seekEnoughsRow.holds Tryz.pinned (OpenSpec.ofChange seekEnoughsWrong)

/-- 'tinkertop.TopBlames': WHATEVER THE INPUT: true; the input reads as it did. -/
def topBlamesSpec : ChangeSpec := { name := "topBlames", fn := fun _ => fun
  | [d1, d2] => { results := [.lit (.bool true)], args := [d1, d2] }
  | _ => none }
def topBlamesRow : OpenClaim := { program := "ytkakdkolankmpaagreat", sum := "24c9d45abd388c48a309b3302cb4fcb6a4992ec5e0ca88f261656e99011ca521", func := "tinker/tinkertop.TopBlames", spec := "topBlames", unfollowed := true, recurses := true, plainKeys := false, apart := false }
def TopBlamesSaid : Prop := topBlamesRow.holds Tryz.pinned (OpenSpec.ofChange topBlamesSpec)

/-- ITS FALSE NEIGHBOUR: 'it returns false'. Refute it at one input. -/
def topBlamesWrong : ChangeSpec := { name := "topBlames", fn := fun _ => fun
  | [d1, d2] => { results := [.lit (.bool false)], args := [d1, d2] }
  | _ => none }
def TopBlamesWrongFalsely : Prop := topBlamesRow.holds Tryz.pinned (OpenSpec.ofChange topBlamesWrong)

/-- 'tinkertop.TopPatches': WHATEVER THE INPUT: true; the input reads as it did. -/
def topPatchesSpec : ChangeSpec := { name := "topPatches", fn := fun _ => fun
  | [d1, d2, d3] => { results := [.lit (.bool true)], args := [d1, d2, d3] }
  | _ => none }
def topPatchesRow : OpenClaim := { program := "ytkakdkolankmpaagreat", sum := "24c9d45abd388c48a309b3302cb4fcb6a4992ec5e0ca88f261656e99011ca521", func := "tinker/tinkertop.TopPatches", spec := "topPatches", unfollowed := true, recurses := true, plainKeys := false, apart := false }
def TopPatchesSaid : Prop := topPatchesRow.holds Tryz.pinned (OpenSpec.ofChange topPatchesSpec)

/-- ITS FALSE NEIGHBOUR: 'it returns false'. Refute it at one input. -/
def topPatchesWrong : ChangeSpec := { name := "topPatches", fn := fun _ => fun
  | [d1, d2, d3] => { results := [.lit (.bool false)], args := [d1, d2, d3] }
  | _ => none }
def TopPatchesWrongFalsely : Prop := topPatchesRow.holds Tryz.pinned (OpenSpec.ofChange topPatchesWrong)

/-- 'tinkertop.TopSeeks': WHATEVER THE INPUT: true; the input reads as it did. -/
def topSeeksSpec : ChangeSpec := { name := "topSeeks", fn := fun _ => fun
  | [d1, d2] => { results := [.lit (.bool true)], args := [d1, d2] }
  | _ => none }
def topSeeksRow : OpenClaim := { program := "ytkakdkolankmpaagreat", sum := "24c9d45abd388c48a309b3302cb4fcb6a4992ec5e0ca88f261656e99011ca521", func := "tinker/tinkertop.TopSeeks", spec := "topSeeks", unfollowed := true, recurses := true, plainKeys := false, apart := false }
def TopSeeksSaid : Prop := topSeeksRow.holds Tryz.pinned (OpenSpec.ofChange topSeeksSpec)

/-- ITS FALSE NEIGHBOUR: 'it returns false'. Refute it at one input. -/
def topSeeksWrong : ChangeSpec := { name := "topSeeks", fn := fun _ => fun
  | [d1, d2] => { results := [.lit (.bool false)], args := [d1, d2] }
  | _ => none }
def TopSeeksWrongFalsely : Prop := topSeeksRow.holds Tryz.pinned (OpenSpec.ofChange topSeeksWrong)

/- THE SECOND FORM. 'bulk': how many values and letters a reading holds, each counted each time it is reached (what is shared counts as often as it is met; a slice's spare places count too). A statement '..UptoSaid' is the law's where the arguments, and the package variables that the reading takes, are together of bulk at most 1048576: NARROWER than '..Said'. Prove '..Said' where nothing that the law and all that it calls make is longer than what came in: it says more and counts as full. Else prove '..UptoSaid'. A law counts once. -/
mutual
def uptoBulk {H : Type} : DataW H → Nat
  | .lit (.string bytes) => bytes.length + 1
  | .lit _ => 1
  | .nil => 1
  | .ptr d => uptoBulk d + 1
  | .slice elems spare => uptoBulkAll elems + uptoBulkAll spare + 1
  | .agg parts => uptoBulkAll parts + 1
  | .iface _ d => uptoBulk d + 1
  | .map entries => uptoBulkEntries entries + 1
  | .held _ => 1
def uptoBulkAll {H : Type} : List (DataW H) → Nat
  | [] => 0
  | d :: r => uptoBulk d + uptoBulkAll r
def uptoBulkEntries {H : Type} : List (Lit × DataW H) → Nat
  | [] => 0
  | x :: r => uptoBulkEntry x + uptoBulkEntries r
def uptoBulkEntry {H : Type} : Lit × DataW H → Nat
  | (.string bytes, d) => bytes.length + uptoBulk d + 1
  | (_, d) => uptoBulk d + 1
 end
def uptoSmall : (H : Type) → List (DataW H) → Bool := fun _ ds => decide (uptoBulkAll ds ≤ 1048576)
def OpenSpec.upto (s : _root_.Go.ChangeSpec) : _root_.Go.OpenSpec := { _root_.Go.OpenSpec.ofChange s with cond := some uptoSmall }

/-- 'tinkerlaw04.PatchFixes', WHERE WHAT IT READS IS OF BULK AT MOST 1048576: true; the input reads as it did. -/
def patchFixesUptoRow : OpenClaim := { program := "ytkakdkolankmpaagreat", sum := "24c9d45abd388c48a309b3302cb4fcb6a4992ec5e0ca88f261656e99011ca521", func := "tinker/tinkerlaw04.PatchFixes", spec := "patchFixes", unfollowed := true, recurses := true, plainKeys := false, apart := false, narrowed := true }
def PatchFixesUptoSaid : Prop := patchFixesUptoRow.holds Tryz.pinned (OpenSpec.upto patchFixesSpec)

/-- 'tinkerlaw04.PatchGood', WHERE WHAT IT READS IS OF BULK AT MOST 1048576: true; the input reads as it did. -/
def patchGoodUptoRow : OpenClaim := { program := "ytkakdkolankmpaagreat", sum := "24c9d45abd388c48a309b3302cb4fcb6a4992ec5e0ca88f261656e99011ca521", func := "tinker/tinkerlaw04.PatchGood", spec := "patchGood", unfollowed := true, recurses := true, plainKeys := false, apart := false, narrowed := true }
def PatchGoodUptoSaid : Prop := patchGoodUptoRow.holds Tryz.pinned (OpenSpec.upto patchGoodSpec)

/-- 'tinkerlaw04.PatchReduces', WHERE WHAT IT READS IS OF BULK AT MOST 1048576: true; the input reads as it did. -/
def patchReducesUptoRow : OpenClaim := { program := "ytkakdkolankmpaagreat", sum := "24c9d45abd388c48a309b3302cb4fcb6a4992ec5e0ca88f261656e99011ca521", func := "tinker/tinkerlaw04.PatchReduces", spec := "patchReduces", unfollowed := true, recurses := true, plainKeys := false, apart := false, narrowed := true }
def PatchReducesUptoSaid : Prop := patchReducesUptoRow.holds Tryz.pinned (OpenSpec.upto patchReducesSpec)

/-- 'tinkerlaw04.PatchSmallest', WHERE WHAT IT READS IS OF BULK AT MOST 1048576: true; the input reads as it did. -/
def patchSmallestUptoRow : OpenClaim := { program := "ytkakdkolankmpaagreat", sum := "24c9d45abd388c48a309b3302cb4fcb6a4992ec5e0ca88f261656e99011ca521", func := "tinker/tinkerlaw04.PatchSmallest", spec := "patchSmallest", unfollowed := true, recurses := true, plainKeys := false, apart := false, narrowed := true }
def PatchSmallestUptoSaid : Prop := patchSmallestUptoRow.holds Tryz.pinned (OpenSpec.upto patchSmallestSpec)

/-- 'tinkerlaw05.SeekTemplates', WHERE WHAT IT READS IS OF BULK AT MOST 1048576: true; the input reads as it did. -/
def seekTemplatesUptoRow : OpenClaim := { program := "ytkakdkolankmpaagreat", sum := "24c9d45abd388c48a309b3302cb4fcb6a4992ec5e0ca88f261656e99011ca521", func := "tinker/tinkerlaw05.SeekTemplates", spec := "seekTemplates", unfollowed := true, recurses := true, plainKeys := false, apart := false, narrowed := true }
def SeekTemplatesUptoSaid : Prop := seekTemplatesUptoRow.holds Tryz.pinned (OpenSpec.upto seekTemplatesSpec)

/-- 'tinkerlaw05.SeekFixes', WHERE WHAT IT READS IS OF BULK AT MOST 1048576: true; the input reads as it did. -/
def seekFixesUptoRow : OpenClaim := { program := "ytkakdkolankmpaagreat", sum := "24c9d45abd388c48a309b3302cb4fcb6a4992ec5e0ca88f261656e99011ca521", func := "tinker/tinkerlaw05.SeekFixes", spec := "seekFixes", unfollowed := true, recurses := true, plainKeys := false, apart := false, narrowed := true }
def SeekFixesUptoSaid : Prop := seekFixesUptoRow.holds Tryz.pinned (OpenSpec.upto seekFixesSpec)

/-- 'tinkerlaw05.SeekCounts', WHERE WHAT IT READS IS OF BULK AT MOST 1048576: true; the input reads as it did. -/
def seekCountsUptoRow : OpenClaim := { program := "ytkakdkolankmpaagreat", sum := "24c9d45abd388c48a309b3302cb4fcb6a4992ec5e0ca88f261656e99011ca521", func := "tinker/tinkerlaw05.SeekCounts", spec := "seekCounts", unfollowed := true, recurses := true, plainKeys := false, apart := false, narrowed := true }
def SeekCountsUptoSaid : Prop := seekCountsUptoRow.holds Tryz.pinned (OpenSpec.upto seekCountsSpec)

/-- 'tinkerlaw05.SeekSingles', WHERE WHAT IT READS IS OF BULK AT MOST 1048576: true; the input reads as it did. -/
def seekSinglesUptoRow : OpenClaim := { program := "ytkakdkolankmpaagreat", sum := "24c9d45abd388c48a309b3302cb4fcb6a4992ec5e0ca88f261656e99011ca521", func := "tinker/tinkerlaw05.SeekSingles", spec := "seekSingles", unfollowed := true, recurses := true, plainKeys := false, apart := false, narrowed := true }
def SeekSinglesUptoSaid : Prop := seekSinglesUptoRow.holds Tryz.pinned (OpenSpec.upto seekSinglesSpec)

/-- 'tinkerlaw05.SeekDoubles', WHERE WHAT IT READS IS OF BULK AT MOST 1048576: true; the input reads as it did. -/
def seekDoublesUptoRow : OpenClaim := { program := "ytkakdkolankmpaagreat", sum := "24c9d45abd388c48a309b3302cb4fcb6a4992ec5e0ca88f261656e99011ca521", func := "tinker/tinkerlaw05.SeekDoubles", spec := "seekDoubles", unfollowed := true, recurses := true, plainKeys := false, apart := false, narrowed := true }
def SeekDoublesUptoSaid : Prop := seekDoublesUptoRow.holds Tryz.pinned (OpenSpec.upto seekDoublesSpec)

/-- 'tinkerlaw05.SeekRepairs', WHERE WHAT IT READS IS OF BULK AT MOST 1048576: true; the input reads as it did. -/
def seekRepairsUptoRow : OpenClaim := { program := "ytkakdkolankmpaagreat", sum := "24c9d45abd388c48a309b3302cb4fcb6a4992ec5e0ca88f261656e99011ca521", func := "tinker/tinkerlaw05.SeekRepairs", spec := "seekRepairs", unfollowed := true, recurses := true, plainKeys := false, apart := false, narrowed := true }
def SeekRepairsUptoSaid : Prop := seekRepairsUptoRow.holds Tryz.pinned (OpenSpec.upto seekRepairsSpec)

/-- 'tinkerlaw05.SeekMutants', WHERE WHAT IT READS IS OF BULK AT MOST 1048576: true; the input reads as it did. -/
def seekMutantsUptoRow : OpenClaim := { program := "ytkakdkolankmpaagreat", sum := "24c9d45abd388c48a309b3302cb4fcb6a4992ec5e0ca88f261656e99011ca521", func := "tinker/tinkerlaw05.SeekMutants", spec := "seekMutants", unfollowed := true, recurses := true, plainKeys := false, apart := false, narrowed := true }
def SeekMutantsUptoSaid : Prop := seekMutantsUptoRow.holds Tryz.pinned (OpenSpec.upto seekMutantsSpec)

/-- 'tinkerlaw05.SeekScores', WHERE WHAT IT READS IS OF BULK AT MOST 1048576: true; the input reads as it did. -/
def seekScoresUptoRow : OpenClaim := { program := "ytkakdkolankmpaagreat", sum := "24c9d45abd388c48a309b3302cb4fcb6a4992ec5e0ca88f261656e99011ca521", func := "tinker/tinkerlaw05.SeekScores", spec := "seekScores", unfollowed := true, recurses := true, plainKeys := false, apart := false, narrowed := true }
def SeekScoresUptoSaid : Prop := seekScoresUptoRow.holds Tryz.pinned (OpenSpec.upto seekScoresSpec)

/-- 'tinkerlaw05.SeekEnoughs', WHERE WHAT IT READS IS OF BULK AT MOST 1048576: true; the input reads as it did. -/
def seekEnoughsUptoRow : OpenClaim := { program := "ytkakdkolankmpaagreat", sum := "24c9d45abd388c48a309b3302cb4fcb6a4992ec5e0ca88f261656e99011ca521", func := "tinker/tinkerlaw05.SeekEnoughs", spec := "seekEnoughs", unfollowed := true, recurses := true, plainKeys := false, apart := false, narrowed := true }
def SeekEnoughsUptoSaid : Prop := seekEnoughsUptoRow.holds Tryz.pinned (OpenSpec.upto seekEnoughsSpec)

/-- 'tinkertop.TopBlames', WHERE WHAT IT READS IS OF BULK AT MOST 1048576: true; the input reads as it did. -/
def topBlamesUptoRow : OpenClaim := { program := "ytkakdkolankmpaagreat", sum := "24c9d45abd388c48a309b3302cb4fcb6a4992ec5e0ca88f261656e99011ca521", func := "tinker/tinkertop.TopBlames", spec := "topBlames", unfollowed := true, recurses := true, plainKeys := false, apart := false, narrowed := true }
def TopBlamesUptoSaid : Prop := topBlamesUptoRow.holds Tryz.pinned (OpenSpec.upto topBlamesSpec)

/-- 'tinkertop.TopPatches', WHERE WHAT IT READS IS OF BULK AT MOST 1048576: true; the input reads as it did. -/
def topPatchesUptoRow : OpenClaim := { program := "ytkakdkolankmpaagreat", sum := "24c9d45abd388c48a309b3302cb4fcb6a4992ec5e0ca88f261656e99011ca521", func := "tinker/tinkertop.TopPatches", spec := "topPatches", unfollowed := true, recurses := true, plainKeys := false, apart := false, narrowed := true }
def TopPatchesUptoSaid : Prop := topPatchesUptoRow.holds Tryz.pinned (OpenSpec.upto topPatchesSpec)

/-- 'tinkertop.TopSeeks', WHERE WHAT IT READS IS OF BULK AT MOST 1048576: true; the input reads as it did. -/
def topSeeksUptoRow : OpenClaim := { program := "ytkakdkolankmpaagreat", sum := "24c9d45abd388c48a309b3302cb4fcb6a4992ec5e0ca88f261656e99011ca521", func := "tinker/tinkertop.TopSeeks", spec := "topSeeks", unfollowed := true, recurses := true, plainKeys := false, apart := false, narrowed := true }
def TopSeeksUptoSaid : Prop := topSeeksUptoRow.holds Tryz.pinned (OpenSpec.upto topSeeksSpec)

end Rows
end Go.Proofs.YtkakdkolankmpaaGreat
