/-
  No cell of these rows narrows 'for every input' (looked for: loops, veiled, ifaces, maps, wideKeys, modest, calm, conditions, laid).
  DERIVED. THE GIVEN ROWS OF THIS SEAT. 10 by the template 'for every input the law returns true; each argument reads behind the call as it read before'; 0 by the template 'total and deterministic' (their statements: YtigaklppdlknkaaTotals.lean).
  GIVEN WITH THE SEED: the statements are not yours to turn. If you find one false, say at which input.
  Laid BY PROGRAM, IN A SANDBOX (cutbox-rows.mjs): the forced cells as the released guide's own fill.sh prints them over the translation 5fe33938b5f5e6bd… (all of the seat's roots in one cut). By AI agents, Wed Nov 11 2026. No macro, syntax, notation, axiom, sorry.
-/
import Derived.Test.YtigaklppdlknkaaChecked
import GoSem.Claim
import GoSem.ClaimJoined
import GoSem.ClaimMapViews
import Derived.JoinedTies
import Derived.KernelRfl
namespace Go.Proofs.Ytigaklppdlknkaa
/- THE CELL 'sum', in the pinned program and in every row, IS THE sha256 OF THE DUMP (.gsa) THAT YtigaklppdlknkaaProg.lean LOADS. Nothing in Lean hashes anything: it is a label: what it is worth is what the hold of that sum in a sandbox is worth. -/
noncomputable def Try.pinned : Pinned := { name := "ytigaklppdlknkaa", sum := "5fe33938b5f5e6bdefc8243ccd4792fbbea6bb387632170231c54931b6d6b6f9", checked := Try.checked }
namespace Rows
def none {H : Type} : Left H := { results := [], args := [] }

/-- 'tinkerlaw03.BlameApart': WHATEVER THE INPUT: true; the input reads as it did. -/
def blameApartSpec : ChangeSpec := { name := "blameApart", fn := fun _ => fun
  | [d] => { results := [.lit (.bool true)], args := [d] }
  | _ => none }
def blameApartRow : OpenClaim := { program := "ytigaklppdlknkaa", sum := "5fe33938b5f5e6bdefc8243ccd4792fbbea6bb387632170231c54931b6d6b6f9", func := "tinker/tinkerlaw03.BlameApart", spec := "blameApart", unfollowed := true, recurses := true, plainKeys := false, apart := false }
def BlameApartSaid : Prop := blameApartRow.holds Try.pinned (OpenSpec.ofChange blameApartSpec)

/-- ITS FALSE NEIGHBOUR: 'it returns false'. Refute it at one input. -/
def blameApartWrong : ChangeSpec := { name := "blameApart", fn := fun _ => fun
  | [d] => { results := [.lit (.bool false)], args := [d] }
  | _ => none }
def BlameApartWrongFalsely : Prop := blameApartRow.holds Try.pinned (OpenSpec.ofChange blameApartWrong)

/-- 'tinkerlaw04.PatchDoes': WHATEVER THE INPUT: true; the input reads as it did. -/
def patchDoesSpec : ChangeSpec := { name := "patchDoes", fn := fun _ => fun
  | [d1, d2] => { results := [.lit (.bool true)], args := [d1, d2] }
  | _ => none }
def patchDoesRow : OpenClaim := { program := "ytigaklppdlknkaa", sum := "5fe33938b5f5e6bdefc8243ccd4792fbbea6bb387632170231c54931b6d6b6f9", func := "tinker/tinkerlaw04.PatchDoes", spec := "patchDoes", unfollowed := true, recurses := true, plainKeys := false, apart := false }
def PatchDoesSaid : Prop := patchDoesRow.holds Try.pinned (OpenSpec.ofChange patchDoesSpec)

/-- ITS FALSE NEIGHBOUR: 'it returns false'. Refute it at one input. -/
def patchDoesWrong : ChangeSpec := { name := "patchDoes", fn := fun _ => fun
  | [d1, d2] => { results := [.lit (.bool false)], args := [d1, d2] }
  | _ => none }
def PatchDoesWrongFalsely : Prop := patchDoesRow.holds Try.pinned (OpenSpec.ofChange patchDoesWrong)

/-- 'tinkerlaw04.PatchUndoes': WHATEVER THE INPUT: true; the input reads as it did. -/
def patchUndoesSpec : ChangeSpec := { name := "patchUndoes", fn := fun _ => fun
  | [d1, d2] => { results := [.lit (.bool true)], args := [d1, d2] }
  | _ => none }
def patchUndoesRow : OpenClaim := { program := "ytigaklppdlknkaa", sum := "5fe33938b5f5e6bdefc8243ccd4792fbbea6bb387632170231c54931b6d6b6f9", func := "tinker/tinkerlaw04.PatchUndoes", spec := "patchUndoes", unfollowed := true, recurses := true, plainKeys := false, apart := false }
def PatchUndoesSaid : Prop := patchUndoesRow.holds Try.pinned (OpenSpec.ofChange patchUndoesSpec)

/-- ITS FALSE NEIGHBOUR: 'it returns false'. Refute it at one input. -/
def patchUndoesWrong : ChangeSpec := { name := "patchUndoes", fn := fun _ => fun
  | [d1, d2] => { results := [.lit (.bool false)], args := [d1, d2] }
  | _ => none }
def PatchUndoesWrongFalsely : Prop := patchUndoesRow.holds Try.pinned (OpenSpec.ofChange patchUndoesWrong)

/-- 'tinkerlaw04.PatchDiffers': WHATEVER THE INPUT: true; the input reads as it did. -/
def patchDiffersSpec : ChangeSpec := { name := "patchDiffers", fn := fun _ => fun
  | [d1, d2] => { results := [.lit (.bool true)], args := [d1, d2] }
  | _ => none }
def patchDiffersRow : OpenClaim := { program := "ytigaklppdlknkaa", sum := "5fe33938b5f5e6bdefc8243ccd4792fbbea6bb387632170231c54931b6d6b6f9", func := "tinker/tinkerlaw04.PatchDiffers", spec := "patchDiffers", unfollowed := true, recurses := true, plainKeys := false, apart := false }
def PatchDiffersSaid : Prop := patchDiffersRow.holds Try.pinned (OpenSpec.ofChange patchDiffersSpec)

/-- ITS FALSE NEIGHBOUR: 'it returns false'. Refute it at one input. -/
def patchDiffersWrong : ChangeSpec := { name := "patchDiffers", fn := fun _ => fun
  | [d1, d2] => { results := [.lit (.bool false)], args := [d1, d2] }
  | _ => none }
def PatchDiffersWrongFalsely : Prop := patchDiffersRow.holds Try.pinned (OpenSpec.ofChange patchDiffersWrong)

/-- 'tinkerlaw04.PatchSizes': WHATEVER THE INPUT: true; the input reads as it did. -/
def patchSizesSpec : ChangeSpec := { name := "patchSizes", fn := fun _ => fun
  | [d1, d2] => { results := [.lit (.bool true)], args := [d1, d2] }
  | _ => none }
def patchSizesRow : OpenClaim := { program := "ytigaklppdlknkaa", sum := "5fe33938b5f5e6bdefc8243ccd4792fbbea6bb387632170231c54931b6d6b6f9", func := "tinker/tinkerlaw04.PatchSizes", spec := "patchSizes", unfollowed := true, recurses := true, plainKeys := false, apart := false }
def PatchSizesSaid : Prop := patchSizesRow.holds Try.pinned (OpenSpec.ofChange patchSizesSpec)

/-- ITS FALSE NEIGHBOUR: 'it returns false'. Refute it at one input. -/
def patchSizesWrong : ChangeSpec := { name := "patchSizes", fn := fun _ => fun
  | [d1, d2] => { results := [.lit (.bool false)], args := [d1, d2] }
  | _ => none }
def PatchSizesWrongFalsely : Prop := patchSizesRow.holds Try.pinned (OpenSpec.ofChange patchSizesWrong)

/-- 'tinkerlaw04.PatchThen': WHATEVER THE INPUT: true; the input reads as it did. -/
def patchThenSpec : ChangeSpec := { name := "patchThen", fn := fun _ => fun
  | [d1, d2, d3] => { results := [.lit (.bool true)], args := [d1, d2, d3] }
  | _ => none }
def patchThenRow : OpenClaim := { program := "ytigaklppdlknkaa", sum := "5fe33938b5f5e6bdefc8243ccd4792fbbea6bb387632170231c54931b6d6b6f9", func := "tinker/tinkerlaw04.PatchThen", spec := "patchThen", unfollowed := true, recurses := true, plainKeys := false, apart := false }
def PatchThenSaid : Prop := patchThenRow.holds Try.pinned (OpenSpec.ofChange patchThenSpec)

/-- ITS FALSE NEIGHBOUR: 'it returns false'. Refute it at one input. -/
def patchThenWrong : ChangeSpec := { name := "patchThen", fn := fun _ => fun
  | [d1, d2, d3] => { results := [.lit (.bool false)], args := [d1, d2, d3] }
  | _ => none }
def PatchThenWrongFalsely : Prop := patchThenRow.holds Try.pinned (OpenSpec.ofChange patchThenWrong)

/-- 'tinkerlaw04.PatchMerges': WHATEVER THE INPUT: true; the input reads as it did. -/
def patchMergesSpec : ChangeSpec := { name := "patchMerges", fn := fun _ => fun
  | [d1, d2] => { results := [.lit (.bool true)], args := [d1, d2] }
  | _ => none }
def patchMergesRow : OpenClaim := { program := "ytigaklppdlknkaa", sum := "5fe33938b5f5e6bdefc8243ccd4792fbbea6bb387632170231c54931b6d6b6f9", func := "tinker/tinkerlaw04.PatchMerges", spec := "patchMerges", unfollowed := true, recurses := true, plainKeys := false, apart := false }
def PatchMergesSaid : Prop := patchMergesRow.holds Try.pinned (OpenSpec.ofChange patchMergesSpec)

/-- ITS FALSE NEIGHBOUR: 'it returns false'. Refute it at one input. -/
def patchMergesWrong : ChangeSpec := { name := "patchMerges", fn := fun _ => fun
  | [d1, d2] => { results := [.lit (.bool false)], args := [d1, d2] }
  | _ => none }
def PatchMergesWrongFalsely : Prop := patchMergesRow.holds Try.pinned (OpenSpec.ofChange patchMergesWrong)

/-- 'tinkerlaw04.PatchKeeps': WHATEVER THE INPUT: true; the input reads as it did. -/
def patchKeepsSpec : ChangeSpec := { name := "patchKeeps", fn := fun _ => fun
  | [d1, d2] => { results := [.lit (.bool true)], args := [d1, d2] }
  | _ => none }
def patchKeepsRow : OpenClaim := { program := "ytigaklppdlknkaa", sum := "5fe33938b5f5e6bdefc8243ccd4792fbbea6bb387632170231c54931b6d6b6f9", func := "tinker/tinkerlaw04.PatchKeeps", spec := "patchKeeps", unfollowed := true, recurses := true, plainKeys := false, apart := false }
def PatchKeepsSaid : Prop := patchKeepsRow.holds Try.pinned (OpenSpec.ofChange patchKeepsSpec)

/-- ITS FALSE NEIGHBOUR: 'it returns false'. Refute it at one input. -/
def patchKeepsWrong : ChangeSpec := { name := "patchKeeps", fn := fun _ => fun
  | [d1, d2] => { results := [.lit (.bool false)], args := [d1, d2] }
  | _ => none }
def PatchKeepsWrongFalsely : Prop := patchKeepsRow.holds Try.pinned (OpenSpec.ofChange patchKeepsWrong)

/-- 'tinkerlaw04.PatchThrees': WHATEVER THE INPUT: true; the input reads as it did. -/
def patchThreesSpec : ChangeSpec := { name := "patchThrees", fn := fun _ => fun
  | [d1, d2, d3] => { results := [.lit (.bool true)], args := [d1, d2, d3] }
  | _ => none }
def patchThreesRow : OpenClaim := { program := "ytigaklppdlknkaa", sum := "5fe33938b5f5e6bdefc8243ccd4792fbbea6bb387632170231c54931b6d6b6f9", func := "tinker/tinkerlaw04.PatchThrees", spec := "patchThrees", unfollowed := true, recurses := true, plainKeys := false, apart := false }
def PatchThreesSaid : Prop := patchThreesRow.holds Try.pinned (OpenSpec.ofChange patchThreesSpec)

/-- ITS FALSE NEIGHBOUR: 'it returns false'. Refute it at one input. -/
def patchThreesWrong : ChangeSpec := { name := "patchThrees", fn := fun _ => fun
  | [d1, d2, d3] => { results := [.lit (.bool false)], args := [d1, d2, d3] }
  | _ => none }
def PatchThreesWrongFalsely : Prop := patchThreesRow.holds Try.pinned (OpenSpec.ofChange patchThreesWrong)

/-- 'tinkertop.TopChecks': WHATEVER THE INPUT: true; the input reads as it did. -/
def topChecksSpec : ChangeSpec := { name := "topChecks", fn := fun _ => fun
  | [d1, d2, d3] => { results := [.lit (.bool true)], args := [d1, d2, d3] }
  | _ => none }
def topChecksRow : OpenClaim := { program := "ytigaklppdlknkaa", sum := "5fe33938b5f5e6bdefc8243ccd4792fbbea6bb387632170231c54931b6d6b6f9", func := "tinker/tinkertop.TopChecks", spec := "topChecks", unfollowed := true, recurses := true, plainKeys := false, apart := false }
def TopChecksSaid : Prop := topChecksRow.holds Try.pinned (OpenSpec.ofChange topChecksSpec)

/-- ITS FALSE NEIGHBOUR: 'it returns false'. Refute it at one input. -/
def topChecksWrong : ChangeSpec := { name := "topChecks", fn := fun _ => fun
  | [d1, d2, d3] => { results := [.lit (.bool false)], args := [d1, d2, d3] }
  | _ => none }
def TopChecksWrongFalsely : Prop := topChecksRow.holds Try.pinned (OpenSpec.ofChange topChecksWrong)

/- THE SECOND FORM. 'bulk': how many values and letters a reading holds, each counted each time it is reached (what is shared counts as often as it is met; a slice's spare places count too). A statement '..UptoSaid' is the law's where the arguments, and the package variables that the reading takes, are together of bulk at most 1048576: NARROWER than '..Said'. Prove '..Said' where nothing that the law and all that it calls make is longer than what came in: it says more and counts as full. Else prove '..UptoSaid'. A law counts once. -/
mutual
def uptoBulk {H : Type} : DataW H → Nat
  | .lit (.string bytes) => bytes.length + 1
  | .lit _ => 1
  | .nil => 1
  | .ptr d => uptoBulk d + 1
  | .slice elems spare => uptoBulkAll elems + uptoBulkAll spare + 1
  | .agg parts => uptoBulkAll parts + 1
  | .iface _ d => uptoBulk d + 1
  | .map entries => uptoBulkEntries entries + 1
  | .held _ => 1
def uptoBulkAll {H : Type} : List (DataW H) → Nat
  | [] => 0
  | d :: r => uptoBulk d + uptoBulkAll r
def uptoBulkEntries {H : Type} : List (Lit × DataW H) → Nat
  | [] => 0
  | x :: r => uptoBulkEntry x + uptoBulkEntries r
def uptoBulkEntry {H : Type} : Lit × DataW H → Nat
  | (.string bytes, d) => bytes.length + uptoBulk d + 1
  | (_, d) => uptoBulk d + 1
 end
def uptoSmall : (H : Type) → List (DataW H) → Bool := fun _ ds => decide (uptoBulkAll ds ≤ 1048576)
def OpenSpec.upto (s : _root_.Go.ChangeSpec) : _root_.Go.OpenSpec := { _root_.Go.OpenSpec.ofChange s with cond := some uptoSmall }

/-- 'tinkerlaw03.BlameApart', WHERE WHAT IT READS IS OF BULK AT MOST 1048576: true; the input reads as it did. -/
def blameApartUptoRow : OpenClaim := { program := "ytigaklppdlknkaa", sum := "5fe33938b5f5e6bdefc8243ccd4792fbbea6bb387632170231c54931b6d6b6f9", func := "tinker/tinkerlaw03.BlameApart", spec := "blameApart", unfollowed := true, recurses := true, plainKeys := false, apart := false, narrowed := true }
def BlameApartUptoSaid : Prop := blameApartUptoRow.holds Try.pinned (OpenSpec.upto blameApartSpec)

/-- 'tinkerlaw04.PatchDoes', WHERE WHAT IT READS IS OF BULK AT MOST 1048576: true; the input reads as it did. -/
def patchDoesUptoRow : OpenClaim := { program := "ytigaklppdlknkaa", sum := "5fe33938b5f5e6bdefc8243ccd4792fbbea6bb387632170231c54931b6d6b6f9", func := "tinker/tinkerlaw04.PatchDoes", spec := "patchDoes", unfollowed := true, recurses := true, plainKeys := false, apart := false, narrowed := true }
def PatchDoesUptoSaid : Prop := patchDoesUptoRow.holds Try.pinned (OpenSpec.upto patchDoesSpec)

/-- 'tinkerlaw04.PatchUndoes', WHERE WHAT IT READS IS OF BULK AT MOST 1048576: true; the input reads as it did. -/
def patchUndoesUptoRow : OpenClaim := { program := "ytigaklppdlknkaa", sum := "5fe33938b5f5e6bdefc8243ccd4792fbbea6bb387632170231c54931b6d6b6f9", func := "tinker/tinkerlaw04.PatchUndoes", spec := "patchUndoes", unfollowed := true, recurses := true, plainKeys := false, apart := false, narrowed := true }
def PatchUndoesUptoSaid : Prop := patchUndoesUptoRow.holds Try.pinned (OpenSpec.upto patchUndoesSpec)

/-- 'tinkerlaw04.PatchDiffers', WHERE WHAT IT READS IS OF BULK AT MOST 1048576: true; the input reads as it did. -/
def patchDiffersUptoRow : OpenClaim := { program := "ytigaklppdlknkaa", sum := "5fe33938b5f5e6bdefc8243ccd4792fbbea6bb387632170231c54931b6d6b6f9", func := "tinker/tinkerlaw04.PatchDiffers", spec := "patchDiffers", unfollowed := true, recurses := true, plainKeys := false, apart := false, narrowed := true }
def PatchDiffersUptoSaid : Prop := patchDiffersUptoRow.holds Try.pinned (OpenSpec.upto patchDiffersSpec)

/-- 'tinkerlaw04.PatchSizes', WHERE WHAT IT READS IS OF BULK AT MOST 1048576: true; the input reads as it did. -/
def patchSizesUptoRow : OpenClaim := { program := "ytigaklppdlknkaa", sum := "5fe33938b5f5e6bdefc8243ccd4792fbbea6bb387632170231c54931b6d6b6f9", func := "tinker/tinkerlaw04.PatchSizes", spec := "patchSizes", unfollowed := true, recurses := true, plainKeys := false, apart := false, narrowed := true }
def PatchSizesUptoSaid : Prop := patchSizesUptoRow.holds Try.pinned (OpenSpec.upto patchSizesSpec)

/-- 'tinkerlaw04.PatchThen', WHERE WHAT IT READS IS OF BULK AT MOST 1048576: true; the input reads as it did. -/
def patchThenUptoRow : OpenClaim := { program := "ytigaklppdlknkaa", sum := "5fe33938b5f5e6bdefc8243ccd4792fbbea6bb387632170231c54931b6d6b6f9", func := "tinker/tinkerlaw04.PatchThen", spec := "patchThen", unfollowed := true, recurses := true, plainKeys := false, apart := false, narrowed := true }
def PatchThenUptoSaid : Prop := patchThenUptoRow.holds Try.pinned (OpenSpec.upto patchThenSpec)

/-- 'tinkerlaw04.PatchMerges', WHERE WHAT IT READS IS OF BULK AT MOST 1048576: true; the input reads as it did. -/
def patchMergesUptoRow : OpenClaim := { program := "ytigaklppdlknkaa", sum := "5fe33938b5f5e6bdefc8243ccd4792fbbea6bb387632170231c54931b6d6b6f9", func := "tinker/tinkerlaw04.PatchMerges", spec := "patchMerges", unfollowed := true, recurses := true, plainKeys := false, apart := false, narrowed := true }
def PatchMergesUptoSaid : Prop := patchMergesUptoRow.holds Try.pinned (OpenSpec.upto patchMergesSpec)

/-- 'tinkerlaw04.PatchKeeps', WHERE WHAT IT READS IS OF BULK AT MOST 1048576: true; the input reads as it did. -/
def patchKeepsUptoRow : OpenClaim := { program := "ytigaklppdlknkaa", sum := "5fe33938b5f5e6bdefc8243ccd4792fbbea6bb387632170231c54931b6d6b6f9", func := "tinker/tinkerlaw04.PatchKeeps", spec := "patchKeeps", unfollowed := true, recurses := true, plainKeys := false, apart := false, narrowed := true }
def PatchKeepsUptoSaid : Prop := patchKeepsUptoRow.holds Try.pinned (OpenSpec.upto patchKeepsSpec)

/-- 'tinkerlaw04.PatchThrees', WHERE WHAT IT READS IS OF BULK AT MOST 1048576: true; the input reads as it did. -/
def patchThreesUptoRow : OpenClaim := { program := "ytigaklppdlknkaa", sum := "5fe33938b5f5e6bdefc8243ccd4792fbbea6bb387632170231c54931b6d6b6f9", func := "tinker/tinkerlaw04.PatchThrees", spec := "patchThrees", unfollowed := true, recurses := true, plainKeys := false, apart := false, narrowed := true }
def PatchThreesUptoSaid : Prop := patchThreesUptoRow.holds Try.pinned (OpenSpec.upto patchThreesSpec)

/-- 'tinkertop.TopChecks', WHERE WHAT IT READS IS OF BULK AT MOST 1048576: true; the input reads as it did. -/
def topChecksUptoRow : OpenClaim := { program := "ytigaklppdlknkaa", sum := "5fe33938b5f5e6bdefc8243ccd4792fbbea6bb387632170231c54931b6d6b6f9", func := "tinker/tinkertop.TopChecks", spec := "topChecks", unfollowed := true, recurses := true, plainKeys := false, apart := false, narrowed := true }
def TopChecksUptoSaid : Prop := topChecksUptoRow.holds Try.pinned (OpenSpec.upto topChecksSpec)

end Rows
end Go.Proofs.Ytigaklppdlknkaa
