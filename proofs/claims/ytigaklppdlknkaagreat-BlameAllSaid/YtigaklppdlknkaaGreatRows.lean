/-
  No cell of these rows narrows 'for every input' (looked for: loops, veiled, ifaces, maps, wideKeys, modest, calm, conditions, laid).
  DERIVED. THE GIVEN ROWS OF THIS SEAT. 7 by the template 'for every input the law returns true; each argument reads behind the call as it read before'; 0 by the template 'total and deterministic' (their statements: YtigaklppdlknkaaGreatTotals.lean).
  GIVEN WITH THE SEED: the statements are not yours to turn. If you find one false, say at which input.
  Laid BY PROGRAM, IN A SANDBOX (cutbox-rows.mjs): the forced cells as the released guide's own fill.sh prints them over the translation 1b4065a39a3d0329… (all of the seat's roots in one cut). By AI agents, Wed Nov 11 2026. No macro, syntax, notation, axiom, sorry.
-/
import Derived.Test.YtigaklppdlknkaaGreatChecked
import GoSem.Claim
import GoSem.ClaimJoined
import GoSem.ClaimMapViews
import Derived.JoinedTies
import Derived.KernelRfl
namespace Go.Proofs.YtigaklppdlknkaaGreat
/- THE CELL 'sum', in the pinned program and in every row, IS THE sha256 OF THE DUMP (.gsa) THAT YtigaklppdlknkaaGreatProg.lean LOADS. Nothing in Lean hashes anything: it is a label: what it is worth is what the hold of that sum in a sandbox is worth. -/
noncomputable def Tryz.pinned : Pinned := { name := "ytigaklppdlknkaagreat", sum := "1b4065a39a3d03298d1f77fc080e14d8ac159df5c33bf516466b239982356bea", checked := Tryz.checked }
namespace Rows
def none {H : Type} : Left H := { results := [], args := [] }

/-- 'tinkerlaw03.BlameAll': WHATEVER THE INPUT: true; the input reads as it did. -/
def blameAllSpec : ChangeSpec := { name := "blameAll", fn := fun _ => fun
  | [d1, d2, d3] => { results := [.lit (.bool true)], args := [d1, d2, d3] }
  | _ => none }
def blameAllRow : OpenClaim := { program := "ytigaklppdlknkaagreat", sum := "1b4065a39a3d03298d1f77fc080e14d8ac159df5c33bf516466b239982356bea", func := "tinker/tinkerlaw03.BlameAll", spec := "blameAll", unfollowed := true, recurses := true, plainKeys := false, apart := false }
def BlameAllSaid : Prop := blameAllRow.holds Tryz.pinned (OpenSpec.ofChange blameAllSpec)

/-- ITS FALSE NEIGHBOUR: 'it returns false'. Refute it at one input. -/
def blameAllWrong : ChangeSpec := { name := "blameAll", fn := fun _ => fun
  | [d1, d2, d3] => { results := [.lit (.bool false)], args := [d1, d2, d3] }
  | _ => none }
def BlameAllWrongFalsely : Prop := blameAllRow.holds Tryz.pinned (OpenSpec.ofChange blameAllWrong)

/-- 'tinkerlaw04.PatchFixes': WHATEVER THE INPUT: true; the input reads as it did. -/
def patchFixesSpec : ChangeSpec := { name := "patchFixes", fn := fun _ => fun
  | [d1, d2, d3] => { results := [.lit (.bool true)], args := [d1, d2, d3] }
  | _ => none }
def patchFixesRow : OpenClaim := { program := "ytigaklppdlknkaagreat", sum := "1b4065a39a3d03298d1f77fc080e14d8ac159df5c33bf516466b239982356bea", func := "tinker/tinkerlaw04.PatchFixes", spec := "patchFixes", unfollowed := true, recurses := true, plainKeys := false, apart := false }
def PatchFixesSaid : Prop := patchFixesRow.holds Tryz.pinned (OpenSpec.ofChange patchFixesSpec)

/-- ITS FALSE NEIGHBOUR: 'it returns false'. Refute it at one input. -/
def patchFixesWrong : ChangeSpec := { name := "patchFixes", fn := fun _ => fun
  | [d1, d2, d3] => { results := [.lit (.bool false)], args := [d1, d2, d3] }
  | _ => none }
def PatchFixesWrongFalsely : Prop := patchFixesRow.holds Tryz.pinned (OpenSpec.ofChange patchFixesWrong)

/-- 'tinkerlaw04.PatchGood': WHATEVER THE INPUT: true; the input reads as it did. -/
def patchGoodSpec : ChangeSpec := { name := "patchGood", fn := fun _ => fun
  | [d1, d2, d3] => { results := [.lit (.bool true)], args := [d1, d2, d3] }
  | _ => none }
def patchGoodRow : OpenClaim := { program := "ytigaklppdlknkaagreat", sum := "1b4065a39a3d03298d1f77fc080e14d8ac159df5c33bf516466b239982356bea", func := "tinker/tinkerlaw04.PatchGood", spec := "patchGood", unfollowed := true, recurses := true, plainKeys := false, apart := false }
def PatchGoodSaid : Prop := patchGoodRow.holds Tryz.pinned (OpenSpec.ofChange patchGoodSpec)

/-- ITS FALSE NEIGHBOUR: 'it returns false'. Refute it at one input. -/
def patchGoodWrong : ChangeSpec := { name := "patchGood", fn := fun _ => fun
  | [d1, d2, d3] => { results := [.lit (.bool false)], args := [d1, d2, d3] }
  | _ => none }
def PatchGoodWrongFalsely : Prop := patchGoodRow.holds Tryz.pinned (OpenSpec.ofChange patchGoodWrong)

/-- 'tinkerlaw04.PatchReduces': WHATEVER THE INPUT: true; the input reads as it did. -/
def patchReducesSpec : ChangeSpec := { name := "patchReduces", fn := fun _ => fun
  | [d1, d2, d3] => { results := [.lit (.bool true)], args := [d1, d2, d3] }
  | _ => none }
def patchReducesRow : OpenClaim := { program := "ytigaklppdlknkaagreat", sum := "1b4065a39a3d03298d1f77fc080e14d8ac159df5c33bf516466b239982356bea", func := "tinker/tinkerlaw04.PatchReduces", spec := "patchReduces", unfollowed := true, recurses := true, plainKeys := false, apart := false }
def PatchReducesSaid : Prop := patchReducesRow.holds Tryz.pinned (OpenSpec.ofChange patchReducesSpec)

/-- ITS FALSE NEIGHBOUR: 'it returns false'. Refute it at one input. -/
def patchReducesWrong : ChangeSpec := { name := "patchReduces", fn := fun _ => fun
  | [d1, d2, d3] => { results := [.lit (.bool false)], args := [d1, d2, d3] }
  | _ => none }
def PatchReducesWrongFalsely : Prop := patchReducesRow.holds Tryz.pinned (OpenSpec.ofChange patchReducesWrong)

/-- 'tinkerlaw04.PatchSmallest': WHATEVER THE INPUT: true; the input reads as it did. -/
def patchSmallestSpec : ChangeSpec := { name := "patchSmallest", fn := fun _ => fun
  | [d1, d2, d3] => { results := [.lit (.bool true)], args := [d1, d2, d3] }
  | _ => none }
def patchSmallestRow : OpenClaim := { program := "ytigaklppdlknkaagreat", sum := "1b4065a39a3d03298d1f77fc080e14d8ac159df5c33bf516466b239982356bea", func := "tinker/tinkerlaw04.PatchSmallest", spec := "patchSmallest", unfollowed := true, recurses := true, plainKeys := false, apart := false }
def PatchSmallestSaid : Prop := patchSmallestRow.holds Tryz.pinned (OpenSpec.ofChange patchSmallestSpec)

/-- ITS FALSE NEIGHBOUR: 'it returns false'. Refute it at one input. -/
def patchSmallestWrong : ChangeSpec := { name := "patchSmallest", fn := fun _ => fun
  | [d1, d2, d3] => { results := [.lit (.bool false)], args := [d1, d2, d3] }
  | _ => none }
def PatchSmallestWrongFalsely : Prop := patchSmallestRow.holds Tryz.pinned (OpenSpec.ofChange patchSmallestWrong)

/-- 'tinkertop.TopBlames': WHATEVER THE INPUT: true; the input reads as it did. -/
def topBlamesSpec : ChangeSpec := { name := "topBlames", fn := fun _ => fun
  | [d1, d2] => { results := [.lit (.bool true)], args := [d1, d2] }
  | _ => none }
def topBlamesRow : OpenClaim := { program := "ytigaklppdlknkaagreat", sum := "1b4065a39a3d03298d1f77fc080e14d8ac159df5c33bf516466b239982356bea", func := "tinker/tinkertop.TopBlames", spec := "topBlames", unfollowed := true, recurses := true, plainKeys := false, apart := false }
def TopBlamesSaid : Prop := topBlamesRow.holds Tryz.pinned (OpenSpec.ofChange topBlamesSpec)

/-- ITS FALSE NEIGHBOUR: 'it returns false'. Refute it at one input. -/
def topBlamesWrong : ChangeSpec := { name := "topBlames", fn := fun _ => fun
  | [d1, d2] => { results := [.lit (.bool false)], args := [d1, d2] }
  | _ => none }
def TopBlamesWrongFalsely : Prop := topBlamesRow.holds Tryz.pinned (OpenSpec.ofChange topBlamesWrong)

/-- 'tinkertop.TopPatches': WHATEVER THE INPUT: true; the input reads as it did. -/
def topPatchesSpec : ChangeSpec := { name := "topPatches", fn := fun _ => fun
  | [d1, d2, d3] => { results := [.lit (.bool true)], args := [d1, d2, d3] }
  | _ => none }
def topPatchesRow : OpenClaim := { program := "ytigaklppdlknkaagreat", sum := "1b4065a39a3d03298d1f77fc080e14d8ac159df5c33bf516466b239982356bea", func := "tinker/tinkertop.TopPatches", spec := "topPatches", unfollowed := true, recurses := true, plainKeys := false, apart := false }
def TopPatchesSaid : Prop := topPatchesRow.holds Tryz.pinned (OpenSpec.ofChange topPatchesSpec)

/-- ITS FALSE NEIGHBOUR: 'it returns false'. Refute it at one input. -/
def topPatchesWrong : ChangeSpec := { name := "topPatches", fn := fun _ => fun
  | [d1, d2, d3] => { results := [.lit (.bool false)], args := [d1, d2, d3] }
  | _ => none }
def TopPatchesWrongFalsely : Prop := topPatchesRow.holds Tryz.pinned (OpenSpec.ofChange topPatchesWrong)

/- THE SECOND FORM. 'bulk': how many values and letters a reading holds, each counted each time it is reached (what is shared counts as often as it is met; a slice's spare places count too). A statement '..UptoSaid' is the law's where the arguments, and the package variables that the reading takes, are together of bulk at most 1048576: NARROWER than '..Said'. Prove '..Said' where nothing that the law and all that it calls make is longer than what came in: it says more and counts as full. Else prove '..UptoSaid'. A law counts once. -/
mutual
def uptoBulk {H : Type} : DataW H → Nat
  | .lit (.string bytes) => bytes.length + 1
  | .lit _ => 1
  | .nil => 1
  | .ptr d => uptoBulk d + 1
  | .slice elems spare => uptoBulkAll elems + uptoBulkAll spare + 1
  | .agg parts => uptoBulkAll parts + 1
  | .iface _ d => uptoBulk d + 1
  | .map entries => uptoBulkEntries entries + 1
  | .held _ => 1
def uptoBulkAll {H : Type} : List (DataW H) → Nat
  | [] => 0
  | d :: r => uptoBulk d + uptoBulkAll r
def uptoBulkEntries {H : Type} : List (Lit × DataW H) → Nat
  | [] => 0
  | x :: r => uptoBulkEntry x + uptoBulkEntries r
def uptoBulkEntry {H : Type} : Lit × DataW H → Nat
  | (.string bytes, d) => bytes.length + uptoBulk d + 1
  | (_, d) => uptoBulk d + 1
 end
def uptoSmall : (H : Type) → List (DataW H) → Bool := fun _ ds => decide (uptoBulkAll ds ≤ 1048576)
def OpenSpec.upto (s : _root_.Go.ChangeSpec) : _root_.Go.OpenSpec := { _root_.Go.OpenSpec.ofChange s with cond := some uptoSmall }

/-- 'tinkerlaw03.BlameAll', WHERE WHAT IT READS IS OF BULK AT MOST 1048576: true; the input reads as it did. -/
def blameAllUptoRow : OpenClaim := { program := "ytigaklppdlknkaagreat", sum := "1b4065a39a3d03298d1f77fc080e14d8ac159df5c33bf516466b239982356bea", func := "tinker/tinkerlaw03.BlameAll", spec := "blameAll", unfollowed := true, recurses := true, plainKeys := false, apart := false, narrowed := true }
def BlameAllUptoSaid : Prop := blameAllUptoRow.holds Tryz.pinned (OpenSpec.upto blameAllSpec)

/-- 'tinkerlaw04.PatchFixes', WHERE WHAT IT READS IS OF BULK AT MOST 1048576: true; the input reads as it did. -/
def patchFixesUptoRow : OpenClaim := { program := "ytigaklppdlknkaagreat", sum := "1b4065a39a3d03298d1f77fc080e14d8ac159df5c33bf516466b239982356bea", func := "tinker/tinkerlaw04.PatchFixes", spec := "patchFixes", unfollowed := true, recurses := true, plainKeys := false, apart := false, narrowed := true }
def PatchFixesUptoSaid : Prop := patchFixesUptoRow.holds Tryz.pinned (OpenSpec.upto patchFixesSpec)

/-- 'tinkerlaw04.PatchGood', WHERE WHAT IT READS IS OF BULK AT MOST 1048576: true; the input reads as it did. -/
def patchGoodUptoRow : OpenClaim := { program := "ytigaklppdlknkaagreat", sum := "1b4065a39a3d03298d1f77fc080e14d8ac159df5c33bf516466b239982356bea", func := "tinker/tinkerlaw04.PatchGood", spec := "patchGood", unfollowed := true, recurses := true, plainKeys := false, apart := false, narrowed := true }
def PatchGoodUptoSaid : Prop := patchGoodUptoRow.holds Tryz.pinned (OpenSpec.upto patchGoodSpec)

/-- 'tinkerlaw04.PatchReduces', WHERE WHAT IT READS IS OF BULK AT MOST 1048576: true; the input reads as it did. -/
def patchReducesUptoRow : OpenClaim := { program := "ytigaklppdlknkaagreat", sum := "1b4065a39a3d03298d1f77fc080e14d8ac159df5c33bf516466b239982356bea", func := "tinker/tinkerlaw04.PatchReduces", spec := "patchReduces", unfollowed := true, recurses := true, plainKeys := false, apart := false, narrowed := true }
def PatchReducesUptoSaid : Prop := patchReducesUptoRow.holds Tryz.pinned (OpenSpec.upto patchReducesSpec)

/-- 'tinkerlaw04.PatchSmallest', WHERE WHAT IT READS IS OF BULK AT MOST 1048576: true; the input reads as it did. -/
def patchSmallestUptoRow : OpenClaim := { program := "ytigaklppdlknkaagreat", sum := "1b4065a39a3d03298d1f77fc080e14d8ac159df5c33bf516466b239982356bea", func := "tinker/tinkerlaw04.PatchSmallest", spec := "patchSmallest", unfollowed := true, recurses := true, plainKeys := false, apart := false, narrowed := true }
def PatchSmallestUptoSaid : Prop := patchSmallestUptoRow.holds Tryz.pinned (OpenSpec.upto patchSmallestSpec)

/-- 'tinkertop.TopBlames', WHERE WHAT IT READS IS OF BULK AT MOST 1048576: true; the input reads as it did. -/
def topBlamesUptoRow : OpenClaim := { program := "ytigaklppdlknkaagreat", sum := "1b4065a39a3d03298d1f77fc080e14d8ac159df5c33bf516466b239982356bea", func := "tinker/tinkertop.TopBlames", spec := "topBlames", unfollowed := true, recurses := true, plainKeys := false, apart := false, narrowed := true }
def TopBlamesUptoSaid : Prop := topBlamesUptoRow.holds Tryz.pinned (OpenSpec.upto topBlamesSpec)

/-- 'tinkertop.TopPatches', WHERE WHAT IT READS IS OF BULK AT MOST 1048576: true; the input reads as it did. -/
def topPatchesUptoRow : OpenClaim := { program := "ytigaklppdlknkaagreat", sum := "1b4065a39a3d03298d1f77fc080e14d8ac159df5c33bf516466b239982356bea", func := "tinker/tinkertop.TopPatches", spec := "topPatches", unfollowed := true, recurses := true, plainKeys := false, apart := false, narrowed := true }
def TopPatchesUptoSaid : Prop := topPatchesUptoRow.holds Tryz.pinned (OpenSpec.upto topPatchesSpec)

end Rows
end Go.Proofs.YtigaklppdlknkaaGreat
