/-
  No cell of these rows narrows 'for every input' (looked for: loops, veiled, ifaces, maps, wideKeys, modest, calm, conditions, laid).
  DERIVED. THE GIVEN ROWS OF THIS SEAT. 5 by the template 'for every input the law returns true; each argument reads behind the call as it read before'; 0 by the template 'total and deterministic' (their statements: YtjciojoeifekeaaGreatTotals.lean).
  GIVEN WITH THE SEED: the statements are not yours to turn. If you find one false, say at which input.
  Laid BY PROGRAM, IN A SANDBOX (cutbox-rows.mjs): the forced cells as the released guide's own fill.sh prints them over the translation 34a17605fdc19f79… (all of the seat's roots in one cut). By AI agents, Wed Nov 11 2026. No macro, syntax, notation, axiom, sorry.
-/
import Derived.Test.YtjciojoeifekeaaGreatChecked
import GoSem.Claim
import GoSem.ClaimJoined
import GoSem.ClaimMapViews
import Derived.JoinedTies
import Derived.KernelRfl
namespace Go.Proofs.YtjciojoeifekeaaGreat
/- THE CELL 'sum', in the pinned program and in every row, IS THE sha256 OF THE DUMP (.gsa) THAT YtjciojoeifekeaaGreatProg.lean LOADS. Nothing in Lean hashes anything: it is a label: what it is worth is what the hold of that sum in a sandbox is worth. -/
noncomputable def Tryz.pinned : Pinned := { name := "ytjciojoeifekeaagreat", sum := "34a17605fdc19f798ab5c9f46d335eb686dd37066e0df8d91005ee51acfe650a", checked := Tryz.checked }
namespace Rows
def none {H : Type} : Left H := { results := [], args := [] }

/-- 'tinkerlaw05.SeekTemplates': WHATEVER THE INPUT: true; the input reads as it did. -/
def seekTemplatesSpec : ChangeSpec := { name := "seekTemplates", fn := fun _ => fun
  | [d1, d2] => { results := [.lit (.bool true)], args := [d1, d2] }
  | _ => none }
def seekTemplatesRow : OpenClaim := { program := "ytjciojoeifekeaagreat", sum := "34a17605fdc19f798ab5c9f46d335eb686dd37066e0df8d91005ee51acfe650a", func := "tinker/tinkerlaw05.SeekTemplates", spec := "seekTemplates", unfollowed := true, recurses := true, apart := false }
def SeekTemplatesSaid : Prop := seekTemplatesRow.holds Tryz.pinned (OpenSpec.ofChange seekTemplatesSpec)

/-- ITS FALSE NEIGHBOUR: 'it returns false'. Refute it at one input. -/
def seekTemplatesWrong : ChangeSpec := { name := "seekTemplates", fn := fun _ => fun
  | [d1, d2] => { results := [.lit (.bool false)], args := [d1, d2] }
  | _ => none }
def SeekTemplatesWrongFalsely : Prop := seekTemplatesRow.holds Tryz.pinned (OpenSpec.ofChange seekTemplatesWrong)

/-- 'tinkerlaw05.SeekFixes': WHATEVER THE INPUT: true; the input reads as it did. -/
def seekFixesSpec : ChangeSpec := { name := "seekFixes", fn := fun _ => fun
  | [d1, d2, d3] => { results := [.lit (.bool true)], args := [d1, d2, d3] }
  | _ => none }
def seekFixesRow : OpenClaim := { program := "ytjciojoeifekeaagreat", sum := "34a17605fdc19f798ab5c9f46d335eb686dd37066e0df8d91005ee51acfe650a", func := "tinker/tinkerlaw05.SeekFixes", spec := "seekFixes", unfollowed := true, recurses := true, apart := false }
def SeekFixesSaid : Prop := seekFixesRow.holds Tryz.pinned (OpenSpec.ofChange seekFixesSpec)

/-- ITS FALSE NEIGHBOUR: 'it returns false'. Refute it at one input. -/
def seekFixesWrong : ChangeSpec := { name := "seekFixes", fn := fun _ => fun
  | [d1, d2, d3] => { results := [.lit (.bool false)], args := [d1, d2, d3] }
  | _ => none }
def SeekFixesWrongFalsely : Prop := seekFixesRow.holds Tryz.pinned (OpenSpec.ofChange seekFixesWrong)

/-- 'tinkerlaw05.SeekCounts': WHATEVER THE INPUT: true; the input reads as it did. -/
def seekCountsSpec : ChangeSpec := { name := "seekCounts", fn := fun _ => fun
  | [d1, d2, d3] => { results := [.lit (.bool true)], args := [d1, d2, d3] }
  | _ => none }
def seekCountsRow : OpenClaim := { program := "ytjciojoeifekeaagreat", sum := "34a17605fdc19f798ab5c9f46d335eb686dd37066e0df8d91005ee51acfe650a", func := "tinker/tinkerlaw05.SeekCounts", spec := "seekCounts", unfollowed := true, recurses := true, apart := false }
def SeekCountsSaid : Prop := seekCountsRow.holds Tryz.pinned (OpenSpec.ofChange seekCountsSpec)

/-- ITS FALSE NEIGHBOUR: 'it returns false'. Refute it at one input. -/
def seekCountsWrong : ChangeSpec := { name := "seekCounts", fn := fun _ => fun
  | [d1, d2, d3] => { results := [.lit (.bool false)], args := [d1, d2, d3] }
  | _ => none }
def SeekCountsWrongFalsely : Prop := seekCountsRow.holds Tryz.pinned (OpenSpec.ofChange seekCountsWrong)

/-- 'tinkerlaw05.SeekSingles': WHATEVER THE INPUT: true; the input reads as it did. -/
def seekSinglesSpec : ChangeSpec := { name := "seekSingles", fn := fun _ => fun
  | [d1, d2, d3] => { results := [.lit (.bool true)], args := [d1, d2, d3] }
  | _ => none }
def seekSinglesRow : OpenClaim := { program := "ytjciojoeifekeaagreat", sum := "34a17605fdc19f798ab5c9f46d335eb686dd37066e0df8d91005ee51acfe650a", func := "tinker/tinkerlaw05.SeekSingles", spec := "seekSingles", unfollowed := true, recurses := true, apart := false }
def SeekSinglesSaid : Prop := seekSinglesRow.holds Tryz.pinned (OpenSpec.ofChange seekSinglesSpec)

/-- ITS FALSE NEIGHBOUR: 'it returns false'. Refute it at one input. -/
def seekSinglesWrong : ChangeSpec := { name := "seekSingles", fn := fun _ => fun
  | [d1, d2, d3] => { results := [.lit (.bool false)], args := [d1, d2, d3] }
  | _ => none }
def SeekSinglesWrongFalsely : Prop := seekSinglesRow.holds Tryz.pinned (OpenSpec.ofChange seekSinglesWrong)

/-- 'tinkerlaw05.SeekMutants': WHATEVER THE INPUT: true; the input reads as it did. -/
def seekMutantsSpec : ChangeSpec := { name := "seekMutants", fn := fun _ => fun
  | [d1, d2, d3] => { results := [.lit (.bool true)], args := [d1, d2, d3] }
  | _ => none }
def seekMutantsRow : OpenClaim := { program := "ytjciojoeifekeaagreat", sum := "34a17605fdc19f798ab5c9f46d335eb686dd37066e0df8d91005ee51acfe650a", func := "tinker/tinkerlaw05.SeekMutants", spec := "seekMutants", unfollowed := true, recurses := true, apart := false }
def SeekMutantsSaid : Prop := seekMutantsRow.holds Tryz.pinned (OpenSpec.ofChange seekMutantsSpec)

/-- ITS FALSE NEIGHBOUR: 'it returns false'. Refute it at one input. -/
def seekMutantsWrong : ChangeSpec := { name := "seekMutants", fn := fun _ => fun
  | [d1, d2, d3] => { results := [.lit (.bool false)], args := [d1, d2, d3] }
  | _ => none }
def SeekMutantsWrongFalsely : Prop := seekMutantsRow.holds Tryz.pinned (OpenSpec.ofChange seekMutantsWrong)

/- THE SECOND FORM. 'bulk': how many values and letters a reading holds, each counted each time it is reached (what is shared counts as often as it is met; a slice's spare places count too). A statement '..UptoSaid' is the law's where the arguments, and the package variables that the reading takes, are together of bulk at most 1048576: NARROWER than '..Said'. Prove '..Said' where nothing that the law and all that it calls make is longer than what came in: it says more and counts as full. Else prove '..UptoSaid'. A law counts once. -/
mutual
def uptoBulk {H : Type} : DataW H → Nat
  | .lit (.string bytes) => bytes.length + 1
  | .lit _ => 1
  | .nil => 1
  | .ptr d => uptoBulk d + 1
  | .slice elems spare => uptoBulkAll elems + uptoBulkAll spare + 1
  | .agg parts => uptoBulkAll parts + 1
  | .iface _ d => uptoBulk d + 1
  | .map entries => uptoBulkEntries entries + 1
  | .held _ => 1
def uptoBulkAll {H : Type} : List (DataW H) → Nat
  | [] => 0
  | d :: r => uptoBulk d + uptoBulkAll r
def uptoBulkEntries {H : Type} : List (Lit × DataW H) → Nat
  | [] => 0
  | x :: r => uptoBulkEntry x + uptoBulkEntries r
def uptoBulkEntry {H : Type} : Lit × DataW H → Nat
  | (.string bytes, d) => bytes.length + uptoBulk d + 1
  | (_, d) => uptoBulk d + 1
 end
def uptoSmall : (H : Type) → List (DataW H) → Bool := fun _ ds => decide (uptoBulkAll ds ≤ 1048576)
def OpenSpec.upto (s : _root_.Go.ChangeSpec) : _root_.Go.OpenSpec := { _root_.Go.OpenSpec.ofChange s with cond := some uptoSmall }

/-- 'tinkerlaw05.SeekTemplates', WHERE WHAT IT READS IS OF BULK AT MOST 1048576: true; the input reads as it did. -/
def seekTemplatesUptoRow : OpenClaim := { program := "ytjciojoeifekeaagreat", sum := "34a17605fdc19f798ab5c9f46d335eb686dd37066e0df8d91005ee51acfe650a", func := "tinker/tinkerlaw05.SeekTemplates", spec := "seekTemplates", unfollowed := true, recurses := true, apart := false, narrowed := true }
def SeekTemplatesUptoSaid : Prop := seekTemplatesUptoRow.holds Tryz.pinned (OpenSpec.upto seekTemplatesSpec)

/-- 'tinkerlaw05.SeekFixes', WHERE WHAT IT READS IS OF BULK AT MOST 1048576: true; the input reads as it did. -/
def seekFixesUptoRow : OpenClaim := { program := "ytjciojoeifekeaagreat", sum := "34a17605fdc19f798ab5c9f46d335eb686dd37066e0df8d91005ee51acfe650a", func := "tinker/tinkerlaw05.SeekFixes", spec := "seekFixes", unfollowed := true, recurses := true, apart := false, narrowed := true }
def SeekFixesUptoSaid : Prop := seekFixesUptoRow.holds Tryz.pinned (OpenSpec.upto seekFixesSpec)

/-- 'tinkerlaw05.SeekCounts', WHERE WHAT IT READS IS OF BULK AT MOST 1048576: true; the input reads as it did. -/
def seekCountsUptoRow : OpenClaim := { program := "ytjciojoeifekeaagreat", sum := "34a17605fdc19f798ab5c9f46d335eb686dd37066e0df8d91005ee51acfe650a", func := "tinker/tinkerlaw05.SeekCounts", spec := "seekCounts", unfollowed := true, recurses := true, apart := false, narrowed := true }
def SeekCountsUptoSaid : Prop := seekCountsUptoRow.holds Tryz.pinned (OpenSpec.upto seekCountsSpec)

/-- 'tinkerlaw05.SeekSingles', WHERE WHAT IT READS IS OF BULK AT MOST 1048576: true; the input reads as it did. -/
def seekSinglesUptoRow : OpenClaim := { program := "ytjciojoeifekeaagreat", sum := "34a17605fdc19f798ab5c9f46d335eb686dd37066e0df8d91005ee51acfe650a", func := "tinker/tinkerlaw05.SeekSingles", spec := "seekSingles", unfollowed := true, recurses := true, apart := false, narrowed := true }
def SeekSinglesUptoSaid : Prop := seekSinglesUptoRow.holds Tryz.pinned (OpenSpec.upto seekSinglesSpec)

/-- 'tinkerlaw05.SeekMutants', WHERE WHAT IT READS IS OF BULK AT MOST 1048576: true; the input reads as it did. -/
def seekMutantsUptoRow : OpenClaim := { program := "ytjciojoeifekeaagreat", sum := "34a17605fdc19f798ab5c9f46d335eb686dd37066e0df8d91005ee51acfe650a", func := "tinker/tinkerlaw05.SeekMutants", spec := "seekMutants", unfollowed := true, recurses := true, apart := false, narrowed := true }
def SeekMutantsUptoSaid : Prop := seekMutantsUptoRow.holds Tryz.pinned (OpenSpec.upto seekMutantsSpec)

end Rows
end Go.Proofs.YtjciojoeifekeaaGreat
