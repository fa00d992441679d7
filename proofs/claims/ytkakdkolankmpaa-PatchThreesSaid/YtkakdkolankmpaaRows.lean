/-
  No cell of these rows narrows 'for every input' (looked for: loops, veiled, ifaces, maps, wideKeys, modest, calm, conditions, laid).
  DERIVED. THE GIVEN ROWS OF THIS SEAT. 6 by the template 'for every input the law returns true; each argument reads behind the call as it read before'; 0 by the template 'total and deterministic' (their statements: YtkakdkolankmpaaTotals.lean).
  GIVEN WITH THE SEED: the statements are not yours to turn. If you find one false, say at which input.
  Laid BY PROGRAM, IN A SANDBOX (cutbox-rows.mjs): the forced cells as the released guide's own fill.sh prints them over the translation e9a457e4b7afc2b2… (all of the seat's roots in one cut). By AI agents, Wed Nov 11 2026. No macro, syntax, notation, axiom, sorry.
-/
import Derived.Test.YtkakdkolankmpaaChecked
import GoSem.Claim
import GoSem.ClaimJoined
import GoSem.ClaimMapViews
import Derived.JoinedTies
import Derived.KernelRfl
namespace Go.Proofs.Ytkakdkolankmpaa
/- THE CELL 'sum', in the pinned program and in every row, IS THE sha256 OF THE DUMP (.gsa) THAT YtkakdkolankmpaaProg.lean LOADS. Nothing in Lean hashes anything: it is a label: what it is worth is what the hold of that sum in a sandbox is worth. -/
noncomputable def Try.pinned : Pinned := { name := "ytkakdkolankmpaa", sum := "e9a457e4b7afc2b2e71e44aa7ba2ade0c79bf9fab4d687078b323661df21d2db", checked := Try.checked }
namespace Rows
def none {H : Type} : Left H := { results := [], args := [] }

/-- 'tinkerlaw03.BlameApart': WHATEVER THE INPUT: true; the input reads as it did. -/
def blameApartSpec : ChangeSpec := { name := "blameApart", fn := fun _ => fun
  | [d] => { results := [.lit (.bool true)], args := [d] }
  | _ => none }
def blameApartRow : OpenClaim := { program := "ytkakdkolankmpaa", sum := "e9a457e4b7afc2b2e71e44aa7ba2ade0c79bf9fab4d687078b323661df21d2db", func := "tinker/tinkerlaw03.BlameApart", spec := "blameApart", unfollowed := true, recurses := true, plainKeys := false, apart := false }
def BlameApartSaid : Prop := blameApartRow.holds Try.pinned (OpenSpec.ofChange blameApartSpec)

/-- ITS FALSE NEIGHBOUR: 'it returns false'. Refute it at one input. -/
def blameApartWrong : ChangeSpec := { name := "blameApart", fn := fun _ => fun
  | [d] => { results := [.lit (.bool false)], args := [d] }
  | _ => none }
def BlameApartWrongFalsely : Prop := blameApartRow.holds Try.pinned (OpenSpec.ofChange blameApartWrong)

/-- 'tinkerlaw04.PatchThrees': WHATEVER THE INPUT: true; the input reads as it did. -/
def patchThreesSpec : ChangeSpec := { name := "patchThrees", fn := fun _ => fun
  | [d1, d2, d3] => { results := [.lit (.bool true)], args := [d1, d2, d3] }
  | _ => none }
def patchThreesRow : OpenClaim := { program := "ytkakdkolankmpaa", sum := "e9a457e4b7afc2b2e71e44aa7ba2ade0c79bf9fab4d687078b323661df21d2db", func := "tinker/tinkerlaw04.PatchThrees", spec := "patchThrees", unfollowed := true, recurses := true, plainKeys := false, apart := false }
def PatchThreesSaid : Prop := patchThreesRow.holds Try.pinned (OpenSpec.ofChange patchThreesSpec)

/-- ITS FALSE NEIGHBOUR: 'it returns false'. Refute it at one input. -/
def patchThreesWrong : ChangeSpec := { name := "patchThrees", fn := fun _ => fun
  | [d1, d2, d3] => { results := [.lit (.bool false)], args := [d1, d2, d3] }
  | _ => none }
def PatchThreesWrongFalsely : Prop := patchThreesRow.holds Try.pinned (OpenSpec.ofChange patchThreesWrong)

/-- 'tinkerlaw05.SeekNears': WHATEVER THE INPUT: true; the input reads as it did. -/
def seekNearsSpec : ChangeSpec := { name := "seekNears", fn := fun _ => fun
  | [d1, d2] => { results := [.lit (.bool true)], args := [d1, d2] }
  | _ => none }
def seekNearsRow : OpenClaim := { program := "ytkakdkolankmpaa", sum := "e9a457e4b7afc2b2e71e44aa7ba2ade0c79bf9fab4d687078b323661df21d2db", func := "tinker/tinkerlaw05.SeekNears", spec := "seekNears", unfollowed := true, recurses := true, plainKeys := false, apart := false }
def SeekNearsSaid : Prop := seekNearsRow.holds Try.pinned (OpenSpec.ofChange seekNearsSpec)

/-- ITS FALSE NEIGHBOUR: 'it returns false'. Refute it at one input. -/
def seekNearsWrong : ChangeSpec := { name := "seekNears", fn := fun _ => fun
  | [d1, d2] => { results := [.lit (.bool false)], args := [d1, d2] }
  | _ => none }
def SeekNearsWrongFalsely : Prop := seekNearsRow.holds Try.pinned (OpenSpec.ofChange seekNearsWrong)

/-- 'tinkerlaw05.SeekAlls': WHATEVER THE INPUT: true; the input reads as it did. -/
def seekAllsSpec : ChangeSpec := { name := "seekAlls", fn := fun _ => fun
  | [d] => { results := [.lit (.bool true)], args := [d] }
  | _ => none }
def seekAllsRow : OpenClaim := { program := "ytkakdkolankmpaa", sum := "e9a457e4b7afc2b2e71e44aa7ba2ade0c79bf9fab4d687078b323661df21d2db", func := "tinker/tinkerlaw05.SeekAlls", spec := "seekAlls", unfollowed := true, recurses := true, plainKeys := false, apart := false }
def SeekAllsSaid : Prop := seekAllsRow.holds Try.pinned (OpenSpec.ofChange seekAllsSpec)

/-- ITS FALSE NEIGHBOUR: 'it returns false'. Refute it at one input. -/
def seekAllsWrong : ChangeSpec := { name := "seekAlls", fn := fun _ => fun
  | [d] => { results := [.lit (.bool false)], args := [d] }
  | _ => none }
def SeekAllsWrongFalsely : Prop := seekAllsRow.holds Try.pinned (OpenSpec.ofChange seekAllsWrong)

/-- 'tinkerlaw05.SeekCandidates': WHATEVER THE INPUT: true; the input reads as it did. -/
def seekCandidatesSpec : ChangeSpec := { name := "seekCandidates", fn := fun _ => fun
  | [d1, d2] => { results := [.lit (.bool true)], args := [d1, d2] }
  | _ => none }
def seekCandidatesRow : OpenClaim := { program := "ytkakdkolankmpaa", sum := "e9a457e4b7afc2b2e71e44aa7ba2ade0c79bf9fab4d687078b323661df21d2db", func := "tinker/tinkerlaw05.SeekCandidates", spec := "seekCandidates", unfollowed := true, recurses := true, plainKeys := false, apart := false }
def SeekCandidatesSaid : Prop := seekCandidatesRow.holds Try.pinned (OpenSpec.ofChange seekCandidatesSpec)

/-- ITS FALSE NEIGHBOUR: 'it returns false'. Refute it at one input. -/
def seekCandidatesWrong : ChangeSpec := { name := "seekCandidates", fn := fun _ => fun
  | [d1, d2] => { results := [.lit (.bool false)], args := [d1, d2] }
  | _ => none }
def SeekCandidatesWrongFalsely : Prop := seekCandidatesRow.holds Try.pinned (OpenSpec.ofChange seekCandidatesWrong)

/-- 'tinkertop.TopChecks': WHATEVER THE INPUT: true; the input reads as it did. -/
def topChecksSpec : ChangeSpec := { name := "topChecks", fn := fun _ => fun
  | [d1, d2, d3] => { results := [.lit (.bool true)], args := [d1, d2, d3] }
  | _ => none }
def topChecksRow : OpenClaim := { program := "ytkakdkolankmpaa", sum := "e9a457e4b7afc2b2e71e44aa7ba2ade0c79bf9fab4d687078b323661df21d2db", func := "tinker/tinkertop.TopChecks", spec := "topChecks", unfollowed := true, recurses := true, plainKeys := false, apart := false }
def TopChecksSaid : Prop := topChecksRow.holds Try.pinned (OpenSpec.ofChange topChecksSpec)

/-- ITS FALSE NEIGHBOUR: 'it returns false'. Refute it at one input. -/
def topChecksWrong : ChangeSpec := { name := "topChecks", fn := fun _ => fun
  | [d1, d2, d3] => { results := [.lit (.bool false)], args := [d1, d2, d3] }
  | _ => none }
def TopChecksWrongFalsely : Prop := topChecksRow.holds Try.pinned (OpenSpec.ofChange topChecksWrong)

/- THE SECOND FORM. 'bulk': how many values and letters a reading holds, each counted each time it is reached (what is shared counts as often as it is met; a slice's spare places count too). A statement '..UptoSaid' is the law's where the arguments, and the package variables that the reading takes, are together of bulk at most 1048576: NARROWER than '..Said'. Prove '..Said' where nothing that the law and all that it calls make is longer than what came in: it says more and counts as full. Else prove '..UptoSaid'. A law counts once. -/
mutual
def uptoBulk {H : Type} : DataW H → Nat
  | .lit (.string bytes) => bytes.length + 1
  | .lit _ => 1
  | .nil => 1
  | .ptr d => uptoBulk d + 1
  | .slice elems spare => uptoBulkAll elems + uptoBulkAll spare + 1
  | .agg parts => uptoBulkAll parts + 1
  | .iface _ d => uptoBulk d + 1
  | .map entries => uptoBulkEntries entries + 1
  | .held _ => 1
def uptoBulkAll {H : Type} : List (DataW H) → Nat
  | [] => 0
  | d :: r => uptoBulk d + uptoBulkAll r
def uptoBulkEntries {H : Type} : List (Lit × DataW H) → Nat
  | [] => 0
  | x :: r => uptoBulkEntry x + uptoBulkEntries r
def uptoBulkEntry {H : Type} : Lit × DataW H → Nat
  | (.string bytes, d) => bytes.length + uptoBulk d + 1
  | (_, d) => uptoBulk d + 1
 end
def uptoSmall : (H : Type) → List (DataW H) → Bool := fun _ ds => decide (uptoBulkAll ds ≤ 1048576)
def OpenSpec.upto (s : _root_.Go.ChangeSpec) : _root_.Go.OpenSpec := { _root_.Go.OpenSpec.ofChange s with cond := some uptoSmall }

/-- 'tinkerlaw03.BlameApart', WHERE WHAT IT READS IS OF BULK AT MOST 1048576: true; the input reads as it did. -/
def blameApartUptoRow : OpenClaim := { program := "ytkakdkolankmpaa", sum := "e9a457e4b7afc2b2e71e44aa7ba2ade0c79bf9fab4d687078b323661df21d2db", func := "tinker/tinkerlaw03.BlameApart", spec := "blameApart", unfollowed := true, recurses := true, plainKeys := false, apart := false, narrowed := true }
def BlameApartUptoSaid : Prop := blameApartUptoRow.holds Try.pinned (OpenSpec.upto blameApartSpec)

/-- 'tinkerlaw04.PatchThrees', WHERE WHAT IT READS IS OF BULK AT MOST 1048576: true; the input reads as it did. -/
def patchThreesUptoRow : OpenClaim := { program := "ytkakdkolankmpaa", sum := "e9a457e4b7afc2b2e71e44aa7ba2ade0c79bf9fab4d687078b323661df21d2db", func := "tinker/tinkerlaw04.PatchThrees", spec := "patchThrees", unfollowed := true, recurses := true, plainKeys := false, apart := false, narrowed := true }
def PatchThreesUptoSaid : Prop := patchThreesUptoRow.holds Try.pinned (OpenSpec.upto patchThreesSpec)

/-- 'tinkerlaw05.SeekNears', WHERE WHAT IT READS IS OF BULK AT MOST 1048576: true; the input reads as it did. -/
def seekNearsUptoRow : OpenClaim := { program := "ytkakdkolankmpaa", sum := "e9a457e4b7afc2b2e71e44aa7ba2ade0c79bf9fab4d687078b323661df21d2db", func := "tinker/tinkerlaw05.SeekNears", spec := "seekNears", unfollowed := true, recurses := true, plainKeys := false, apart := false, narrowed := true }
def SeekNearsUptoSaid : Prop := seekNearsUptoRow.holds Try.pinned (OpenSpec.upto seekNearsSpec)

/-- 'tinkerlaw05.SeekAlls', WHERE WHAT IT READS IS OF BULK AT MOST 1048576: true; the input reads as it did. -/
def seekAllsUptoRow : OpenClaim := { program := "ytkakdkolankmpaa", sum := "e9a457e4b7afc2b2e71e44aa7ba2ade0c79bf9fab4d687078b323661df21d2db", func := "tinker/tinkerlaw05.SeekAlls", spec := "seekAlls", unfollowed := true, recurses := true, plainKeys := false, apart := false, narrowed := true }
def SeekAllsUptoSaid : Prop := seekAllsUptoRow.holds Try.pinned (OpenSpec.upto seekAllsSpec)

/-- 'tinkerlaw05.SeekCandidates', WHERE WHAT IT READS IS OF BULK AT MOST 1048576: true; the input reads as it did. -/
def seekCandidatesUptoRow : OpenClaim := { program := "ytkakdkolankmpaa", sum := "e9a457e4b7afc2b2e71e44aa7ba2ade0c79bf9fab4d687078b323661df21d2db", func := "tinker/tinkerlaw05.SeekCandidates", spec := "seekCandidates", unfollowed := true, recurses := true, plainKeys := false, apart := false, narrowed := true }
def SeekCandidatesUptoSaid : Prop := seekCandidatesUptoRow.holds Try.pinned (OpenSpec.upto seekCandidatesSpec)

/-- 'tinkertop.TopChecks', WHERE WHAT IT READS IS OF BULK AT MOST 1048576: true; the input reads as it did. -/
def topChecksUptoRow : OpenClaim := { program := "ytkakdkolankmpaa", sum := "e9a457e4b7afc2b2e71e44aa7ba2ade0c79bf9fab4d687078b323661df21d2db", func := "tinker/tinkertop.TopChecks", spec := "topChecks", unfollowed := true, recurses := true, plainKeys := false, apart := false, narrowed := true }
def TopChecksUptoSaid : Prop := topChecksUptoRow.holds Try.pinned (OpenSpec.upto topChecksSpec)

end Rows
end Go.Proofs.Ytkakdkolankmpaa
