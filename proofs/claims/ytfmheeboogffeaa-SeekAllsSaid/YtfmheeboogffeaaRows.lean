/-
  No cell of these rows narrows 'for every input' (looked for: loops, veiled, ifaces, maps, wideKeys, modest, calm, conditions, laid).
  DERIVED. THE GIVEN ROWS OF THIS SEAT. 3 by the template 'for every input the law returns true; each argument reads behind the call as it read before'; 0 by the template 'total and deterministic' (their statements: YtfmheeboogffeaaTotals.lean).
  GIVEN WITH THE SEED: the statements are not yours to turn. If you find one false, say at which input.
  Laid BY PROGRAM, IN A SANDBOX (cutbox-rows.mjs): the forced cells as the released guide's own fill.sh prints them over the translation 521cad8c31616365… (all of the seat's roots in one cut). By AI agents, Wed Nov 11 2026. No macro, syntax, notation, axiom, sorry.
-/
import Derived.Test.YtfmheeboogffeaaChecked
import GoSem.Claim
import GoSem.ClaimJoined
import GoSem.ClaimMapViews
import Derived.JoinedTies
import Derived.KernelRfl
namespace Go.Proofs.Ytfmheeboogffeaa
/- THE CELL 'sum', in the pinned program and in every row, IS THE sha256 OF THE DUMP (.gsa) THAT YtfmheeboogffeaaProg.lean LOADS. Nothing in Lean hashes anything: it is a label: what it is worth is what the hold of that sum in a sandbox is worth. -/
noncomputable def Try.pinned : Pinned := { name := "ytfmheeboogffeaa", sum := "521cad8c31616365db519eb28c9113789234e93d8a36f1605f197ced57326cf1", checked := Try.checked }
namespace Rows
def none {H : Type} : Left H := { results := [], args := [] }

/-- 'tinkerlaw05.SeekNears': WHATEVER THE INPUT: true; the input reads as it did. -/
def seekNearsSpec : ChangeSpec := { name := "seekNears", fn := fun _ => fun
  | [d1, d2] => { results := [.lit (.bool true)], args := [d1, d2] }
  | _ => none }
def seekNearsRow : OpenClaim := { program := "ytfmheeboogffeaa", sum := "521cad8c31616365db519eb28c9113789234e93d8a36f1605f197ced57326cf1", func := "tinker/tinkerlaw05.SeekNears", spec := "seekNears", unfollowed := true, recurses := true, apart := false }
def SeekNearsSaid : Prop := seekNearsRow.holds Try.pinned (OpenSpec.ofChange seekNearsSpec)

/-- ITS FALSE NEIGHBOUR: 'it returns false'. Refute it at one input. -/
def seekNearsWrong : ChangeSpec := { name := "seekNears", fn := fun _ => fun
  | [d1, d2] => { results := [.lit (.bool false)], args := [d1, d2] }
  | _ => none }
def SeekNearsWrongFalsely : Prop := seekNearsRow.holds Try.pinned (OpenSpec.ofChange seekNearsWrong)

/-- 'tinkerlaw05.SeekAlls': WHATEVER THE INPUT: true; the input reads as it did. -/
def seekAllsSpec : ChangeSpec := { name := "seekAlls", fn := fun _ => fun
  | [d] => { results := [.lit (.bool true)], args := [d] }
  | _ => none }
def seekAllsRow : OpenClaim := { program := "ytfmheeboogffeaa", sum := "521cad8c31616365db519eb28c9113789234e93d8a36f1605f197ced57326cf1", func := "tinker/tinkerlaw05.SeekAlls", spec := "seekAlls", unfollowed := true, recurses := true, apart := false }
def SeekAllsSaid : Prop := seekAllsRow.holds Try.pinned (OpenSpec.ofChange seekAllsSpec)

/-- ITS FALSE NEIGHBOUR: 'it returns false'. Refute it at one input. -/
def seekAllsWrong : ChangeSpec := { name := "seekAlls", fn := fun _ => fun
  | [d] => { results := [.lit (.bool false)], args := [d] }
  | _ => none }
def SeekAllsWrongFalsely : Prop := seekAllsRow.holds Try.pinned (OpenSpec.ofChange seekAllsWrong)

/-- 'tinkerlaw05.SeekCandidates': WHATEVER THE INPUT: true; the input reads as it did. -/
def seekCandidatesSpec : ChangeSpec := { name := "seekCandidates", fn := fun _ => fun
  | [d1, d2] => { results := [.lit (.bool true)], args := [d1, d2] }
  | _ => none }
def seekCandidatesRow : OpenClaim := { program := "ytfmheeboogffeaa", sum := "521cad8c31616365db519eb28c9113789234e93d8a36f1605f197ced57326cf1", func := "tinker/tinkerlaw05.SeekCandidates", spec := "seekCandidates", unfollowed := true, recurses := true, apart := false }
def SeekCandidatesSaid : Prop := seekCandidatesRow.holds Try.pinned (OpenSpec.ofChange seekCandidatesSpec)

/-- ITS FALSE NEIGHBOUR: 'it returns false'. Refute it at one input. -/
def seekCandidatesWrong : ChangeSpec := { name := "seekCandidates", fn := fun _ => fun
  | [d1, d2] => { results := [.lit (.bool false)], args := [d1, d2] }
  | _ => none }
def SeekCandidatesWrongFalsely : Prop := seekCandidatesRow.holds Try.pinned (OpenSpec.ofChange seekCandidatesWrong)

/- THE SECOND FORM. 'bulk': how many values and letters a reading holds, each counted each time it is reached (what is shared counts as often as it is met; a slice's spare places count too). A statement '..UptoSaid' is the law's where the arguments, and the package variables that the reading takes, are together of bulk at most 1048576: NARROWER than '..Said'. Prove '..Said' where nothing that the law and all that it calls make is longer than what came in: it says more and counts as full. Else prove '..UptoSaid'. A law counts once. -/
mutual
def uptoBulk {H : Type} : DataW H → Nat
  | .lit (.string bytes) => bytes.length + 1
  | .lit _ => 1
  | .nil => 1
  | .ptr d => uptoBulk d + 1
  | .slice elems spare => uptoBulkAll elems + uptoBulkAll spare + 1
  | .agg parts => uptoBulkAll parts + 1
  | .iface _ d => uptoBulk d + 1
  | .map entries => uptoBulkEntries entries + 1
  | .held _ => 1
def uptoBulkAll {H : Type} : List (DataW H) → Nat
  | [] => 0
  | d :: r => uptoBulk d + uptoBulkAll r
def uptoBulkEntries {H : Type} : List (Lit × DataW H) → Nat
  | [] => 0
  | x :: r => uptoBulkEntry x + uptoBulkEntries r
def uptoBulkEntry {H : Type} : Lit × DataW H → Nat
  | (.string bytes, d) => bytes.length + uptoBulk d + 1
  | (_, d) => uptoBulk d + 1
 end
def uptoSmall : (H : Type) → List (DataW H) → Bool := fun _ ds => decide (uptoBulkAll ds ≤ 1048576)
def OpenSpec.upto (s : _root_.Go.ChangeSpec) : _root_.Go.OpenSpec := { _root_.Go.OpenSpec.ofChange s with cond := some uptoSmall }

/-- 'tinkerlaw05.SeekNears', WHERE WHAT IT READS IS OF BULK AT MOST 1048576: true; the input reads as it did. -/
def seekNearsUptoRow : OpenClaim := { program := "ytfmheeboogffeaa", sum := "521cad8c31616365db519eb28c9113789234e93d8a36f1605f197ced57326cf1", func := "tinker/tinkerlaw05.SeekNears", spec := "seekNears", unfollowed := true, recurses := true, apart := false, narrowed := true }
def SeekNearsUptoSaid : Prop := seekNearsUptoRow.holds Try.pinned (OpenSpec.upto seekNearsSpec)

/-- 'tinkerlaw05.SeekAlls', WHERE WHAT IT READS IS OF BULK AT MOST 1048576: true; the input reads as it did. -/
def seekAllsUptoRow : OpenClaim := { program := "ytfmheeboogffeaa", sum := "521cad8c31616365db519eb28c9113789234e93d8a36f1605f197ced57326cf1", func := "tinker/tinkerlaw05.SeekAlls", spec := "seekAlls", unfollowed := true, recurses := true, apart := false, narrowed := true }
def SeekAllsUptoSaid : Prop := seekAllsUptoRow.holds Try.pinned (OpenSpec.upto seekAllsSpec)

/-- 'tinkerlaw05.SeekCandidates', WHERE WHAT IT READS IS OF BULK AT MOST 1048576: true; the input reads as it did. -/
def seekCandidatesUptoRow : OpenClaim := { program := "ytfmheeboogffeaa", sum := "521cad8c31616365db519eb28c9113789234e93d8a36f1605f197ced57326cf1", func := "tinker/tinkerlaw05.SeekCandidates", spec := "seekCandidates", unfollowed := true, recurses := true, apart := false, narrowed := true }
def SeekCandidatesUptoSaid : Prop := seekCandidatesUptoRow.holds Try.pinned (OpenSpec.upto seekCandidatesSpec)

end Rows
end Go.Proofs.Ytfmheeboogffeaa
