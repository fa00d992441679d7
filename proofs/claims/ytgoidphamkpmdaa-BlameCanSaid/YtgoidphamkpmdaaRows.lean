/-
  No cell of these rows narrows 'for every input' (looked for: loops, veiled, ifaces, maps, wideKeys, modest, calm, conditions, laid).
  DERIVED. THE GIVEN ROWS OF THIS SEAT. 11 by the template 'for every input the law returns true; each argument reads behind the call as it read before'; 0 by the template 'total and deterministic' (their statements: YtgoidphamkpmdaaTotals.lean).
  GIVEN WITH THE SEED: the statements are not yours to turn. If you find one false, say at which input.
  Laid BY PROGRAM, IN A SANDBOX (cutbox-rows.mjs): the forced cells as the released guide's own fill.sh prints them over the translation b898230db315df0f… (all of the seat's roots in one cut). By AI agents, Wed Nov 11 2026. No macro, syntax, notation, axiom, sorry.
-/
import Derived.Test.YtgoidphamkpmdaaChecked
import GoSem.Claim
import GoSem.ClaimJoined
import GoSem.ClaimMapViews
import Derived.JoinedTies
import Derived.KernelRfl
namespace Go.Proofs.Ytgoidphamkpmdaa
/- THE CELL 'sum', in the pinned program and in every row, IS THE sha256 OF THE DUMP (.gsa) THAT YtgoidphamkpmdaaProg.lean LOADS. Nothing in Lean hashes anything: it is a label: what it is worth is what the hold of that sum in a sandbox is worth. -/
noncomputable def Try.pinned : Pinned := { name := "ytgoidphamkpmdaa", sum := "b898230db315df0fe655cc5e647ea590a0ffde8a286d052bb4f2b60dd82aaba6", checked := Try.checked }
namespace Rows
def none {H : Type} : Left H := { results := [], args := [] }

/-- 'tinkerlaw03.BlameHits': WHATEVER THE INPUT: true; the input reads as it did. -/
def blameHitsSpec : ChangeSpec := { name := "blameHits", fn := fun _ => fun
  | [d1, d2] => { results := [.lit (.bool true)], args := [d1, d2] }
  | _ => none }
def blameHitsRow : OpenClaim := { program := "ytgoidphamkpmdaa", sum := "b898230db315df0fe655cc5e647ea590a0ffde8a286d052bb4f2b60dd82aaba6", func := "tinker/tinkerlaw03.BlameHits", spec := "blameHits", unfollowed := true, recurses := true, plainKeys := false, apart := false }
def BlameHitsSaid : Prop := blameHitsRow.holds Try.pinned (OpenSpec.ofChange blameHitsSpec)

/-- ITS FALSE NEIGHBOUR: 'it returns false'. Refute it at one input. -/
def blameHitsWrong : ChangeSpec := { name := "blameHits", fn := fun _ => fun
  | [d1, d2] => { results := [.lit (.bool false)], args := [d1, d2] }
  | _ => none }
def BlameHitsWrongFalsely : Prop := blameHitsRow.holds Try.pinned (OpenSpec.ofChange blameHitsWrong)

/-- 'tinkerlaw03.BlameBlockers': WHATEVER THE INPUT: true; the input reads as it did. -/
def blameBlockersSpec : ChangeSpec := { name := "blameBlockers", fn := fun _ => fun
  | [d] => { results := [.lit (.bool true)], args := [d] }
  | _ => none }
def blameBlockersRow : OpenClaim := { program := "ytgoidphamkpmdaa", sum := "b898230db315df0fe655cc5e647ea590a0ffde8a286d052bb4f2b60dd82aaba6", func := "tinker/tinkerlaw03.BlameBlockers", spec := "blameBlockers", unfollowed := true, recurses := true, plainKeys := false, apart := false }
def BlameBlockersSaid : Prop := blameBlockersRow.holds Try.pinned (OpenSpec.ofChange blameBlockersSpec)

/-- ITS FALSE NEIGHBOUR: 'it returns false'. Refute it at one input. -/
def blameBlockersWrong : ChangeSpec := { name := "blameBlockers", fn := fun _ => fun
  | [d] => { results := [.lit (.bool false)], args := [d] }
  | _ => none }
def BlameBlockersWrongFalsely : Prop := blameBlockersRow.holds Try.pinned (OpenSpec.ofChange blameBlockersWrong)

/-- 'tinkerlaw03.BlameChecks': WHATEVER THE INPUT: true; the input reads as it did. -/
def blameChecksSpec : ChangeSpec := { name := "blameChecks", fn := fun _ => fun
  | [d1, d2] => { results := [.lit (.bool true)], args := [d1, d2] }
  | _ => none }
def blameChecksRow : OpenClaim := { program := "ytgoidphamkpmdaa", sum := "b898230db315df0fe655cc5e647ea590a0ffde8a286d052bb4f2b60dd82aaba6", func := "tinker/tinkerlaw03.BlameChecks", spec := "blameChecks", unfollowed := true, recurses := true, plainKeys := false, apart := false }
def BlameChecksSaid : Prop := blameChecksRow.holds Try.pinned (OpenSpec.ofChange blameChecksSpec)

/-- ITS FALSE NEIGHBOUR: 'it returns false'. Refute it at one input. -/
def blameChecksWrong : ChangeSpec := { name := "blameChecks", fn := fun _ => fun
  | [d1, d2] => { results := [.lit (.bool false)], args := [d1, d2] }
  | _ => none }
def BlameChecksWrongFalsely : Prop := blameChecksRow.holds Try.pinned (OpenSpec.ofChange blameChecksWrong)

/-- 'tinkerlaw03.BlameLeast': WHATEVER THE INPUT: true; the input reads as it did. -/
def blameLeastSpec : ChangeSpec := { name := "blameLeast", fn := fun _ => fun
  | [d] => { results := [.lit (.bool true)], args := [d] }
  | _ => none }
def blameLeastRow : OpenClaim := { program := "ytgoidphamkpmdaa", sum := "b898230db315df0fe655cc5e647ea590a0ffde8a286d052bb4f2b60dd82aaba6", func := "tinker/tinkerlaw03.BlameLeast", spec := "blameLeast", unfollowed := true, recurses := true, plainKeys := false, apart := false }
def BlameLeastSaid : Prop := blameLeastRow.holds Try.pinned (OpenSpec.ofChange blameLeastSpec)

/-- ITS FALSE NEIGHBOUR: 'it returns false'. Refute it at one input. -/
def blameLeastWrong : ChangeSpec := { name := "blameLeast", fn := fun _ => fun
  | [d] => { results := [.lit (.bool false)], args := [d] }
  | _ => none }
def BlameLeastWrongFalsely : Prop := blameLeastRow.holds Try.pinned (OpenSpec.ofChange blameLeastWrong)

/-- 'tinkerlaw03.BlameSmallest': WHATEVER THE INPUT: true; the input reads as it did. -/
def blameSmallestSpec : ChangeSpec := { name := "blameSmallest", fn := fun _ => fun
  | [d] => { results := [.lit (.bool true)], args := [d] }
  | _ => none }
def blameSmallestRow : OpenClaim := { program := "ytgoidphamkpmdaa", sum := "b898230db315df0fe655cc5e647ea590a0ffde8a286d052bb4f2b60dd82aaba6", func := "tinker/tinkerlaw03.BlameSmallest", spec := "blameSmallest", unfollowed := true, recurses := true, plainKeys := false, apart := false }
def BlameSmallestSaid : Prop := blameSmallestRow.holds Try.pinned (OpenSpec.ofChange blameSmallestSpec)

/-- ITS FALSE NEIGHBOUR: 'it returns false'. Refute it at one input. -/
def blameSmallestWrong : ChangeSpec := { name := "blameSmallest", fn := fun _ => fun
  | [d] => { results := [.lit (.bool false)], args := [d] }
  | _ => none }
def BlameSmallestWrongFalsely : Prop := blameSmallestRow.holds Try.pinned (OpenSpec.ofChange blameSmallestWrong)

/-- 'tinkerlaw03.BlameApart': WHATEVER THE INPUT: true; the input reads as it did. -/
def blameApartSpec : ChangeSpec := { name := "blameApart", fn := fun _ => fun
  | [d] => { results := [.lit (.bool true)], args := [d] }
  | _ => none }
def blameApartRow : OpenClaim := { program := "ytgoidphamkpmdaa", sum := "b898230db315df0fe655cc5e647ea590a0ffde8a286d052bb4f2b60dd82aaba6", func := "tinker/tinkerlaw03.BlameApart", spec := "blameApart", unfollowed := true, recurses := true, plainKeys := false, apart := false }
def BlameApartSaid : Prop := blameApartRow.holds Try.pinned (OpenSpec.ofChange blameApartSpec)

/-- ITS FALSE NEIGHBOUR: 'it returns false'. Refute it at one input. -/
def blameApartWrong : ChangeSpec := { name := "blameApart", fn := fun _ => fun
  | [d] => { results := [.lit (.bool false)], args := [d] }
  | _ => none }
def BlameApartWrongFalsely : Prop := blameApartRow.holds Try.pinned (OpenSpec.ofChange blameApartWrong)

/-- 'tinkerlaw03.BlameCommon': WHATEVER THE INPUT: true; the input reads as it did. -/
def blameCommonSpec : ChangeSpec := { name := "blameCommon", fn := fun _ => fun
  | [d1, d2] => { results := [.lit (.bool true)], args := [d1, d2] }
  | _ => none }
def blameCommonRow : OpenClaim := { program := "ytgoidphamkpmdaa", sum := "b898230db315df0fe655cc5e647ea590a0ffde8a286d052bb4f2b60dd82aaba6", func := "tinker/tinkerlaw03.BlameCommon", spec := "blameCommon", unfollowed := true, recurses := true, plainKeys := false, apart := false }
def BlameCommonSaid : Prop := blameCommonRow.holds Try.pinned (OpenSpec.ofChange blameCommonSpec)

/-- ITS FALSE NEIGHBOUR: 'it returns false'. Refute it at one input. -/
def blameCommonWrong : ChangeSpec := { name := "blameCommon", fn := fun _ => fun
  | [d1, d2] => { results := [.lit (.bool false)], args := [d1, d2] }
  | _ => none }
def BlameCommonWrongFalsely : Prop := blameCommonRow.holds Try.pinned (OpenSpec.ofChange blameCommonWrong)

/-- 'tinkerlaw03.BlameWithout': WHATEVER THE INPUT: true; the input reads as it did. -/
def blameWithoutSpec : ChangeSpec := { name := "blameWithout", fn := fun _ => fun
  | [d1, d2] => { results := [.lit (.bool true)], args := [d1, d2] }
  | _ => none }
def blameWithoutRow : OpenClaim := { program := "ytgoidphamkpmdaa", sum := "b898230db315df0fe655cc5e647ea590a0ffde8a286d052bb4f2b60dd82aaba6", func := "tinker/tinkerlaw03.BlameWithout", spec := "blameWithout", unfollowed := true, recurses := true, plainKeys := false, apart := false }
def BlameWithoutSaid : Prop := blameWithoutRow.holds Try.pinned (OpenSpec.ofChange blameWithoutSpec)

/-- ITS FALSE NEIGHBOUR: 'it returns false'. Refute it at one input. -/
def blameWithoutWrong : ChangeSpec := { name := "blameWithout", fn := fun _ => fun
  | [d1, d2] => { results := [.lit (.bool false)], args := [d1, d2] }
  | _ => none }
def BlameWithoutWrongFalsely : Prop := blameWithoutRow.holds Try.pinned (OpenSpec.ofChange blameWithoutWrong)

/-- 'tinkerlaw03.BlamePasses': WHATEVER THE INPUT: true; the input reads as it did. -/
def blamePassesSpec : ChangeSpec := { name := "blamePasses", fn := fun _ => fun
  | [d1, d2, d3] => { results := [.lit (.bool true)], args := [d1, d2, d3] }
  | _ => none }
def blamePassesRow : OpenClaim := { program := "ytgoidphamkpmdaa", sum := "b898230db315df0fe655cc5e647ea590a0ffde8a286d052bb4f2b60dd82aaba6", func := "tinker/tinkerlaw03.BlamePasses", spec := "blamePasses", unfollowed := true, recurses := true, plainKeys := false, apart := false }
def BlamePassesSaid : Prop := blamePassesRow.holds Try.pinned (OpenSpec.ofChange blamePassesSpec)

/-- ITS FALSE NEIGHBOUR: 'it returns false'. Refute it at one input. -/
def blamePassesWrong : ChangeSpec := { name := "blamePasses", fn := fun _ => fun
  | [d1, d2, d3] => { results := [.lit (.bool false)], args := [d1, d2, d3] }
  | _ => none }
def BlamePassesWrongFalsely : Prop := blamePassesRow.holds Try.pinned (OpenSpec.ofChange blamePassesWrong)

/-- 'tinkerlaw03.BlameCan': WHATEVER THE INPUT: true; the input reads as it did. -/
def blameCanSpec : ChangeSpec := { name := "blameCan", fn := fun _ => fun
  | [d1, d2, d3] => { results := [.lit (.bool true)], args := [d1, d2, d3] }
  | _ => none }
def blameCanRow : OpenClaim := { program := "ytgoidphamkpmdaa", sum := "b898230db315df0fe655cc5e647ea590a0ffde8a286d052bb4f2b60dd82aaba6", func := "tinker/tinkerlaw03.BlameCan", spec := "blameCan", unfollowed := true, recurses := true, plainKeys := false, apart := false }
def BlameCanSaid : Prop := blameCanRow.holds Try.pinned (OpenSpec.ofChange blameCanSpec)

/-- ITS FALSE NEIGHBOUR: 'it returns false'. Refute it at one input. -/
def blameCanWrong : ChangeSpec := { name := "blameCan", fn := fun _ => fun
  | [d1, d2, d3] => { results := [.lit (.bool false)], args := [d1, d2, d3] }
  | _ => none }
def BlameCanWrongFalsely : Prop := blameCanRow.holds Try.pinned (OpenSpec.ofChange blameCanWrong)

/-- 'tinkertop.TopChecks': WHATEVER THE INPUT: true; the input reads as it did. -/
def topChecksSpec : ChangeSpec := { name := "topChecks", fn := fun _ => fun
  | [d1, d2, d3] => { results := [.lit (.bool true)], args := [d1, d2, d3] }
  | _ => none }
def topChecksRow : OpenClaim := { program := "ytgoidphamkpmdaa", sum := "b898230db315df0fe655cc5e647ea590a0ffde8a286d052bb4f2b60dd82aaba6", func := "tinker/tinkertop.TopChecks", spec := "topChecks", unfollowed := true, recurses := true, plainKeys := false, apart := false }
def TopChecksSaid : Prop := topChecksRow.holds Try.pinned (OpenSpec.ofChange topChecksSpec)

/-- ITS FALSE NEIGHBOUR: 'it returns false'. Refute it at one input. -/
def topChecksWrong : ChangeSpec := { name := "topChecks", fn := fun _ => fun
  | [d1, d2, d3] => { results := [.lit (.bool false)], args := [d1, d2, d3] }
  | _ => none }
def TopChecksWrongFalsely : Prop := topChecksRow.holds Try.pinned (OpenSpec.ofChange topChecksWrong)

/- THE SECOND FORM. 'bulk': how many values and letters a reading holds, each counted each time it is reached (what is shared counts as often as it is met; a slice's spare places count too). A statement '..UptoSaid' is the law's where the arguments, and the package variables that the reading takes, are together of bulk at most 1048576: NARROWER than '..Said'. Prove '..Said' where nothing that the law and all that it calls make is longer than what came in: it says more and counts as full. Else prove '..UptoSaid'. A law counts once. -/
mutual
def uptoBulk {H : Type} : DataW H → Nat
  | .lit (.string bytes) => bytes.length + 1
  | .lit _ => 1
  | .nil => 1
  | .ptr d => uptoBulk d + 1
  | .slice elems spare => uptoBulkAll elems + uptoBulkAll spare + 1
  | .agg parts => uptoBulkAll parts + 1
  | .iface _ d => uptoBulk d + 1
  | .map entries => uptoBulkEntries entries + 1
  | .held _ => 1
def uptoBulkAll {H : Type} : List (DataW H) → Nat
  | [] => 0
  | d :: r => uptoBulk d + uptoBulkAll r
def uptoBulkEntries {H : Type} : List (Lit × DataW H) → Nat
  | [] => 0
  | x :: r => uptoBulkEntry x + uptoBulkEntries r
def uptoBulkEntry {H : Type} : Lit × DataW H → Nat
  | (.string bytes, d) => bytes.length + uptoBulk d + 1
  | (_, d) => uptoBulk d + 1
 end
def uptoSmall : (H : Type) → List (DataW H) → Bool := fun _ ds => decide (uptoBulkAll ds ≤ 1048576)
def OpenSpec.upto (s : _root_.Go.ChangeSpec) : _root_.Go.OpenSpec := { _root_.Go.OpenSpec.ofChange s with cond := some uptoSmall }

/-- 'tinkerlaw03.BlameHits', WHERE WHAT IT READS IS OF BULK AT MOST 1048576: true; the input reads as it did. -/
def blameHitsUptoRow : OpenClaim := { program := "ytgoidphamkpmdaa", sum := "b898230db315df0fe655cc5e647ea590a0ffde8a286d052bb4f2b60dd82aaba6", func := "tinker/tinkerlaw03.BlameHits", spec := "blameHits", unfollowed := true, recurses := true, plainKeys := false, apart := false, narrowed := true }
def BlameHitsUptoSaid : Prop := blameHitsUptoRow.holds Try.pinned (OpenSpec.upto blameHitsSpec)

/-- 'tinkerlaw03.BlameBlockers', WHERE WHAT IT READS IS OF BULK AT MOST 1048576: true; the input reads as it did. -/
def blameBlockersUptoRow : OpenClaim := { program := "ytgoidphamkpmdaa", sum := "b898230db315df0fe655cc5e647ea590a0ffde8a286d052bb4f2b60dd82aaba6", func := "tinker/tinkerlaw03.BlameBlockers", spec := "blameBlockers", unfollowed := true, recurses := true, plainKeys := false, apart := false, narrowed := true }
def BlameBlockersUptoSaid : Prop := blameBlockersUptoRow.holds Try.pinned (OpenSpec.upto blameBlockersSpec)

/-- 'tinkerlaw03.BlameChecks', WHERE WHAT IT READS IS OF BULK AT MOST 1048576: true; the input reads as it did. -/
def blameChecksUptoRow : OpenClaim := { program := "ytgoidphamkpmdaa", sum := "b898230db315df0fe655cc5e647ea590a0ffde8a286d052bb4f2b60dd82aaba6", func := "tinker/tinkerlaw03.BlameChecks", spec := "blameChecks", unfollowed := true, recurses := true, plainKeys := false, apart := false, narrowed := true }
def BlameChecksUptoSaid : Prop := blameChecksUptoRow.holds Try.pinned (OpenSpec.upto blameChecksSpec)

/-- 'tinkerlaw03.BlameLeast', WHERE WHAT IT READS IS OF BULK AT MOST 1048576: true; the input reads as it did. -/
def blameLeastUptoRow : OpenClaim := { program := "ytgoidphamkpmdaa", sum := "b898230db315df0fe655cc5e647ea590a0ffde8a286d052bb4f2b60dd82aaba6", func := "tinker/tinkerlaw03.BlameLeast", spec := "blameLeast", unfollowed := true, recurses := true, plainKeys := false, apart := false, narrowed := true }
def BlameLeastUptoSaid : Prop := blameLeastUptoRow.holds Try.pinned (OpenSpec.upto blameLeastSpec)

/-- 'tinkerlaw03.BlameSmallest', WHERE WHAT IT READS IS OF BULK AT MOST 1048576: true; the input reads as it did. -/
def blameSmallestUptoRow : OpenClaim := { program := "ytgoidphamkpmdaa", sum := "b898230db315df0fe655cc5e647ea590a0ffde8a286d052bb4f2b60dd82aaba6", func := "tinker/tinkerlaw03.BlameSmallest", spec := "blameSmallest", unfollowed := true, recurses := true, plainKeys := false, apart := false, narrowed := true }
def BlameSmallestUptoSaid : Prop := blameSmallestUptoRow.holds Try.pinned (OpenSpec.upto blameSmallestSpec)

/-- 'tinkerlaw03.BlameApart', WHERE WHAT IT READS IS OF BULK AT MOST 1048576: true; the input reads as it did. -/
def blameApartUptoRow : OpenClaim := { program := "ytgoidphamkpmdaa", sum := "b898230db315df0fe655cc5e647ea590a0ffde8a286d052bb4f2b60dd82aaba6", func := "tinker/tinkerlaw03.BlameApart", spec := "blameApart", unfollowed := true, recurses := true, plainKeys := false, apart := false, narrowed := true }
def BlameApartUptoSaid : Prop := blameApartUptoRow.holds Try.pinned (OpenSpec.upto blameApartSpec)

/-- 'tinkerlaw03.BlameCommon', WHERE WHAT IT READS IS OF BULK AT MOST 1048576: true; the input reads as it did. -/
def blameCommonUptoRow : OpenClaim := { program := "ytgoidphamkpmdaa", sum := "b898230db315df0fe655cc5e647ea590a0ffde8a286d052bb4f2b60dd82aaba6", func := "tinker/tinkerlaw03.BlameCommon", spec := "blameCommon", unfollowed := true, recurses := true, plainKeys := false, apart := false, narrowed := true }
def BlameCommonUptoSaid : Prop := blameCommonUptoRow.holds Try.pinned (OpenSpec.upto blameCommonSpec)

/-- 'tinkerlaw03.BlameWithout', WHERE WHAT IT READS IS OF BULK AT MOST 1048576: true; the input reads as it did. -/
def blameWithoutUptoRow : OpenClaim := { program := "ytgoidphamkpmdaa", sum := "b898230db315df0fe655cc5e647ea590a0ffde8a286d052bb4f2b60dd82aaba6", func := "tinker/tinkerlaw03.BlameWithout", spec := "blameWithout", unfollowed := true, recurses := true, plainKeys := false, apart := false, narrowed := true }
def BlameWithoutUptoSaid : Prop := blameWithoutUptoRow.holds Try.pinned (OpenSpec.upto blameWithoutSpec)

/-- 'tinkerlaw03.BlamePasses', WHERE WHAT IT READS IS OF BULK AT MOST 1048576: true; the input reads as it did. -/
def blamePassesUptoRow : OpenClaim := { program := "ytgoidphamkpmdaa", sum := "b898230db315df0fe655cc5e647ea590a0ffde8a286d052bb4f2b60dd82aaba6", func := "tinker/tinkerlaw03.BlamePasses", spec := "blamePasses", unfollowed := true, recurses := true, plainKeys := false, apart := false, narrowed := true }
def BlamePassesUptoSaid : Prop := blamePassesUptoRow.holds Try.pinned (OpenSpec.upto blamePassesSpec)

/-- 'tinkerlaw03.BlameCan', WHERE WHAT IT READS IS OF BULK AT MOST 1048576: true; the input reads as it did. -/
def blameCanUptoRow : OpenClaim := { program := "ytgoidphamkpmdaa", sum := "b898230db315df0fe655cc5e647ea590a0ffde8a286d052bb4f2b60dd82aaba6", func := "tinker/tinkerlaw03.BlameCan", spec := "blameCan", unfollowed := true, recurses := true, plainKeys := false, apart := false, narrowed := true }
def BlameCanUptoSaid : Prop := blameCanUptoRow.holds Try.pinned (OpenSpec.upto blameCanSpec)

/-- 'tinkertop.TopChecks', WHERE WHAT IT READS IS OF BULK AT MOST 1048576: true; the input reads as it did. -/
def topChecksUptoRow : OpenClaim := { program := "ytgoidphamkpmdaa", sum := "b898230db315df0fe655cc5e647ea590a0ffde8a286d052bb4f2b60dd82aaba6", func := "tinker/tinkertop.TopChecks", spec := "topChecks", unfollowed := true, recurses := true, plainKeys := false, apart := false, narrowed := true }
def TopChecksUptoSaid : Prop := topChecksUptoRow.holds Try.pinned (OpenSpec.upto topChecksSpec)

end Rows
end Go.Proofs.Ytgoidphamkpmdaa
