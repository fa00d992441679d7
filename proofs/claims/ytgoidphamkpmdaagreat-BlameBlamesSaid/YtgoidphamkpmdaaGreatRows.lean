/-
  No cell of these rows narrows 'for every input' (looked for: loops, veiled, ifaces, maps, wideKeys, modest, calm, conditions, laid).
  DERIVED. THE GIVEN ROWS OF THIS SEAT. 4 by the template 'for every input the law returns true; each argument reads behind the call as it read before'; 0 by the template 'total and deterministic' (their statements: YtgoidphamkpmdaaGreatTotals.lean).
  GIVEN WITH THE SEED: the statements are not yours to turn. If you find one false, say at which input.
  Laid BY PROGRAM, IN A SANDBOX (cutbox-rows.mjs): the forced cells as the released guide's own fill.sh prints them over the translation b58411eceee9f52d… (all of the seat's roots in one cut). By AI agents, Wed Nov 11 2026. No macro, syntax, notation, axiom, sorry.
-/
import Derived.Test.YtgoidphamkpmdaaGreatChecked
import GoSem.Claim
import GoSem.ClaimJoined
import GoSem.ClaimMapViews
import Derived.JoinedTies
import Derived.KernelRfl
namespace Go.Proofs.YtgoidphamkpmdaaGreat
/- THE CELL 'sum', in the pinned program and in every row, IS THE sha256 OF THE DUMP (.gsa) THAT YtgoidphamkpmdaaGreatProg.lean LOADS. Nothing in Lean hashes anything: it is a label: what it is worth is what the hold of that sum in a sandbox is worth. -/
noncomputable def Tryz.pinned : Pinned := { name := "ytgoidphamkpmdaagreat", sum := "b58411eceee9f52d5a6466b710e1990411ed1ebb812f55016796b0a1856e4437", checked := Tryz.checked }
namespace Rows
def none {H : Type} : Left H := { results := [], args := [] }

/-- 'tinkerlaw03.BlameSlices': WHATEVER THE INPUT: true; the input reads as it did. -/
def blameSlicesSpec : ChangeSpec := { name := "blameSlices", fn := fun _ => fun
  | [d1, d2] => { results := [.lit (.bool true)], args := [d1, d2] }
  | _ => none }
def blameSlicesRow : OpenClaim := { program := "ytgoidphamkpmdaagreat", sum := "b58411eceee9f52d5a6466b710e1990411ed1ebb812f55016796b0a1856e4437", func := "tinker/tinkerlaw03.BlameSlices", spec := "blameSlices", unfollowed := true, recurses := true, plainKeys := false, apart := false }
def BlameSlicesSaid : Prop := blameSlicesRow.holds Tryz.pinned (OpenSpec.ofChange blameSlicesSpec)

/-- ITS FALSE NEIGHBOUR: 'it returns false'. Refute it at one input. -/
def blameSlicesWrong : ChangeSpec := { name := "blameSlices", fn := fun _ => fun
  | [d1, d2] => { results := [.lit (.bool false)], args := [d1, d2] }
  | _ => none }
def BlameSlicesWrongFalsely : Prop := blameSlicesRow.holds Tryz.pinned (OpenSpec.ofChange blameSlicesWrong)

/-- 'tinkerlaw03.BlameBlames': WHATEVER THE INPUT: true; the input reads as it did. -/
def blameBlamesSpec : ChangeSpec := { name := "blameBlames", fn := fun _ => fun
  | [d1, d2, d3] => { results := [.lit (.bool true)], args := [d1, d2, d3] }
  | _ => none }
def blameBlamesRow : OpenClaim := { program := "ytgoidphamkpmdaagreat", sum := "b58411eceee9f52d5a6466b710e1990411ed1ebb812f55016796b0a1856e4437", func := "tinker/tinkerlaw03.BlameBlames", spec := "blameBlames", unfollowed := true, recurses := true, plainKeys := false, apart := false }
def BlameBlamesSaid : Prop := blameBlamesRow.holds Tryz.pinned (OpenSpec.ofChange blameBlamesSpec)

/-- ITS FALSE NEIGHBOUR: 'it returns false'. Refute it at one input. -/
def blameBlamesWrong : ChangeSpec := { name := "blameBlames", fn := fun _ => fun
  | [d1, d2, d3] => { results := [.lit (.bool false)], args := [d1, d2, d3] }
  | _ => none }
def BlameBlamesWrongFalsely : Prop := blameBlamesRow.holds Tryz.pinned (OpenSpec.ofChange blameBlamesWrong)

/-- 'tinkerlaw03.BlameAll': WHATEVER THE INPUT: true; the input reads as it did. -/
def blameAllSpec : ChangeSpec := { name := "blameAll", fn := fun _ => fun
  | [d1, d2, d3] => { results := [.lit (.bool true)], args := [d1, d2, d3] }
  | _ => none }
def blameAllRow : OpenClaim := { program := "ytgoidphamkpmdaagreat", sum := "b58411eceee9f52d5a6466b710e1990411ed1ebb812f55016796b0a1856e4437", func := "tinker/tinkerlaw03.BlameAll", spec := "blameAll", unfollowed := true, recurses := true, plainKeys := false, apart := false }
def BlameAllSaid : Prop := blameAllRow.holds Tryz.pinned (OpenSpec.ofChange blameAllSpec)

/-- ITS FALSE NEIGHBOUR: 'it returns false'. Refute it at one input. -/
def blameAllWrong : ChangeSpec := { name := "blameAll", fn := fun _ => fun
  | [d1, d2, d3] => { results := [.lit (.bool false)], args := [d1, d2, d3] }
  | _ => none }
def BlameAllWrongFalsely : Prop := blameAllRow.holds Tryz.pinned (OpenSpec.ofChange blameAllWrong)

/-- 'tinkertop.TopBlames': WHATEVER THE INPUT: true; the input reads as it did. -/
def topBlamesSpec : ChangeSpec := { name := "topBlames", fn := fun _ => fun
  | [d1, d2] => { results := [.lit (.bool true)], args := [d1, d2] }
  | _ => none }
def topBlamesRow : OpenClaim := { program := "ytgoidphamkpmdaagreat", sum := "b58411eceee9f52d5a6466b710e1990411ed1ebb812f55016796b0a1856e4437", func := "tinker/tinkertop.TopBlames", spec := "topBlames", unfollowed := true, recurses := true, plainKeys := false, apart := false }
def TopBlamesSaid : Prop := topBlamesRow.holds Tryz.pinned (OpenSpec.ofChange topBlamesSpec)

/-- ITS FALSE NEIGHBOUR: 'it returns false'. Refute it at one input. -/
def topBlamesWrong : ChangeSpec := { name := "topBlames", fn := fun _ => fun
  | [d1, d2] => { results := [.lit (.bool false)], args := [d1, d2] }
  | _ => none }
def TopBlamesWrongFalsely : Prop := topBlamesRow.holds Tryz.pinned (OpenSpec.ofChange topBlamesWrong)

/- THE SECOND FORM. 'bulk': how many values and letters a reading holds, each counted each time it is reached (what is shared counts as often as it is met; a slice's spare places count too). A statement '..UptoSaid' is the law's where the arguments, and the package variables that the reading takes, are together of bulk at most 1048576: NARROWER than '..Said'. Prove '..Said' where nothing that the law and all that it calls make is longer than what came in: it says more and counts as full. Else prove '..UptoSaid'. A law counts once. -/
mutual
def uptoBulk {H : Type} : DataW H → Nat
  | .lit (.string bytes) => bytes.length + 1
  | .lit _ => 1
  | .nil => 1
  | .ptr d => uptoBulk d + 1
  | .slice elems spare => uptoBulkAll elems + uptoBulkAll spare + 1
  | .agg parts => uptoBulkAll parts + 1
  | .iface _ d => uptoBulk d + 1
  | .map entries => uptoBulkEntries entries + 1
  | .held _ => 1
def uptoBulkAll {H : Type} : List (DataW H) → Nat
  | [] => 0
  | d :: r => uptoBulk d + uptoBulkAll r
def uptoBulkEntries {H : Type} : List (Lit × DataW H) → Nat
  | [] => 0
  | x :: r => uptoBulkEntry x + uptoBulkEntries r
def uptoBulkEntry {H : Type} : Lit × DataW H → Nat
  | (.string bytes, d) => bytes.length + uptoBulk d + 1
  | (_, d) => uptoBulk d + 1
 end
def uptoSmall : (H : Type) → List (DataW H) → Bool := fun _ ds => decide (uptoBulkAll ds ≤ 1048576)
def OpenSpec.upto (s : _root_.Go.ChangeSpec) : _root_.Go.OpenSpec := { _root_.Go.OpenSpec.ofChange s with cond := some uptoSmall }

/-- 'tinkerlaw03.BlameSlices', WHERE WHAT IT READS IS OF BULK AT MOST 1048576: true; the input reads as it did. -/
def blameSlicesUptoRow : OpenClaim := { program := "ytgoidphamkpmdaagreat", sum := "b58411eceee9f52d5a6466b710e1990411ed1ebb812f55016796b0a1856e4437", func := "tinker/tinkerlaw03.BlameSlices", spec := "blameSlices", unfollowed := true, recurses := true, plainKeys := false, apart := false, narrowed := true }
def BlameSlicesUptoSaid : Prop := blameSlicesUptoRow.holds Tryz.pinned (OpenSpec.upto blameSlicesSpec)

/-- 'tinkerlaw03.BlameBlames', WHERE WHAT IT READS IS OF BULK AT MOST 1048576: true; the input reads as it did. -/
def blameBlamesUptoRow : OpenClaim := { program := "ytgoidphamkpmdaagreat", sum := "b58411eceee9f52d5a6466b710e1990411ed1ebb812f55016796b0a1856e4437", func := "tinker/tinkerlaw03.BlameBlames", spec := "blameBlames", unfollowed := true, recurses := true, plainKeys := false, apart := false, narrowed := true }
def BlameBlamesUptoSaid : Prop := blameBlamesUptoRow.holds Tryz.pinned (OpenSpec.upto blameBlamesSpec)

/-- 'tinkerlaw03.BlameAll', WHERE WHAT IT READS IS OF BULK AT MOST 1048576: true; the input reads as it did. -/
def blameAllUptoRow : OpenClaim := { program := "ytgoidphamkpmdaagreat", sum := "b58411eceee9f52d5a6466b710e1990411ed1ebb812f55016796b0a1856e4437", func := "tinker/tinkerlaw03.BlameAll", spec := "blameAll", unfollowed := true, recurses := true, plainKeys := false, apart := false, narrowed := true }
def BlameAllUptoSaid : Prop := blameAllUptoRow.holds Tryz.pinned (OpenSpec.upto blameAllSpec)

/-- 'tinkertop.TopBlames', WHERE WHAT IT READS IS OF BULK AT MOST 1048576: true; the input reads as it did. -/
def topBlamesUptoRow : OpenClaim := { program := "ytgoidphamkpmdaagreat", sum := "b58411eceee9f52d5a6466b710e1990411ed1ebb812f55016796b0a1856e4437", func := "tinker/tinkertop.TopBlames", spec := "topBlames", unfollowed := true, recurses := true, plainKeys := false, apart := false, narrowed := true }
def TopBlamesUptoSaid : Prop := topBlamesUptoRow.holds Tryz.pinned (OpenSpec.upto topBlamesSpec)

end Rows
end Go.Proofs.YtgoidphamkpmdaaGreat
