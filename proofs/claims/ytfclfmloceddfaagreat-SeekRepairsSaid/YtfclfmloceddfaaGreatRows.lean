/-
  No cell of these rows narrows 'for every input' (looked for: loops, veiled, ifaces, maps, wideKeys, modest, calm, conditions, laid).
  DERIVED. THE GIVEN ROWS OF THIS SEAT. 2 by the template 'for every input the law returns true; each argument reads behind the call as it read before'; 0 by the template 'total and deterministic' (their statements: YtfclfmloceddfaaGreatTotals.lean).
  GIVEN WITH THE SEED: the statements are not yours to turn. If you find one false, say at which input.
  Laid BY PROGRAM, IN A SANDBOX (cutbox-rows.mjs): the forced cells as the released guide's own fill.sh prints them over the translation fa6de23aa874b986… (all of the seat's roots in one cut). By AI agents, Wed Nov 11 2026. No macro, syntax, notation, axiom, sorry.
-/
import Derived.Test.YtfclfmloceddfaaGreatChecked
import GoSem.Claim
import GoSem.ClaimJoined
import GoSem.ClaimMapViews
import Derived.JoinedTies
import Derived.KernelRfl
namespace Go.Proofs.YtfclfmloceddfaaGreat
/- THE CELL 'sum', in the pinned program and in every row, IS THE sha256 OF THE DUMP (.gsa) THAT YtfclfmloceddfaaGreatProg.lean LOADS. Nothing in Lean hashes anything: it is a label: what it is worth is what the hold of that sum in a sandbox is worth. -/
noncomputable def Tryz.pinned : Pinned := { name := "ytfclfmloceddfaagreat", sum := "fa6de23aa874b986f1ca5737ab9ed2c905cd85fa4b543b5ee33f2c0d6a94a3b1", checked := Tryz.checked }
namespace Rows
def none {H : Type} : Left H := { results := [], args := [] }

/-- 'tinkerlaw05.SeekDoubles': WHATEVER THE INPUT: true; the input reads as it did. -/
def seekDoublesSpec : ChangeSpec := { name := "seekDoubles", fn := fun _ => fun
  | [d1, d2] => { results := [.lit (.bool true)], args := [d1, d2] }
  | _ => none }
def seekDoublesRow : OpenClaim := { program := "ytfclfmloceddfaagreat", sum := "fa6de23aa874b986f1ca5737ab9ed2c905cd85fa4b543b5ee33f2c0d6a94a3b1", func := "tinker/tinkerlaw05.SeekDoubles", spec := "seekDoubles", unfollowed := true, recurses := true, apart := false }
def SeekDoublesSaid : Prop := seekDoublesRow.holds Tryz.pinned (OpenSpec.ofChange seekDoublesSpec)

/-- ITS FALSE NEIGHBOUR: 'it returns false'. Refute it at one input. -/
def seekDoublesWrong : ChangeSpec := { name := "seekDoubles", fn := fun _ => fun
  | [d1, d2] => { results := [.lit (.bool false)], args := [d1, d2] }
  | _ => none }
def SeekDoublesWrongFalsely : Prop := seekDoublesRow.holds Tryz.pinned (OpenSpec.ofChange seekDoublesWrong)

/-- 'tinkerlaw05.SeekRepairs': WHATEVER THE INPUT: true; the input reads as it did. -/
def seekRepairsSpec : ChangeSpec := { name := "seekRepairs", fn := fun _ => fun
  | [d1, d2] => { results := [.lit (.bool true)], args := [d1, d2] }
  | _ => none }
def seekRepairsRow : OpenClaim := { program := "ytfclfmloceddfaagreat", sum := "fa6de23aa874b986f1ca5737ab9ed2c905cd85fa4b543b5ee33f2c0d6a94a3b1", func := "tinker/tinkerlaw05.SeekRepairs", spec := "seekRepairs", unfollowed := true, recurses := true, apart := false }
def SeekRepairsSaid : Prop := seekRepairsRow.holds Tryz.pinned (OpenSpec.ofChange seekRepairsSpec)

/-- ITS FALSE NEIGHBOUR: 'it returns false'. Refute it at one input. -/
def seekRepairsWrong : ChangeSpec := { name := "seekRepairs", fn := fun _ => fun
  | [d1, d2] => { results := [.lit (.bool false)], args := [d1, d2] }
  | _ => none }
def SeekRepairsWrongFalsely : Prop := seekRepairsRow.holds Tryz.pinned (OpenSpec.ofChange seekRepairsWrong)

/- THE SECOND FORM. 'bulk': how many values and letters a reading holds, each counted each time it is reached (what is shared counts as often as it is met; a slice's spare places count too). A statement '..UptoSaid' is the law's where the arguments, and the package variables that the reading takes, are together of bulk at most 1048576: NARROWER than '..Said'. Prove '..Said' where nothing that the law and all that it calls make is longer than what came in: it says more and counts as full. Else prove '..UptoSaid'. A law counts once. -/
mutual
def uptoBulk {H : Type} : DataW H → Nat
  | .lit (.string bytes) => bytes.length + 1
  | .lit _ => 1
  | .nil => 1
  | .ptr d => uptoBulk d + 1
  | .slice elems spare => uptoBulkAll elems + uptoBulkAll spare + 1
  | .agg parts => uptoBulkAll parts + 1
  | .iface _ d => uptoBulk d + 1
  | .map entries => uptoBulkEntries entries + 1
  | .held _ => 1
def uptoBulkAll {H : Type} : List (DataW H) → Nat
  | [] => 0
  | d :: r => uptoBulk d + uptoBulkAll r
def uptoBulkEntries {H : Type} : List (Lit × DataW H) → Nat
  | [] => 0
  | x :: r => uptoBulkEntry x + uptoBulkEntries r
def uptoBulkEntry {H : Type} : Lit × DataW H → Nat
  | (.string bytes, d) => bytes.length + uptoBulk d + 1
  | (_, d) => uptoBulk d + 1
 end
def uptoSmall : (H : Type) → List (DataW H) → Bool := fun _ ds => decide (uptoBulkAll ds ≤ 1048576)
def OpenSpec.upto (s : _root_.Go.ChangeSpec) : _root_.Go.OpenSpec := { _root_.Go.OpenSpec.ofChange s with cond := some uptoSmall }

/-- 'tinkerlaw05.SeekDoubles', WHERE WHAT IT READS IS OF BULK AT MOST 1048576: true; the input reads as it did. -/
def seekDoublesUptoRow : OpenClaim := { program := "ytfclfmloceddfaagreat", sum := "fa6de23aa874b986f1ca5737ab9ed2c905cd85fa4b543b5ee33f2c0d6a94a3b1", func := "tinker/tinkerlaw05.SeekDoubles", spec := "seekDoubles", unfollowed := true, recurses := true, apart := false, narrowed := true }
def SeekDoublesUptoSaid : Prop := seekDoublesUptoRow.holds Tryz.pinned (OpenSpec.upto seekDoublesSpec)

/-- 'tinkerlaw05.SeekRepairs', WHERE WHAT IT READS IS OF BULK AT MOST 1048576: true; the input reads as it did. -/
def seekRepairsUptoRow : OpenClaim := { program := "ytfclfmloceddfaagreat", sum := "fa6de23aa874b986f1ca5737ab9ed2c905cd85fa4b543b5ee33f2c0d6a94a3b1", func := "tinker/tinkerlaw05.SeekRepairs", spec := "seekRepairs", unfollowed := true, recurses := true, apart := false, narrowed := true }
def SeekRepairsUptoSaid : Prop := seekRepairsUptoRow.holds Tryz.pinned (OpenSpec.upto seekRepairsSpec)

end Rows
end Go.Proofs.YtfclfmloceddfaaGreat
