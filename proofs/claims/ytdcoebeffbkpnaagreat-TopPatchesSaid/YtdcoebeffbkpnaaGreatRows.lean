/-
  No cell of these rows narrows 'for every input' (looked for: loops, veiled, ifaces, maps, wideKeys, modest, calm, conditions, laid).
  DERIVED. THE GIVEN ROWS OF THIS SEAT. 3 by the template 'for every input the law returns true; each argument reads behind the call as it read before'; 0 by the template 'total and deterministic' (their statements: YtdcoebeffbkpnaaGreatTotals.lean).
  GIVEN WITH THE SEED: the statements are not yours to turn. If you find one false, say at which input.
  Laid BY PROGRAM, IN A SANDBOX (cutbox-rows.mjs): the forced cells as the released guide's own fill.sh prints them over the translation 166d2f83e13b618d… (all of the seat's roots in one cut). By AI agents, Wed Nov 11 2026. No macro, syntax, notation, axiom, sorry.
-/
import Derived.Test.YtdcoebeffbkpnaaGreatChecked
import GoSem.Claim
import GoSem.ClaimJoined
import GoSem.ClaimMapViews
import Derived.JoinedTies
import Derived.KernelRfl
namespace Go.Proofs.YtdcoebeffbkpnaaGreat
/- THE CELL 'sum', in the pinned program and in every row, IS THE sha256 OF THE DUMP (.gsa) THAT YtdcoebeffbkpnaaGreatProg.lean LOADS. Nothing in Lean hashes anything: it is a label: what it is worth is what the hold of that sum in a sandbox is worth. -/
noncomputable def Tryz.pinned : Pinned := { name := "ytdcoebeffbkpnaagreat", sum := "166d2f83e13b618dae065b8a72bda1d92b2fa29a96962567485992d013b7f680", checked := Tryz.checked }
namespace Rows
def none {H : Type} : Left H := { results := [], args := [] }

/-- 'tinkerlaw04.PatchReduces': WHATEVER THE INPUT: true; the input reads as it did. -/
def patchReducesSpec : ChangeSpec := { name := "patchReduces", fn := fun _ => fun
  | [d1, d2, d3] => { results := [.lit (.bool true)], args := [d1, d2, d3] }
  | _ => none }
def patchReducesRow : OpenClaim := { program := "ytdcoebeffbkpnaagreat", sum := "166d2f83e13b618dae065b8a72bda1d92b2fa29a96962567485992d013b7f680", func := "tinker/tinkerlaw04.PatchReduces", spec := "patchReduces", unfollowed := true, recurses := true, plainKeys := false, apart := false }
def PatchReducesSaid : Prop := patchReducesRow.holds Tryz.pinned (OpenSpec.ofChange patchReducesSpec)

/-- ITS FALSE NEIGHBOUR: 'it returns false'. Refute it at one input. -/
def patchReducesWrong : ChangeSpec := { name := "patchReduces", fn := fun _ => fun
  | [d1, d2, d3] => { results := [.lit (.bool false)], args := [d1, d2, d3] }
  | _ => none }
def PatchReducesWrongFalsely : Prop := patchReducesRow.holds Tryz.pinned (OpenSpec.ofChange patchReducesWrong)

/-- 'tinkertop.TopBlames': WHATEVER THE INPUT: true; the input reads as it did. -/
def topBlamesSpec : ChangeSpec := { name := "topBlames", fn := fun _ => fun
  | [d1, d2] => { results := [.lit (.bool true)], args := [d1, d2] }
  | _ => none }
def topBlamesRow : OpenClaim := { program := "ytdcoebeffbkpnaagreat", sum := "166d2f83e13b618dae065b8a72bda1d92b2fa29a96962567485992d013b7f680", func := "tinker/tinkertop.TopBlames", spec := "topBlames", unfollowed := true, recurses := true, plainKeys := false, apart := false }
def TopBlamesSaid : Prop := topBlamesRow.holds Tryz.pinned (OpenSpec.ofChange topBlamesSpec)

/-- ITS FALSE NEIGHBOUR: 'it returns false'. Refute it at one input. -/
def topBlamesWrong : ChangeSpec := { name := "topBlames", fn := fun _ => fun
  | [d1, d2] => { results := [.lit (.bool false)], args := [d1, d2] }
  | _ => none }
def TopBlamesWrongFalsely : Prop := topBlamesRow.holds Tryz.pinned (OpenSpec.ofChange topBlamesWrong)

/-- 'tinkertop.TopPatches': WHATEVER THE INPUT: true; the input reads as it did. -/
def topPatchesSpec : ChangeSpec := { name := "topPatches", fn := fun _ => fun
  | [d1, d2, d3] => { results := [.lit (.bool true)], args := [d1, d2, d3] }
  | _ => none }
def topPatchesRow : OpenClaim := { program := "ytdcoebeffbkpnaagreat", sum := "166d2f83e13b618dae065b8a72bda1d92b2fa29a96962567485992d013b7f680", func := "tinker/tinkertop.TopPatches", spec := "topPatches", unfollowed := true, recurses := true, plainKeys := false, apart := false }
def TopPatchesSaid : Prop := topPatchesRow.holds Tryz.pinned (OpenSpec.ofChange topPatchesSpec)

/-- ITS FALSE NEIGHBOUR: 'it returns false'. Refute it at one input. -/
def topPatchesWrong : ChangeSpec := { name := "topPatches", fn := fun _ => fun
  | [d1, d2, d3] => { results := [.lit (.bool false)], args := [d1, d2, d3] }
  | _ => none }
def TopPatchesWrongFalsely : Prop := topPatchesRow.holds Tryz.pinned (OpenSpec.ofChange topPatchesWrong)

/- THE SECOND FORM. 'bulk': how many values and letters a reading holds, each counted each time it is reached (what is shared counts as often as it is met; a slice's spare places count too). A statement '..UptoSaid' is the law's where the arguments, and the package variables that the reading takes, are together of bulk at most 1048576: NARROWER than '..Said'. Prove '..Said' where nothing that the law and all that it calls make is longer than what came in: it says more and counts as full. Else prove '..UptoSaid'. A law counts once. -/
mutual
def uptoBulk {H : Type} : DataW H → Nat
  | .lit (.string bytes) => bytes.length + 1
  | .lit _ => 1
  | .nil => 1
  | .ptr d => uptoBulk d + 1
  | .slice elems spare => uptoBulkAll elems + uptoBulkAll spare + 1
  | .agg parts => uptoBulkAll parts + 1
  | .iface _ d => uptoBulk d + 1
  | .map entries => uptoBulkEntries entries + 1
  | .held _ => 1
def uptoBulkAll {H : Type} : List (DataW H) → Nat
  | [] => 0
  | d :: r => uptoBulk d + uptoBulkAll r
def uptoBulkEntries {H : Type} : List (Lit × DataW H) → Nat
  | [] => 0
  | x :: r => uptoBulkEntry x + uptoBulkEntries r
def uptoBulkEntry {H : Type} : Lit × DataW H → Nat
  | (.string bytes, d) => bytes.length + uptoBulk d + 1
  | (_, d) => uptoBulk d + 1
 end
def uptoSmall : (H : Type) → List (DataW H) → Bool := fun _ ds => decide (uptoBulkAll ds ≤ 1048576)
def OpenSpec.upto (s : _root_.Go.ChangeSpec) : _root_.Go.OpenSpec := { _root_.Go.OpenSpec.ofChange s with cond := some uptoSmall }

/-- 'tinkerlaw04.PatchReduces', WHERE WHAT IT READS IS OF BULK AT MOST 1048576: true; the input reads as it did. -/
def patchReducesUptoRow : OpenClaim := { program := "ytdcoebeffbkpnaagreat", sum := "166d2f83e13b618dae065b8a72bda1d92b2fa29a96962567485992d013b7f680", func := "tinker/tinkerlaw04.PatchReduces", spec := "patchReduces", unfollowed := true, recurses := true, plainKeys := false, apart := false, narrowed := true }
def PatchReducesUptoSaid : Prop := patchReducesUptoRow.holds Tryz.pinned (OpenSpec.upto patchReducesSpec)

/-- 'tinkertop.TopBlames', WHERE WHAT IT READS IS OF BULK AT MOST 1048576: true; the input reads as it did. -/
def topBlamesUptoRow : OpenClaim := { program := "ytdcoebeffbkpnaagreat", sum := "166d2f83e13b618dae065b8a72bda1d92b2fa29a96962567485992d013b7f680", func := "tinker/tinkertop.TopBlames", spec := "topBlames", unfollowed := true, recurses := true, plainKeys := false, apart := false, narrowed := true }
def TopBlamesUptoSaid : Prop := topBlamesUptoRow.holds Tryz.pinned (OpenSpec.upto topBlamesSpec)

/-- 'tinkertop.TopPatches', WHERE WHAT IT READS IS OF BULK AT MOST 1048576: true; the input reads as it did. -/
def topPatchesUptoRow : OpenClaim := { program := "ytdcoebeffbkpnaagreat", sum := "166d2f83e13b618dae065b8a72bda1d92b2fa29a96962567485992d013b7f680", func := "tinker/tinkertop.TopPatches", spec := "topPatches", unfollowed := true, recurses := true, plainKeys := false, apart := false, narrowed := true }
def TopPatchesUptoSaid : Prop := topPatchesUptoRow.holds Tryz.pinned (OpenSpec.upto topPatchesSpec)

end Rows
end Go.Proofs.YtdcoebeffbkpnaaGreat
