/-
  No cell of these rows narrows 'for every input' (looked for: loops, veiled, ifaces, maps, wideKeys, modest, calm, conditions, laid).
  DERIVED. THE GIVEN ROWS OF THIS SEAT. 5 by the template 'for every input the law returns true; each argument reads behind the call as it read before'; 0 by the template 'total and deterministic' (their statements: YtmpgaccpdglhkaaTotals.lean).
  GIVEN WITH THE SEED: the statements are not yours to turn. If you find one false, say at which input.
  Laid BY PROGRAM, IN A SANDBOX (cutbox-rows.mjs): the forced cells as the released guide's own fill.sh prints them over the translation fca85c2e2c706b3f… (all of the seat's roots in one cut). By AI agents, Wed Nov 11 2026. No macro, syntax, notation, axiom, sorry.
-/
import Derived.Test.YtmpgaccpdglhkaaChecked
import GoSem.Claim
import GoSem.ClaimJoined
import GoSem.ClaimMapViews
import Derived.JoinedTies
import Derived.KernelRfl
namespace Go.Proofs.Ytmpgaccpdglhkaa
/- THE CELL 'sum', in the pinned program and in every row, IS THE sha256 OF THE DUMP (.gsa) THAT YtmpgaccpdglhkaaProg.lean LOADS. Nothing in Lean hashes anything: it is a label: what it is worth is what the hold of that sum in a sandbox is worth. -/
noncomputable def Try.pinned : Pinned := { name := "ytmpgaccpdglhkaa", sum := "fca85c2e2c706b3f859bccca5c174529b9db9c408667f48bcb86a59b41027f61", checked := Try.checked }
namespace Rows
def none {H : Type} : Left H := { results := [], args := [] }

/-- 'tinkerlaw06.SpanAfters': WHATEVER THE INPUT: true; the input reads as it did. -/
def spanAftersSpec : ChangeSpec := { name := "spanAfters", fn := fun _ => fun
  | [d1, d2, d3] => { results := [.lit (.bool true)], args := [d1, d2, d3] }
  | _ => none }
def spanAftersRow : OpenClaim := { program := "ytmpgaccpdglhkaa", sum := "fca85c2e2c706b3f859bccca5c174529b9db9c408667f48bcb86a59b41027f61", func := "tinker/tinkerlaw06.SpanAfters", spec := "spanAfters", unfollowed := true, recurses := true, apart := false }
def SpanAftersSaid : Prop := spanAftersRow.holds Try.pinned (OpenSpec.ofChange spanAftersSpec)

/-- ITS FALSE NEIGHBOUR: 'it returns false'. Refute it at one input. -/
def spanAftersWrong : ChangeSpec := { name := "spanAfters", fn := fun _ => fun
  | [d1, d2, d3] => { results := [.lit (.bool false)], args := [d1, d2, d3] }
  | _ => none }
def SpanAftersWrongFalsely : Prop := spanAftersRow.holds Try.pinned (OpenSpec.ofChange spanAftersWrong)

/-- 'tinkerlaw06.SpanReaches': WHATEVER THE INPUT: true; the input reads as it did. -/
def spanReachesSpec : ChangeSpec := { name := "spanReaches", fn := fun _ => fun
  | [d1, d2] => { results := [.lit (.bool true)], args := [d1, d2] }
  | _ => none }
def spanReachesRow : OpenClaim := { program := "ytmpgaccpdglhkaa", sum := "fca85c2e2c706b3f859bccca5c174529b9db9c408667f48bcb86a59b41027f61", func := "tinker/tinkerlaw06.SpanReaches", spec := "spanReaches", unfollowed := true, recurses := true, apart := false }
def SpanReachesSaid : Prop := spanReachesRow.holds Try.pinned (OpenSpec.ofChange spanReachesSpec)

/-- ITS FALSE NEIGHBOUR: 'it returns false'. Refute it at one input. -/
def spanReachesWrong : ChangeSpec := { name := "spanReaches", fn := fun _ => fun
  | [d1, d2] => { results := [.lit (.bool false)], args := [d1, d2] }
  | _ => none }
def SpanReachesWrongFalsely : Prop := spanReachesRow.holds Try.pinned (OpenSpec.ofChange spanReachesWrong)

/-- 'tinkerlaw06.SpanProves': WHATEVER THE INPUT: true; the input reads as it did. -/
def spanProvesSpec : ChangeSpec := { name := "spanProves", fn := fun _ => fun
  | [d1, d2, d3] => { results := [.lit (.bool true)], args := [d1, d2, d3] }
  | _ => none }
def spanProvesRow : OpenClaim := { program := "ytmpgaccpdglhkaa", sum := "fca85c2e2c706b3f859bccca5c174529b9db9c408667f48bcb86a59b41027f61", func := "tinker/tinkerlaw06.SpanProves", spec := "spanProves", unfollowed := true, recurses := true, apart := false }
def SpanProvesSaid : Prop := spanProvesRow.holds Try.pinned (OpenSpec.ofChange spanProvesSpec)

/-- ITS FALSE NEIGHBOUR: 'it returns false'. Refute it at one input. -/
def spanProvesWrong : ChangeSpec := { name := "spanProves", fn := fun _ => fun
  | [d1, d2, d3] => { results := [.lit (.bool false)], args := [d1, d2, d3] }
  | _ => none }
def SpanProvesWrongFalsely : Prop := spanProvesRow.holds Try.pinned (OpenSpec.ofChange spanProvesWrong)

/-- 'tinkerlaw06.SpanLosses': WHATEVER THE INPUT: true; the input reads as it did. -/
def spanLossesSpec : ChangeSpec := { name := "spanLosses", fn := fun _ => fun
  | [d1, d2] => { results := [.lit (.bool true)], args := [d1, d2] }
  | _ => none }
def spanLossesRow : OpenClaim := { program := "ytmpgaccpdglhkaa", sum := "fca85c2e2c706b3f859bccca5c174529b9db9c408667f48bcb86a59b41027f61", func := "tinker/tinkerlaw06.SpanLosses", spec := "spanLosses", unfollowed := true, recurses := true, apart := false }
def SpanLossesSaid : Prop := spanLossesRow.holds Try.pinned (OpenSpec.ofChange spanLossesSpec)

/-- ITS FALSE NEIGHBOUR: 'it returns false'. Refute it at one input. -/
def spanLossesWrong : ChangeSpec := { name := "spanLosses", fn := fun _ => fun
  | [d1, d2] => { results := [.lit (.bool false)], args := [d1, d2] }
  | _ => none }
def SpanLossesWrongFalsely : Prop := spanLossesRow.holds Try.pinned (OpenSpec.ofChange spanLossesWrong)

/-- 'tinkertop.TopSpans': WHATEVER THE INPUT: true; the input reads as it did. -/
def topSpansSpec : ChangeSpec := { name := "topSpans", fn := fun _ => fun
  | [d1, d2, d3] => { results := [.lit (.bool true)], args := [d1, d2, d3] }
  | _ => none }
def topSpansRow : OpenClaim := { program := "ytmpgaccpdglhkaa", sum := "fca85c2e2c706b3f859bccca5c174529b9db9c408667f48bcb86a59b41027f61", func := "tinker/tinkertop.TopSpans", spec := "topSpans", unfollowed := true, recurses := true, apart := false }
def TopSpansSaid : Prop := topSpansRow.holds Try.pinned (OpenSpec.ofChange topSpansSpec)

/-- ITS FALSE NEIGHBOUR: 'it returns false'. Refute it at one input. -/
def topSpansWrong : ChangeSpec := { name := "topSpans", fn := fun _ => fun
  | [d1, d2, d3] => { results := [.lit (.bool false)], args := [d1, d2, d3] }
  | _ => none }
def TopSpansWrongFalsely : Prop := topSpansRow.holds Try.pinned (OpenSpec.ofChange topSpansWrong)

/- THE SECOND FORM. 'bulk': how many values and letters a reading holds, each counted each time it is reached (what is shared counts as often as it is met; a slice's spare places count too). A statement '..UptoSaid' is the law's where the arguments, and the package variables that the reading takes, are together of bulk at most 1048576: NARROWER than '..Said'. Prove '..Said' where nothing that the law and all that it calls make is longer than what came in: it says more and counts as full. Else prove '..UptoSaid'. A law counts once. -/
mutual
def uptoBulk {H : Type} : DataW H → Nat
  | .lit (.string bytes) => bytes.length + 1
  | .lit _ => 1
  | .nil => 1
  | .ptr d => uptoBulk d + 1
  | .slice elems spare => uptoBulkAll elems + uptoBulkAll spare + 1
  | .agg parts => uptoBulkAll parts + 1
  | .iface _ d => uptoBulk d + 1
  | .map entries => uptoBulkEntries entries + 1
  | .held _ => 1
def uptoBulkAll {H : Type} : List (DataW H) → Nat
  | [] => 0
  | d :: r => uptoBulk d + uptoBulkAll r
def uptoBulkEntries {H : Type} : List (Lit × DataW H) → Nat
  | [] => 0
  | x :: r => uptoBulkEntry x + uptoBulkEntries r
def uptoBulkEntry {H : Type} : Lit × DataW H → Nat
  | (.string bytes, d) => bytes.length + uptoBulk d + 1
  | (_, d) => uptoBulk d + 1
 end
def uptoSmall : (H : Type) → List (DataW H) → Bool := fun _ ds => decide (uptoBulkAll ds ≤ 1048576)
def OpenSpec.upto (s : _root_.Go.ChangeSpec) : _root_.Go.OpenSpec := { _root_.Go.OpenSpec.ofChange s with cond := some uptoSmall }

/-- 'tinkerlaw06.SpanAfters', WHERE WHAT IT READS IS OF BULK AT MOST 1048576: true; the input reads as it did. -/
def spanAftersUptoRow : OpenClaim := { program := "ytmpgaccpdglhkaa", sum := "fca85c2e2c706b3f859bccca5c174529b9db9c408667f48bcb86a59b41027f61", func := "tinker/tinkerlaw06.SpanAfters", spec := "spanAfters", unfollowed := true, recurses := true, apart := false, narrowed := true }
def SpanAftersUptoSaid : Prop := spanAftersUptoRow.holds Try.pinned (OpenSpec.upto spanAftersSpec)

/-- 'tinkerlaw06.SpanReaches', WHERE WHAT IT READS IS OF BULK AT MOST 1048576: true; the input reads as it did. -/
def spanReachesUptoRow : OpenClaim := { program := "ytmpgaccpdglhkaa", sum := "fca85c2e2c706b3f859bccca5c174529b9db9c408667f48bcb86a59b41027f61", func := "tinker/tinkerlaw06.SpanReaches", spec := "spanReaches", unfollowed := true, recurses := true, apart := false, narrowed := true }
def SpanReachesUptoSaid : Prop := spanReachesUptoRow.holds Try.pinned (OpenSpec.upto spanReachesSpec)

/-- 'tinkerlaw06.SpanProves', WHERE WHAT IT READS IS OF BULK AT MOST 1048576: true; the input reads as it did. -/
def spanProvesUptoRow : OpenClaim := { program := "ytmpgaccpdglhkaa", sum := "fca85c2e2c706b3f859bccca5c174529b9db9c408667f48bcb86a59b41027f61", func := "tinker/tinkerlaw06.SpanProves", spec := "spanProves", unfollowed := true, recurses := true, apart := false, narrowed := true }
def SpanProvesUptoSaid : Prop := spanProvesUptoRow.holds Try.pinned (OpenSpec.upto spanProvesSpec)

/-- 'tinkerlaw06.SpanLosses', WHERE WHAT IT READS IS OF BULK AT MOST 1048576: true; the input reads as it did. -/
def spanLossesUptoRow : OpenClaim := { program := "ytmpgaccpdglhkaa", sum := "fca85c2e2c706b3f859bccca5c174529b9db9c408667f48bcb86a59b41027f61", func := "tinker/tinkerlaw06.SpanLosses", spec := "spanLosses", unfollowed := true, recurses := true, apart := false, narrowed := true }
def SpanLossesUptoSaid : Prop := spanLossesUptoRow.holds Try.pinned (OpenSpec.upto spanLossesSpec)

/-- 'tinkertop.TopSpans', WHERE WHAT IT READS IS OF BULK AT MOST 1048576: true; the input reads as it did. -/
def topSpansUptoRow : OpenClaim := { program := "ytmpgaccpdglhkaa", sum := "fca85c2e2c706b3f859bccca5c174529b9db9c408667f48bcb86a59b41027f61", func := "tinker/tinkertop.TopSpans", spec := "topSpans", unfollowed := true, recurses := true, apart := false, narrowed := true }
def TopSpansUptoSaid : Prop := topSpansUptoRow.holds Try.pinned (OpenSpec.upto topSpansSpec)

end Rows
end Go.Proofs.Ytmpgaccpdglhkaa
