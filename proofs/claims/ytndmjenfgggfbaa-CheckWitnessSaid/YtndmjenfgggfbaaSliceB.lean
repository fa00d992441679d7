/- slices.Backward over the lines of a program: the iterator's contract. -/
import Derived.RangeFuncNested
import Derived.RangeFuncBound
import Derived.RangeFuncCalls
import Derived.RangeFuncLeaves
import Derived.Shelf.Abstract
import Derived.Shelf.RegionOpen
import Derived.OwnWalkIn
import Derived.TacticsInMore
import Derived.LoopNIn
import Derived.LoopIn
import Derived.Test.YtndmjenfgggfbaaSliceA
set_option linter.unusedVariables false
set_option linter.unusedSimpArgs false
namespace Go.Proofs.Ytndmjenfgggfbaa
open Go.RowKit Go.Shelf Tinker
attribute [local go_sem] Oper.semAt_some

/-- A line of a program, with its number. -/
abbrev NL := { x : Nat × L // x.1 < 8 ∧ isLn x.2 = true }
def encNL (x : NL) : Array Value := #[.int .i64 (x.1.1 : Int), .agg #[.int .i64 x.1.2.op, .int .i64 x.1.2.to, .int .i64 x.1.2.a, .int .i64 x.1.2.b]]

/-- The lines rs, from the last one to the first one, lie at a slice's address. -/
def BackAt (W : World) (b off len : Nat) (rs : List NL) : Prop := rs.length = len ∧ ∀ j x, rs[j]? = some x → x.1.1 = len - 1 - j ∧
  W.cell? ⟨b, off + (len - 1 - j) * 4, none⟩ = some (.int .i64 x.1.2.op) ∧ W.cell? ⟨b, off + (len - 1 - j) * 4 + 1, none⟩ = some (.int .i64 x.1.2.to) ∧
  W.cell? ⟨b, off + (len - 1 - j) * 4 + 2, none⟩ = some (.int .i64 x.1.2.a) ∧ W.cell? ⟨b, off + (len - 1 - j) * 4 + 3, none⟩ = some (.int .i64 x.1.2.b)

/-- What a round keeps: what lay below n₀, and the block Bs. -/
def KpB (n₀ Bs : Nat) (W W' : World) : Prop := Below n₀ W W' ∧ W'.heap[Bs]? = W.heap[Bs]?

end Go.Proofs.Ytndmjenfgggfbaa
