/- slices.Backward over the edits of a patch: the iterator's contract. -/
import Derived.RangeFuncNested
import Derived.RangeFuncBound
import Derived.RangeFuncCalls
import Derived.RangeFuncLeaves
import Derived.Shelf.Abstract
import Derived.Shelf.RegionOpen
import Derived.OwnWalkIn
import Derived.TacticsInMore
import Derived.LoopNIn
import Derived.LoopIn
import Derived.Test.YtikblaebfpdngaaSliceC
import Derived.Test.YtikblaebfpdngaaPtD
set_option linter.unusedVariables false
set_option linter.unusedSimpArgs false
namespace Go.Proofs.Ytikblaebfpdngaa
open Go.RowKit Go.Shelf Tinker
attribute [local go_sem] Oper.semAt_some

/-- An edit of a patch, with its number. -/
abbrev NE := { x : Nat × E // x.1 < 8 ∧ True }
def encNE (x : NE) : Array Value := #[.int .i64 (x.1.1 : Int), .agg #[.int .i64 x.1.2.at_, .int .i64 x.1.2.ln.op, .int .i64 x.1.2.ln.to, .int .i64 x.1.2.ln.a, .int .i64 x.1.2.ln.b]]

/-- The edits rs, from the last one to the first one, lie at a slice's address. -/
def BackAtE (W : World) (b off len : Nat) (rs : List NE) : Prop := rs.length = len ∧ ∀ j x, rs[j]? = some x → x.1.1 = len - 1 - j ∧
  W.cell? ⟨b, off + (len - 1 - j) * 5, none⟩ = some (.int .i64 x.1.2.at_) ∧ W.cell? ⟨b, off + (len - 1 - j) * 5 + 1, none⟩ = some (.int .i64 x.1.2.ln.op) ∧
  W.cell? ⟨b, off + (len - 1 - j) * 5 + 2, none⟩ = some (.int .i64 x.1.2.ln.to) ∧ W.cell? ⟨b, off + (len - 1 - j) * 5 + 3, none⟩ = some (.int .i64 x.1.2.ln.a) ∧ W.cell? ⟨b, off + (len - 1 - j) * 5 + 4, none⟩ = some (.int .i64 x.1.2.ln.b)

end Go.Proofs.Ytikblaebfpdngaa
