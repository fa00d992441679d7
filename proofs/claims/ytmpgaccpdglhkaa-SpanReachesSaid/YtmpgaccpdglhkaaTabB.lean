/- Table and Covered of both: contracts. -/
import Derived.Test.YtmpgaccpdglhkaaTabA
set_option linter.unusedVariables false
set_option linter.unusedSimpArgs false
namespace Go.Proofs.Ytmpgaccpdglhkaa
open Go.RowKit Tinker

theorem rowTo_done (n : Nat) (D : List Int) : rowTo n D D.length = rowTo n D D.length := rfl

end Go.Proofs.Ytmpgaccpdglhkaa
