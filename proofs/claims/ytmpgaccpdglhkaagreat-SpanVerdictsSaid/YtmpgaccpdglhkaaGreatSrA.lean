/- The document's side of boxes: within, Validate. -/
import Derived.Test.YtmpgaccpdglhkaaGreatSpB
import Derived.Test.YtmpgaccpdglhkaaGreatSpJ
import Derived.Test.YtmpgaccpdglhkaaGreatSpE
import Derived.BigQuiet
import Derived.Deep.QuietTactic
set_option linter.unusedVariables false
set_option linter.unusedSimpArgs false
namespace Go.Proofs.YtmpgaccpdglhkaaGreat
open Go.RowKit Tinker

theorem fe_vb_cases (a b : List Rg) : fe (vb a) (vb b) = 0 ∨ fe (vb a) (vb b) = 1 := by
  rcases vb_cases a with h | h <;> rcases vb_cases b with h2 | h2 <;> rw [h, h2] <;> simp [fe]

end Go.Proofs.YtmpgaccpdglhkaaGreat
