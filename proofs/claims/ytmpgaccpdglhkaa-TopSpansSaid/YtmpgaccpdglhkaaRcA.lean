/- Which lines are reached: what is answered. -/
import Derived.Test.YtmpgaccpdglhkaaSpN
import Derived.Test.YtmpgaccpdglhkaaPlain
set_option linter.unusedVariables false
set_option linter.unusedSimpArgs false
namespace Go.Proofs.Ytmpgaccpdglhkaa
open Go.RowKit Tinker

/-- What Reached and Dead answer. -/
def rcA (ps : List L) (b : List Rg) (r : Bool) : List Int := if fe (vp ps) (vb b) = 0 then rcL ps b r ps.length else []
theorem rcL_le (ps : List L) (b : List Rg) (r : Bool) : ∀ k, (rcL ps b r k).length ≤ k
  | 0 => Nat.le_refl _
  | k + 1 => by have ih := rcL_le ps b r k; rw [rcL_succ]; split <;> simp <;> omega

end Go.Proofs.Ytmpgaccpdglhkaa
