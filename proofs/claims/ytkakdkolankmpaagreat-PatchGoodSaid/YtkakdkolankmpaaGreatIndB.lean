/- Independent: contracts. -/
import Derived.Test.YtkakdkolankmpaaGreatIndA
set_option linter.unusedVariables false
set_option linter.unusedSimpArgs false
namespace Go.Proofs.YtkakdkolankmpaaGreat
open Go.RowKit Tinker

/-- firstError of the two numbers that a region has just laid. -/
theorem firstError_at (b : Nat) (W : World) (c d : Int) (h : IntsAt W (some ⟨b, 0, none⟩) [c, d]) : Calls Tryz.prog 112 #[.slice (some ⟨b, 0, none⟩) 2 2] W fun e w' => e = .returned (.int .i64 (fe c d)) ∧ W = w' := by
  rw [← feL_two]
  exact firstError_any _ 2 [c, d] W h (by simp)

end Go.Proofs.YtkakdkolankmpaaGreat
