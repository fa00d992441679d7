/- reads, set, Reads, Writes of the document's answers: contracts. -/
import Derived.Test.YtndmjenfgggfbaaLineB
set_option linter.unusedVariables false
set_option linter.unusedSimpArgs false
namespace Go.Proofs.Ytndmjenfgggfbaa
open Go.RowKit Tinker

theorem mk4 (w : World) : (Instr.makeSlice 84 (.int .i64 4) (.int .i64 4)).run Try.prog w = .ok (.slice (some ⟨w.heap.size, 0, none⟩) 4 4) (w.alloc (.cells #[.bool false, .bool false, .bool false, .bool false] 4)) := by kernel_rfl

/-- A new slice of bools. -/
def GivesBools (n : Nat) (bs : List Bool) (w : World) (e : Ending) (w' : World) : Prop := ∃ b, e = .returned (.slice (some ⟨b, 0, none⟩) n n) ∧ w'.heap[b]? = some (.cells (bv bs) 4 (0, 0)) ∧ w.heap.size ≤ b ∧ Below w.heap.size w w'

end Go.Proofs.Ytndmjenfgggfbaa
