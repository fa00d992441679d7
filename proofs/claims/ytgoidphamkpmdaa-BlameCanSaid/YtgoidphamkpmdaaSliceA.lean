/- matterBefore: contract. -/
import Derived.Test.YtgoidphamkpmdaaRunC
import Derived.Test.YtgoidphamkpmdaaPlain
set_option linter.unusedVariables false
set_option linter.unusedSimpArgs false
namespace Go.Proofs.Ytgoidphamkpmdaa
open Go.RowKit Tinker

theorem bools4 {s : List Bool} (h : s.length = 4) : ∃ s0 s1 s2 s3, s = [s0, s1, s2, s3] := by
  match s, h with
  | [a, b, c, d], _ => exact ⟨a, b, c, d, rfl⟩

def mat1 (l : L) (m : List Bool) : List Bool := if Tinker.wr l then m.set l.to.toNat false else m
theorem mat1_length (l : L) (m : List Bool) : (mat1 l m).length = m.length := by unfold mat1; split <;> simp

end Go.Proofs.Ytgoidphamkpmdaa
