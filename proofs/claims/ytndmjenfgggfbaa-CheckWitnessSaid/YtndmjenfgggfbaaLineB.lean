/- Reads and Writes, of the code and of the document's answers: contracts. -/
import Derived.Test.YtndmjenfgggfbaaLineA
set_option linter.unusedVariables false
set_option linter.unusedSimpArgs false
namespace Go.Proofs.Ytndmjenfgggfbaa
open Go.RowKit Tinker

/-- What Reads answers. -/
def rdA (l : L) : List Int := if isLn l then plc (rd l) else []
/-- The register of Writes, and whether there is one. -/
def wrN (l : L) : Int := if isLn l && Tinker.wr l then l.to else 0
def wrB (l : L) : Bool := isLn l && Tinker.wr l

theorem ret3 {a : Int} {b : Bool} {c a' : Int} {b' : Bool} {c' : Int} (h1 : a = a') (h2 : b = b') (h3 : c = c') : Ending.returned (.tuple #[.int .i64 a, .bool b, .int .i64 c]) = .returned (.tuple #[.int .i64 a', .bool b', .int .i64 c']) := by rw [h1, h2, h3]

set_option maxHeartbeats 400000 in
theorem rWrites_any (l : L) (w : World) : Calls Try.prog 123 #[lv l] w fun e w' => e = .returned (.bool (Tinker.wr l)) ∧ Below w.heap.size w w' := by
  unfold lv
  by_cases h0 : l.op = 0
  · have e0 : (l.op != 0) = false := by simp [h0]
    have e1 : (l.op == 0) = true := by simp [h0]
    have hw : Tinker.wr l = false := by unfold Tinker.wr; rw [e0]; rfl
    rw [hw]
    clear h0 hw
    go_enter Try.func123, Try.ntmps123
    go_wp2_with fail
    go_ret
    exact ⟨rfl, (Below.refl _ _).alloc (Nat.le_refl _) _⟩
  · have e0 : (l.op != 0) = true := by simpa using h0
    have e1 : (l.op == 0) = false := by simpa using h0
    have hw : Tinker.wr l = (l.op != 7) := by unfold Tinker.wr; rw [e0]; rfl
    rw [hw]
    clear h0 hw
    go_enter Try.func123, Try.ntmps123
    go_wp2_with fail
    go_ret
    exact ⟨rfl, (Below.refl _ _).alloc (Nat.le_refl _) _⟩

end Go.Proofs.Ytndmjenfgggfbaa
