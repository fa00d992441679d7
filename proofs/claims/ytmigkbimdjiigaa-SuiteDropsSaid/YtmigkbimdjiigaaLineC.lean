/- Several texts in one. -/
import Derived.Test.YtmigkbimdjiigaaRunC
import Derived.Test.YtmigkbimdjiigaaSliceC
/- ValidateLine, Reads, Writes, and their answers of the document: contracts. -/
set_option linter.unusedVariables false
set_option linter.unusedSimpArgs false
namespace Go.Proofs.Ytmigkbimdjiigaa
open Go.RowKit Tinker

/-- The code of a line. -/
def vl (l : L) : Int := if isLn l then 0 else 1

theorem isLn_0 (td a b : Int) : isLn ⟨0, td, a, b⟩ = (td == 0 && (a == 0 && b == 0)) := by simp [isLn, Bool.and_assoc]
theorem isLn_1 (td a b : Int) : isLn ⟨1, td, a, b⟩ = (isReg td && (btw a (-9) 9 && b == 0)) := by simp [isLn, Bool.and_assoc]
theorem isLn_2 (td a b : Int) : isLn ⟨2, td, a, b⟩ = (isReg td && (isReg a && b == 0)) := by simp [isLn, Bool.and_assoc]
theorem isLn_36 (op td a b : Int) (h1 : 3 ≤ op) (h2 : op ≤ 6) : isLn ⟨op, td, a, b⟩ = (isReg td && (isReg a && isReg b)) := by
  unfold isLn
  rw [if_neg (by show ¬ op = 0; omega), if_neg (by show ¬ op = 1; omega), if_neg (by show ¬ op = 2; omega), if_pos ⟨h1, h2⟩]
  simp [Bool.and_assoc]
theorem isLn_7 (td a b : Int) : isLn ⟨7, td, a, b⟩ = (btw td 1 8 && (isReg a && isReg b)) := by simp [isLn, Bool.and_assoc]

end Go.Proofs.Ytmigkbimdjiigaa

/- Reads and Writes, of the code and of the document's answers: contracts. -/
set_option linter.unusedVariables false
set_option linter.unusedSimpArgs false
namespace Go.Proofs.Ytmigkbimdjiigaa
open Go.RowKit Tinker

/-- What Reads answers. -/
def rdA (l : L) : List Int := if isLn l then plc (rd l) else []
/-- The register of Writes, and whether there is one. -/
def wrN (l : L) : Int := if isLn l && Tinker.wr l then l.to else 0
def wrB (l : L) : Bool := isLn l && Tinker.wr l

theorem ret3 {a : Int} {b : Bool} {c a' : Int} {b' : Bool} {c' : Int} (h1 : a = a') (h2 : b = b') (h3 : c = c') : Ending.returned (.tuple #[.int .i64 a, .bool b, .int .i64 c]) = .returned (.tuple #[.int .i64 a', .bool b', .int .i64 c']) := by rw [h1, h2, h3]

end Go.Proofs.Ytmigkbimdjiigaa

/- reads, set, Reads, Writes of the document's answers: contracts. -/
set_option linter.unusedVariables false
set_option linter.unusedSimpArgs false
namespace Go.Proofs.Ytmigkbimdjiigaa
open Go.RowKit Tinker

theorem mk4 (w : World) : (Instr.makeSlice 66 (.int .i64 4) (.int .i64 4)).run Try.prog w = .ok (.slice (some ⟨w.heap.size, 0, none⟩) 4 4) (w.alloc (.cells #[.bool false, .bool false, .bool false, .bool false] 4)) := by kernel_rfl

/-- A new slice of bools. -/
def GivesBools (n : Nat) (bs : List Bool) (w : World) (e : Ending) (w' : World) : Prop := ∃ b, e = .returned (.slice (some ⟨b, 0, none⟩) n n) ∧ w'.heap[b]? = some (.cells (bv bs) 4 (0, 0)) ∧ w.heap.size ≤ b ∧ Below w.heap.size w w'

end Go.Proofs.Ytmigkbimdjiigaa
