/- matterBefore: contract. -/
import Derived.Test.YtigaklppdlknkaaRunC
import Derived.Test.YtigaklppdlknkaaPlain
set_option linter.unusedVariables false
set_option linter.unusedSimpArgs false
namespace Go.Proofs.Ytigaklppdlknkaa
open Go.RowKit Tinker

theorem bools4 {s : List Bool} (h : s.length = 4) : ∃ s0 s1 s2 s3, s = [s0, s1, s2, s3] := by
  match s, h with
  | [a, b, c, d], _ => exact ⟨a, b, c, d, rfl⟩

theorem idx_b4_0 (a b c d : Bool) (w : World) : (Instr.index 168 (.agg #[.bool a, .bool b, .bool c, .bool d]) (.int .i64 0)).run Try.prog w = .ok (.bool a) w := by kernel_rfl
theorem idx_b4_1 (a b c d : Bool) (w : World) : (Instr.index 168 (.agg #[.bool a, .bool b, .bool c, .bool d]) (.int .i64 1)).run Try.prog w = .ok (.bool b) w := by kernel_rfl
theorem idx_b4_2 (a b c d : Bool) (w : World) : (Instr.index 168 (.agg #[.bool a, .bool b, .bool c, .bool d]) (.int .i64 2)).run Try.prog w = .ok (.bool c) w := by kernel_rfl
theorem idx_b4_3 (a b c d : Bool) (w : World) : (Instr.index 168 (.agg #[.bool a, .bool b, .bool c, .bool d]) (.int .i64 3)).run Try.prog w = .ok (.bool d) w := by kernel_rfl
theorem idx_b4 (r : List Bool) (h : r.length = 4) (k : Nat) (hk : k < 4) : ∀ w, (Instr.index 168 (.agg (bv r)) (.int .i64 (k : Int))).run Try.prog w = .ok (.bool (r.getD k false)) w := by
  obtain ⟨a, b, c, d, rfl⟩ := bools4 h
  have hc : k = 0 ∨ k = 1 ∨ k = 2 ∨ k = 3 := by omega
  rcases hc with rfl | rfl | rfl | rfl
  · exact idx_b4_0 a b c d
  · exact idx_b4_1 a b c d
  · exact idx_b4_2 a b c d
  · exact idx_b4_3 a b c d

def mat1 (l : L) (m : List Bool) : List Bool := if Tinker.wr l then m.set l.to.toNat false else m
theorem mat1_length (l : L) (m : List Bool) : (mat1 l m).length = m.length := by unfold mat1; split <;> simp

end Go.Proofs.Ytigaklppdlknkaa
