/- Whether two lines are equal: the run of the comparison. -/
import Derived.Test.YtfmheeboogffeaaSkA
import Derived.Laws.StructEq
import Derived.Shelf.SlicesQ.Index
set_option linter.unusedVariables false
set_option linter.unusedSimpArgs false
namespace Go.Proofs.Ytfmheeboogffeaa
open Go.RowKit Go.Shelf Tinker

def encL (l : L) : List Value := [.int .i64 l.op, .int .i64 l.to, .int .i64 l.a, .int .i64 l.b]
theorem eqLn : EqlAt Try.prog 23 (fun l => .agg (encL l).toArray) eqL := by
  refine ⟨fun x y w => ?_, GuardAt.agg _ (by kernel_rfl)⟩
  have u3 := Try.underlying3
  have a3 := Try.isAgg3
  have z3 := Try.sizeOf3
  have hS : Try.prog.underlying 23 = some (.struct (Try.prog.fieldsOf 23)) := by kernel_rfl
  have hp : Try.prog.stoodInHeld 23 = false := by kernel_rfl
  simp only [encL]
  rw [run_eql_struct, show (10000 : Nat) = 9999 + 1 from rfl, run_equalIn_agg w 9999 23 _ _ hS hp]
  simp only [Program.fieldsOf, Try.underlying23]
  go_simp
  by_cases h1 : x.op = y.op <;> by_cases h2 : x.to = y.to <;> by_cases h3 : x.a = y.a <;> by_cases h4 : x.b = y.b <;> simp [h1, h2, h3, h4, eqL]
theorem run_eqL (l m : L) (w : World) : Sem.run Try.prog (binOp .eql 23 (.agg #[.int .i64 l.op, .int .i64 l.to, .int .i64 l.a, .int .i64 l.b]) (.agg #[.int .i64 m.op, .int .i64 m.to, .int .i64 m.a, .int .i64 m.b])) w = .ok (.bool (eqL l m)) w := eqLn.1 l m w

end Go.Proofs.Ytfmheeboogffeaa
