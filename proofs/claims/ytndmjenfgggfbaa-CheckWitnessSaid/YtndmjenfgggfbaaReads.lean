/- writes, reads: contracts. -/
import Derived.Test.YtndmjenfgggfbaaIsLine
import Derived.Laws.CopyOwn
set_option linter.unusedVariables false
set_option linter.unusedSimpArgs false
namespace Go.Proofs.Ytndmjenfgggfbaa
open Go.RowKit Tinker

/-- The cells of a list of bools. -/
def bv (l : List Bool) : Array Value := (l.map Value.bool).toArray
theorem bv_size (l : List Bool) : (bv l).size = l.length := by simp [bv]
theorem bv_get (l : List Bool) (n : Nat) (h : n < l.length) : (bv l)[n]? = some (.bool (l.getD n false)) := by
  simp [bv, List.getD_eq_getElem?_getD, h]
theorem bv_set (l : List Bool) (n : Nat) (x : Bool) : (bv l).setIfInBounds n (.bool x) = bv (l.set n x) := by
  simp [bv, List.map_set]
theorem bv_one (l : List Bool) : (bv l).all (·.oneCell') = true := by
  rw [Array.all_eq_true_iff_forall_mem]
  intro v hv
  simp only [bv, List.mem_toArray, List.mem_map] at hv
  obtain ⟨x, _, rfl⟩ := hv
  rfl
theorem iv_set (l : List Int) (n : Nat) (x : Int) : (iv l).setIfInBounds n (.int .i64 x) = iv (l.set n x) := by
  simp [iv, List.map_set]
theorem iv_one (l : List Int) : (iv l).all (·.oneCell') = true := by
  rw [Array.all_eq_true_iff_forall_mem]
  intro v hv
  simp only [iv, List.mem_toArray, List.mem_map] at hv
  obtain ⟨x, _, rfl⟩ := hv
  rfl

end Go.Proofs.Ytndmjenfgggfbaa
