/- Several texts in one. -/
import Derived.Test.YtmigkbimdjiigaaIn
import Derived.Laws.EntriesVeiled
import Derived.Deep.RegionHeld3
import Derived.Deep.DeepCutAuto
import Derived.Laws.CopyOwn
/- isLine, writes, reads: contracts. -/
set_option linter.unusedVariables false
set_option linter.unusedSimpArgs false
namespace Go.Proofs.Ytmigkbimdjiigaa
open Go.RowKit Tinker

theorem isLn_out {l : L} (h : l.op < 0 ∨ 7 < l.op) : isLn l = false := by
  unfold isLn; rw [if_neg (by omega), if_neg (by omega), if_neg (by omega), if_neg (by omega), if_neg (by omega)]

theorem isLn_in {op td a b k0 k1 k2 : Int} (ho : 0 ≤ op ∧ op ≤ 7)
    (h : (op = 0 ∧ k0 = 0 ∧ k1 = 0 ∧ k2 = 0) ∨ (op = 1 ∧ k0 = 1 ∧ k1 = 2 ∧ k2 = 0) ∨ (op = 2 ∧ k0 = 1 ∧ k1 = 1 ∧ k2 = 0) ∨ (3 ≤ op ∧ op ≤ 6 ∧ k0 = 1 ∧ k1 = 1 ∧ k2 = 1) ∨ (op = 7 ∧ k0 = 3 ∧ k1 = 1 ∧ k2 = 1)) :
    (allowsK k0 td && (allowsK k1 a && allowsK k2 b)) = isLn ⟨op, td, a, b⟩ := by
  rcases h with ⟨rfl, rfl, rfl, rfl⟩ | ⟨rfl, rfl, rfl, rfl⟩ | ⟨rfl, rfl, rfl, rfl⟩ | ⟨h1, h2, rfl, rfl, rfl⟩ | ⟨rfl, rfl, rfl, rfl⟩
  · simp [isLn, allowsK, Bool.and_assoc]
  · simp [isLn, allowsK, Bool.and_assoc]
  · simp [isLn, allowsK, Bool.and_assoc]
  · unfold isLn
    rw [if_neg (by show ¬ op = 0; omega), if_neg (by show ¬ op = 1; omega), if_neg (by show ¬ op = 2; omega), if_pos ⟨h1, h2⟩]
    simp [allowsK, Bool.and_assoc]
  · simp [isLn, allowsK, Bool.and_assoc]

/-- The value of a line. -/
def lv (l : L) : Value := .agg #[.int .i64 l.op, .int .i64 l.to, .int .i64 l.a, .int .i64 l.b]

end Go.Proofs.Ytmigkbimdjiigaa

/- writes, reads: contracts. -/
set_option linter.unusedVariables false
set_option linter.unusedSimpArgs false
namespace Go.Proofs.Ytmigkbimdjiigaa
open Go.RowKit Tinker

/-- The cells of a list of bools. -/
def bv (l : List Bool) : Array Value := (l.map Value.bool).toArray
theorem bv_size (l : List Bool) : (bv l).size = l.length := by simp [bv]
theorem bv_get (l : List Bool) (n : Nat) (h : n < l.length) : (bv l)[n]? = some (.bool (l.getD n false)) := by
  simp [bv, List.getD_eq_getElem?_getD, h]
theorem bv_set (l : List Bool) (n : Nat) (x : Bool) : (bv l).setIfInBounds n (.bool x) = bv (l.set n x) := by
  simp [bv, List.map_set]
theorem bv_one (l : List Bool) : (bv l).all (·.oneCell') = true := by
  rw [Array.all_eq_true_iff_forall_mem]
  intro v hv
  simp only [bv, List.mem_toArray, List.mem_map] at hv
  obtain ⟨x, _, rfl⟩ := hv
  rfl
theorem iv_set (l : List Int) (n : Nat) (x : Int) : (iv l).setIfInBounds n (.int .i64 x) = iv (l.set n x) := by
  simp [iv, List.map_set]
theorem iv_one (l : List Int) : (iv l).all (·.oneCell') = true := by
  rw [Array.all_eq_true_iff_forall_mem]
  intro v hv
  simp only [iv, List.mem_toArray, List.mem_map] at hv
  obtain ⟨x, _, rfl⟩ := hv
  rfl

end Go.Proofs.Ytmigkbimdjiigaa
