/- Before of the document's answers: contract. -/
import Derived.Test.YtmpghapfldjfeaaBefA
set_option linter.unusedVariables false
set_option linter.unusedSimpArgs false
namespace Go.Proofs.Ytmpghapfldjfeaa
open Go.RowKit Tinker

theorem befAt_none {st : List (Nat × List Int)} {i : Nat} (h : ∀ x ∈ st, x.1 ≠ i) : befAt st i = none := by
  unfold befAt
  rw [Option.map_eq_none_iff, List.find?_eq_none]
  intro x hx
  simpa using h x hx
theorem befAt_at {st : List (Nat × List Int)} {k i : Nat} {s : List Int} (h : st[k]? = some (i, s)) (hn : ∀ j y, j < k → st[j]? = some y → y.1 ≠ i) : befAt st i = some s := by
  induction st generalizing k with
  | nil => simp at h
  | cons x r ih =>
    unfold befAt
    rw [List.find?_cons]
    cases k with
    | zero => simp at h; subst h; simp
    | succ k =>
      have h0 := hn 0 x (by omega) rfl
      have e : (x.1 == i) = false := by simpa using h0
      rw [e]
      exact ih (k := k) (by simpa using h) fun j y hj hy => hn (j + 1) y (by omega) (by simpa using hy)

end Go.Proofs.Ytmpghapfldjfeaa
