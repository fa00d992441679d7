/- trace of the document's answers: contract. -/
import Derived.Test.YtmideaancmpafacTrA
import Derived.BigQuiet
import Derived.Deep.QuietTactic
set_option linter.unusedVariables false
set_option linter.unusedSimpArgs false
namespace Go.Proofs.Ytmideaancmpafac
open Go.RowKit Tinker

theorem wr_op {l : L} : Tinker.wr l = true ↔ l.op ≠ 0 ∧ l.op ≠ 7 := by simp [Tinker.wr]
theorem cell_two_new (w : World) (x y : Value) (t : TypeId) : ∀ j u, [x, y][j]? = some u → (w.alloc (.cells #[x, y] t)).cell? ((⟨w.heap.size, 0, none⟩ : Addr).add j) = some u := by
  intro j u hj
  match j, hj with
  | 0, hj => simp at hj; subst hj; simp [Addr.add]
  | 1, hj => simp at hj; subst hj; simp [Addr.add]
  | j + 2, hj => simp at hj

theorem nxt_skip {l : L} {s : List Int} {i : Nat} (h : skips l s = true) : nxt l s i = i + 1 + l.to.toNat := by unfold nxt; rw [h]; rfl
theorem nxt_step {l : L} {s : List Int} {i : Nat} (h : skips l s = false) : nxt l s i = i + 1 := by unfold nxt; rw [h]; rfl
theorem fL_ok {ls vs : List Int} (hn : vs.length = ls.length) (hb : ∀ n ∈ vs, -999 ≤ n ∧ n ≤ 999) {i : Nat} {n : Int} (h : fL ls vs i = some n) : -999 ≤ n ∧ n ≤ 999 := by
  obtain ⟨j, h1, h2, h3⟩ := fLk_some h
  obtain ⟨x, hx⟩ := get_of_lt (show j < vs.length by omega)
  rw [getD_of_get hx] at h3
  subst h3
  exact hb _ (mem_of_get hx)

end Go.Proofs.Ytmideaancmpafac
