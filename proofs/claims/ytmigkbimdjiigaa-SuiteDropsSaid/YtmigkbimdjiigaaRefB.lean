/- Several texts in one. -/
import Derived.Test.YtmigkbimdjiigaaLineC
/- Validate, ValidateState, asked, Cut, value of the document's answers: contracts. -/
set_option linter.unusedVariables false
set_option linter.unusedSimpArgs false
namespace Go.Proofs.Ytmigkbimdjiigaa
open Go.RowKit Tinker

end Go.Proofs.Ytmigkbimdjiigaa

/- value of the document's answers: contract. -/
set_option linter.unusedVariables false
set_option linter.unusedSimpArgs false
namespace Go.Proofs.Ytmigkbimdjiigaa
open Go.RowKit Tinker

theorem okS_at {w : World} {a : Option Addr} {s : List Int} (hs : IntsAt w a s) (ho : okS s) (n : Int) (h0 : 0 ≤ n) (h3 : n ≤ 3) : ∃ b off, a = some ⟨b, off, none⟩ ∧ b < w.heap.size ∧ ∀ n : Int, 0 ≤ n → n ≤ 3 → w.cell? ⟨b, off + n.toNat, none⟩ = some (.int .i64 (rg s n)) := by
  obtain ⟨b, off, e, hlt, hc⟩ := hs.resolve_left (by rintro rfl; have := ho.1; simp at this)
  refine ⟨b, off, e, hlt, fun n h0 h3 => ?_⟩
  obtain ⟨x, hx⟩ := get_of_lt (show n.toNat < s.length by have := ho.1; omega)
  have : rg s n = x := getD_of_get hx
  rw [this]
  exact hc _ _ hx

end Go.Proofs.Ytmigkbimdjiigaa
