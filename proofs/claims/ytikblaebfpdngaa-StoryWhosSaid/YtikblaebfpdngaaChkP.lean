/- Tests in the document's answers; Passes of both: contracts. -/
import Derived.Test.YtikblaebfpdngaaChkB
import Derived.Test.YtikblaebfpdngaaChkA
set_option linter.unusedVariables false
set_option linter.unusedSimpArgs false
namespace Go.Proofs.Ytikblaebfpdngaa
open Go.RowKit Tinker

theorem tests_one {w : World} {n : Nat} {a : Option Addr} {ca : Nat} {t : T} (h : w.heap.size = n) (hi : IntsAt w a t.inn) :
    TestsAt (w.alloc (.cells #[.slice a t.inn.length ca, .int .i64 t.out, .int .i64 t.want] 119)) (some ⟨n, 0, none⟩) [t] := by
  subst h
  refine .inr ⟨w.heap.size, 0, rfl, by simp, fun j u hj => ?_⟩
  match j, hj with
  | 0, hj =>
    simp at hj; subst hj
    exact ⟨a, ca, hp_cell (hp_new rfl) rfl, hp_cell (hp_new rfl) rfl, hp_cell (hp_new rfl) rfl, hi.below ((Below.refl _ _).alloc (Nat.le_refl _) _) (Nat.le_refl _)⟩
  | j + 1, hj => simp at hj

/-- What Passes answers. -/
def passV (ps : List L) (t : T) : Bool := if vpt ps [t] = 0 then pas ps t else false

end Go.Proofs.Ytikblaebfpdngaa
