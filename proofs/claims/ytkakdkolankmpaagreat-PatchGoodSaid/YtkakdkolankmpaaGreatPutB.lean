/- Put of package code: contract. -/
import Derived.Test.YtkakdkolankmpaaGreatPutA
set_option linter.unusedVariables false
set_option linter.unusedSimpArgs false
namespace Go.Proofs.YtkakdkolankmpaaGreat
open Go.RowKit Tinker

/-- The box of a line lies in block x. -/
structure BoxL (x : Nat) (l : L) (w W : World) : Prop where
  bl : W.heap[x]? = some (.cells #[.int .i64 l.op, .int .i64 l.to, .int .i64 l.a, .int .i64 l.b] 45 (0, 0))
  below : Below w.heap.size w W
theorem BoxL.low {x : Nat} {l : L} {w W W1 W' : World} (h : BoxL x l w W) (hB : Below W1.heap.size W1 W') (he : W1 = W ∨ W1 = W.drew) : BoxL x l w W' := by
  have hb : Below W.heap.size W W' := by
    rcases he with rfl | rfl
    · exact hB
    · exact ⟨hB.os, hB.tape, hB.output, hB.size, hB.block⟩
  exact ⟨hp_below h.bl hb (hp_lt h.bl), h.below.trans (hb.mono h.below.size)⟩
theorem BoxL.new (l : L) (w : World) : BoxL w.heap.size l w (w.alloc (.cells #[.int .i64 l.op, .int .i64 l.to, .int .i64 l.a, .int .i64 l.b] 45)) := ⟨hp_new rfl, (Below.refl _ _).alloc (Nat.le_refl _) _⟩
theorem BoxL.c0 {x : Nat} {l : L} {w W : World} (h : BoxL x l w W) : W.cell? ⟨x, 0, none⟩ = some (.int .i64 l.op) := hp_cell h.bl (by rfl)
theorem BoxL.c1 {x : Nat} {l : L} {w W : World} (h : BoxL x l w W) : W.cell? ⟨x, 1, none⟩ = some (.int .i64 l.to) := hp_cell h.bl (by rfl)
theorem BoxL.c2 {x : Nat} {l : L} {w W : World} (h : BoxL x l w W) : W.cell? ⟨x, 2, none⟩ = some (.int .i64 l.a) := hp_cell h.bl (by rfl)
theorem BoxL.c3 {x : Nat} {l : L} {w W : World} (h : BoxL x l w W) : W.cell? ⟨x, 3, none⟩ = some (.int .i64 l.b) := hp_cell h.bl (by rfl)

end Go.Proofs.YtkakdkolankmpaaGreat
