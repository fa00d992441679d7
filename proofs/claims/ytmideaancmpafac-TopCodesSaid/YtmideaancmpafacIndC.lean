/- Independent of the document's answers: contracts. -/
import Derived.Test.YtmideaancmpafacIndB
set_option linter.unusedVariables false
set_option linter.unusedSimpArgs false
namespace Go.Proofs.Ytmideaancmpafac
open Go.RowKit Tinker

/-- Whether a line reads or writes a register. -/
def touB (m : L) (r : Int) : Bool := (rd m).getD r.toNat false || (Tinker.wr m && m.to == r)

/-- A line in its box. -/
structure OneI (x : Nat) (m : L) (w W : World) : Prop where
  bm : W.heap[x]? = some (.cells #[.int .i64 m.op, .int .i64 m.to, .int .i64 m.a, .int .i64 m.b] 43 (0, 0))
  below : Below w.heap.size w W
theorem OneI.low {x : Nat} {m : L} {w W W' : World} (h : OneI x m w W) (hb : Below W.heap.size W W') : OneI x m w W' := ⟨hp_below h.bm hb (hp_lt h.bm), h.below.trans (hb.mono h.below.size)⟩
theorem OneI.new (m : L) (w : World) : OneI w.heap.size m w (w.alloc (.cells #[.int .i64 m.op, .int .i64 m.to, .int .i64 m.a, .int .i64 m.b] 43)) := ⟨hp_new rfl, (Below.refl _ _).alloc (Nat.le_refl _) _⟩
theorem OneI.d0 {x : Nat} {m : L} {w W : World} (h : OneI x m w W) : W.cell? ⟨x, 0, none⟩ = some (.int .i64 m.op) := hp_cell h.bm (by rfl)
theorem OneI.d1 {x : Nat} {m : L} {w W : World} (h : OneI x m w W) : W.cell? ⟨x, 1, none⟩ = some (.int .i64 m.to) := hp_cell h.bm (by rfl)
theorem OneI.d2 {x : Nat} {m : L} {w W : World} (h : OneI x m w W) : W.cell? ⟨x, 2, none⟩ = some (.int .i64 m.a) := hp_cell h.bm (by rfl)
theorem OneI.d3 {x : Nat} {m : L} {w W : World} (h : OneI x m w W) : W.cell? ⟨x, 3, none⟩ = some (.int .i64 m.b) := hp_cell h.bm (by rfl)

theorem distB_tou (l m : L) : distB l m = (Tinker.wr l && touB m l.to) := rfl

end Go.Proofs.Ytmideaancmpafac
