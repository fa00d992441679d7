/- Several texts in one. -/
import Derived.Test.YtikblaebfpdngaaLns
import Derived.Test.YtikblaebfpdngaaRefB
import Derived.Deep.MidRow
import Derived.BigQuiet
import Derived.Deep.QuietTactic
/- Same, Put of the document's answers; Put of package code: contracts. -/
set_option linter.unusedVariables false
set_option linter.unusedSimpArgs false
namespace Go.Proofs.Ytikblaebfpdngaa
open Go.RowKit Tinker

/-- The code of Put, and its answer. -/
def putC (ps : List L) (at_ : Int) (l : L) : Int := if fe (vp ps) (vl l) = 0 then (if btw at_ 0 ((ps.length : Int) - 1) then 0 else 4) else fe (vp ps) (vl l)
def putP (ps : List L) (at_ : Int) (l : L) : List L := if putC ps at_ l = 0 then ps.set at_.toNat l else []
theorem putP_length (ps : List L) (at_ : Int) (l : L) : (putP ps at_ l).length ≤ ps.length := by unfold putP; split <;> simp

theorem vl_isLn {l : L} (h : vl l = 0) : isLn l = true := by unfold vl at h; split at h <;> simp_all
theorem info_ln : (Try.prog.info? 33).map (·.size) = some 4 := by kernel_rfl
theorem one_line (l : L) : (#[.int .i64 l.op, .int .i64 l.to, .int .i64 l.a, .int .i64 l.b] : Array Value).all (·.oneCell') = true := by simp [Value.oneCell']
theorem setCells4 (W : World) (g o : Nat) (a b c d : Value) : W.setCells g o [a, b, c, d] = (((W.setCell ⟨g, o, none⟩ a).setCell ⟨g, o + 1, none⟩ b).setCell ⟨g, o + 2, none⟩ c).setCell ⟨g, o + 3, none⟩ d := rfl

/-- The line at is put into an owned row. -/
theorem puts_line {w W : World} {g n c : Nat} {ps : List L} (h : W.ownsRow w.heap.size 33 4 (.slice (some ⟨g, 0, none⟩) n c) n (lc ps)) {i : Nat} (hi : i < ps.length) (l : L) (hB : Below w.heap.size w W) :
    (W.setCells g (i * 4) [.int .i64 l.op, .int .i64 l.to, .int .i64 l.a, .int .i64 l.b]).ownsRow w.heap.size 33 4 (.slice (some ⟨g, 0, none⟩) n c) n (lc (ps.set i l)) ∧ Below w.heap.size w (W.setCells g (i * 4) [.int .i64 l.op, .int .i64 l.to, .int .i64 l.a, .int .i64 l.b]) := by
  have hg := own_base' h
  rw [setCells4]
  exact ⟨own_setLine h hi l, (((hB.setCell (p := ⟨g, _, none⟩) hg _).setCell (p := ⟨g, _, none⟩) hg _).setCell (p := ⟨g, _, none⟩) hg _).setCell (p := ⟨g, _, none⟩) hg _⟩

end Go.Proofs.Ytikblaebfpdngaa

/- Put of package code: contract. -/
set_option linter.unusedVariables false
set_option linter.unusedSimpArgs false
namespace Go.Proofs.Ytikblaebfpdngaa
open Go.RowKit Tinker

/-- The box of a line lies in block x. -/
structure BoxL (x : Nat) (l : L) (w W : World) : Prop where
  bl : W.heap[x]? = some (.cells #[.int .i64 l.op, .int .i64 l.to, .int .i64 l.a, .int .i64 l.b] 33 (0, 0))
  below : Below w.heap.size w W
theorem BoxL.low {x : Nat} {l : L} {w W W1 W' : World} (h : BoxL x l w W) (hB : Below W1.heap.size W1 W') (he : W1 = W ∨ W1 = W.drew) : BoxL x l w W' := by
  have hb : Below W.heap.size W W' := by
    rcases he with rfl | rfl
    · exact hB
    · exact ⟨hB.os, hB.tape, hB.output, hB.size, hB.block⟩
  exact ⟨hp_below h.bl hb (hp_lt h.bl), h.below.trans (hb.mono h.below.size)⟩
theorem BoxL.new (l : L) (w : World) : BoxL w.heap.size l w (w.alloc (.cells #[.int .i64 l.op, .int .i64 l.to, .int .i64 l.a, .int .i64 l.b] 33)) := ⟨hp_new rfl, (Below.refl _ _).alloc (Nat.le_refl _) _⟩
theorem BoxL.c0 {x : Nat} {l : L} {w W : World} (h : BoxL x l w W) : W.cell? ⟨x, 0, none⟩ = some (.int .i64 l.op) := hp_cell h.bl (by rfl)
theorem BoxL.c1 {x : Nat} {l : L} {w W : World} (h : BoxL x l w W) : W.cell? ⟨x, 1, none⟩ = some (.int .i64 l.to) := hp_cell h.bl (by rfl)
theorem BoxL.c2 {x : Nat} {l : L} {w W : World} (h : BoxL x l w W) : W.cell? ⟨x, 2, none⟩ = some (.int .i64 l.a) := hp_cell h.bl (by rfl)
theorem BoxL.c3 {x : Nat} {l : L} {w W : World} (h : BoxL x l w W) : W.cell? ⟨x, 3, none⟩ = some (.int .i64 l.b) := hp_cell h.bl (by rfl)

end Go.Proofs.Ytikblaebfpdngaa
