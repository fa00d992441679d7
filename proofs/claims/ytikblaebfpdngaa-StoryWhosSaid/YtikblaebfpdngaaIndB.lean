/- Several texts in one. -/
import Derived.Test.YtikblaebfpdngaaLineC
import Derived.Test.YtikblaebfpdngaaKnownT
/- Independent lines: contracts. -/
set_option linter.unusedVariables false
set_option linter.unusedSimpArgs false
namespace Go.Proofs.Ytikblaebfpdngaa
open Go.RowKit Tinker

attribute [local go_sem] undef

/-- Whether l writes a register that m reads or writes. -/
def distB (l m : L) : Bool := Tinker.wr l && ((rd m).getD l.to.toNat false || (Tinker.wr m && m.to == l.to))
/-- Whether two lines are independent. -/
def indB (l m : L) : Bool := l.op != 7 && (m.op != 7 && (!distB l m && !distB m l))
/-- What Independent answers. -/
def indA (l m : L) : Bool := isLn l && (isLn m && indB l m)
def indC (l m : L) : Int := fe (vl l) (vl m)
theorem vl_cases (l : L) : (isLn l = true ∧ vl l = 0) ∨ (isLn l = false ∧ vl l = 1) := by
  unfold vl; cases isLn l <;> simp
theorem indA_comm (l m : L) : indA l m = indA m l := by
  unfold indA indB
  cases isLn l <;> cases isLn m <;> simp
  cases (l.op != 7) <;> cases (m.op != 7) <;> cases distB l m <;> cases distB m l <;> rfl
theorem indC_comm (l m : L) : indC l m = indC m l := by
  unfold indC
  rcases vl_cases l with ⟨_, h⟩ | ⟨_, h⟩ <;> rcases vl_cases m with ⟨_, h'⟩ | ⟨_, h'⟩ <;> rw [h, h'] <;> rfl

/-- Two lines in their boxes; nothing that was there has turned. -/
structure TwoI (x y : Nat) (l m : L) (w W : World) : Prop where
  bl : W.heap[x]? = some (.cells #[.int .i64 l.op, .int .i64 l.to, .int .i64 l.a, .int .i64 l.b] 33 (0, 0))
  bm : W.heap[y]? = some (.cells #[.int .i64 m.op, .int .i64 m.to, .int .i64 m.a, .int .i64 m.b] 33 (0, 0))
  below : Below w.heap.size w W
theorem TwoI.low {x y : Nat} {l m : L} {w W W1 W' : World} (h : TwoI x y l m w W) (hB : Below W1.heap.size W1 W') (he : W1 = W ∨ W1 = W.drew) : TwoI x y l m w W' := by
  have hb : Below W.heap.size W W' := by
    rcases he with rfl | rfl
    · exact hB
    · exact ⟨hB.os, hB.tape, hB.output, hB.size, hB.block⟩
  exact ⟨hp_below h.bl hb (hp_lt h.bl), hp_below h.bm hb (hp_lt h.bm), h.below.trans (hb.mono h.below.size)⟩
theorem TwoI.new (l m : L) (w : World) : TwoI w.heap.size (w.heap.size + 1) l m w ((w.alloc (.cells #[.int .i64 l.op, .int .i64 l.to, .int .i64 l.a, .int .i64 l.b] 33)).alloc (.cells #[.int .i64 m.op, .int .i64 m.to, .int .i64 m.a, .int .i64 m.b] 33)) :=
  ⟨hp_alloc (hp_new rfl), hp_new (by simp), ((Below.refl _ _).alloc (Nat.le_refl _) _).alloc (by simp) _⟩
theorem TwoI.c0 {x y : Nat} {l m : L} {w W : World} (h : TwoI x y l m w W) : W.cell? ⟨x, 0, none⟩ = some (.int .i64 l.op) := hp_cell h.bl (by rfl)
theorem TwoI.d0 {x y : Nat} {l m : L} {w W : World} (h : TwoI x y l m w W) : W.cell? ⟨y, 0, none⟩ = some (.int .i64 m.op) := hp_cell h.bm (by rfl)
theorem TwoI.c1 {x y : Nat} {l m : L} {w W : World} (h : TwoI x y l m w W) : W.cell? ⟨x, 1, none⟩ = some (.int .i64 l.to) := hp_cell h.bl (by rfl)
theorem TwoI.d1 {x y : Nat} {l m : L} {w W : World} (h : TwoI x y l m w W) : W.cell? ⟨y, 1, none⟩ = some (.int .i64 m.to) := hp_cell h.bm (by rfl)
theorem TwoI.c2 {x y : Nat} {l m : L} {w W : World} (h : TwoI x y l m w W) : W.cell? ⟨x, 2, none⟩ = some (.int .i64 l.a) := hp_cell h.bl (by rfl)
theorem TwoI.d2 {x y : Nat} {l m : L} {w W : World} (h : TwoI x y l m w W) : W.cell? ⟨y, 2, none⟩ = some (.int .i64 m.a) := hp_cell h.bm (by rfl)
theorem TwoI.c3 {x y : Nat} {l m : L} {w W : World} (h : TwoI x y l m w W) : W.cell? ⟨x, 3, none⟩ = some (.int .i64 l.b) := hp_cell h.bl (by rfl)
theorem TwoI.d3 {x y : Nat} {l m : L} {w W : World} (h : TwoI x y l m w W) : W.cell? ⟨y, 3, none⟩ = some (.int .i64 m.b) := hp_cell h.bm (by rfl)

end Go.Proofs.Ytikblaebfpdngaa

/- Independent: contracts. -/
set_option linter.unusedVariables false
set_option linter.unusedSimpArgs false
namespace Go.Proofs.Ytikblaebfpdngaa
open Go.RowKit Tinker

/-- firstError of the two numbers that a region has just laid. -/
theorem firstError_at (b : Nat) (W : World) (c d : Int) (h : IntsAt W (some ⟨b, 0, none⟩) [c, d]) : Calls Try.prog 79 #[.slice (some ⟨b, 0, none⟩) 2 2] W fun e w' => e = .returned (.int .i64 (fe c d)) ∧ W = w' := by
  rw [← feL_two]
  exact firstError_any _ 2 [c, d] W h (by simp)

end Go.Proofs.Ytikblaebfpdngaa
