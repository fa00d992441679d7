/- Several texts in one. -/
import Derived.Test.YtikblaebfpdngaaLineC
import Derived.Test.YtikblaebfpdngaaKnownT
import Derived.Test.YtikblaebfpdngaaRefC
/- CodeLines: the walk. -/
set_option linter.unusedVariables false
set_option linter.unusedSimpArgs false
namespace Go.Proofs.Ytikblaebfpdngaa
open Go.RowKit Tinker

/-- What holds on the way through the law: the box of the line, the two lists, nothing that was there has turned. -/
structure LnI (x : Nat) (l : L) (a b : Option Addr) (r : List Int) (w W : World) : Prop where
  bl : W.heap[x]? = some (.cells #[.int .i64 l.op, .int .i64 l.to, .int .i64 l.a, .int .i64 l.b] 33 (0, 0))
  ia : IntsAt W a r
  ib : IntsAt W b r
  below : Below w.heap.size w W
theorem LnI.low {x : Nat} {l : L} {a b : Option Addr} {r : List Int} {w W W1 W' : World} (h : LnI x l a b r w W) (hB : Below W1.heap.size W1 W') (he : W1 = W ∨ W1 = W.drew) : LnI x l a b r w W' := by
  have hb : Below W.heap.size W W' := by
    rcases he with rfl | rfl
    · exact hB
    · exact ⟨hB.os, hB.tape, hB.output, hB.size, hB.block⟩
  exact ⟨hp_below h.bl hb (hp_lt h.bl), h.ia.below hb (Nat.le_refl _), h.ib.below hb (Nat.le_refl _), h.below.trans (hb.mono h.below.size)⟩
theorem LnI.c0 {x : Nat} {l : L} {a b : Option Addr} {r : List Int} {w W : World} (h : LnI x l a b r w W) : W.cell? ⟨x, 0, none⟩ = some (.int .i64 l.op) := hp_cell h.bl (by rfl)
theorem LnI.c1 {x : Nat} {l : L} {a b : Option Addr} {r : List Int} {w W : World} (h : LnI x l a b r w W) : W.cell? ⟨x, 1, none⟩ = some (.int .i64 l.to) := hp_cell h.bl (by rfl)
theorem LnI.c2 {x : Nat} {l : L} {a b : Option Addr} {r : List Int} {w W : World} (h : LnI x l a b r w W) : W.cell? ⟨x, 2, none⟩ = some (.int .i64 l.a) := hp_cell h.bl (by rfl)
theorem LnI.c3 {x : Nat} {l : L} {a b : Option Addr} {r : List Int} {w W : World} (h : LnI x l a b r w W) : W.cell? ⟨x, 3, none⟩ = some (.int .i64 l.b) := hp_cell h.bl (by rfl)

theorem sameI_self (r : List Int) : sameI r r = true := by simp [sameI]
theorem rdA_len (l : L) : (rdA l).length ≤ 4 := by
  unfold rdA; split
  · have := plcTo_length (rd l) (rd l).length; rw [rd_length] at this; unfold plc; rw [rd_length]; exact this
  · simp

end Go.Proofs.Ytikblaebfpdngaa

/- CodeRuns: the walk. -/
set_option linter.unusedVariables false
set_option linter.unusedSimpArgs false
namespace Go.Proofs.Ytikblaebfpdngaa
open Go.RowKit Tinker

theorem runL_len (ps : List L) (s : List Int) : (runL ps s).length ≤ 4 := by
  unfold runL
  split
  · rename_i h; exact Nat.le_of_eq (runE_ok h).1
  · simp
theorem doneA_len (ps : List L) (s : List Int) : (doneA ps s).length ≤ 8 := by
  unfold doneA
  split
  · have := plcTo_length (doneL (runS ps s)) (doneL (runS ps s)).length
    unfold plc
    rwa [doneL_length] at this ⊢
  · simp

/-- The five lists of numbers of the law. -/
structure RnI (g a1 a2 a3 a4 : Option Addr) (s r1 r2 d1 d2 : List Int) (w W : World) : Prop where
  io : IntsAt W g s
  i1 : IntsAt W a1 r1
  i2 : IntsAt W a2 r2
  i3 : IntsAt W a3 d1
  i4 : IntsAt W a4 d2
  below : Below w.heap.size w W
theorem RnI.low {g a1 a2 a3 a4 : Option Addr} {s r1 r2 d1 d2 : List Int} {w W W' : World} (h : RnI g a1 a2 a3 a4 s r1 r2 d1 d2 w W) (hb : Below W.heap.size W W') : RnI g a1 a2 a3 a4 s r1 r2 d1 d2 w W' :=
  ⟨h.io.below hb (Nat.le_refl _), h.i1.below hb (Nat.le_refl _), h.i2.below hb (Nat.le_refl _), h.i3.below hb (Nat.le_refl _), h.i4.below hb (Nat.le_refl _), h.below.trans (hb.mono h.below.size)⟩

end Go.Proofs.Ytikblaebfpdngaa
