/- Several texts in one. -/
import Derived.Test.YtmigkbimdjiigaaLineC
import Derived.Test.YtmigkbimdjiigaaKnownT
import Derived.Test.YtmigkbimdjiigaaRefC
/- CodeLines: the walk. -/
set_option linter.unusedVariables false
set_option linter.unusedSimpArgs false
namespace Go.Proofs.Ytmigkbimdjiigaa
open Go.RowKit Tinker

theorem sameI_self (r : List Int) : sameI r r = true := by simp [sameI]
theorem rdA_len (l : L) : (rdA l).length ≤ 4 := by
  unfold rdA; split
  · have := plcTo_length (rd l) (rd l).length; rw [rd_length] at this; unfold plc; rw [rd_length]; exact this
  · simp

end Go.Proofs.Ytmigkbimdjiigaa

/- CodeRuns: the walk. -/
set_option linter.unusedVariables false
set_option linter.unusedSimpArgs false
namespace Go.Proofs.Ytmigkbimdjiigaa
open Go.RowKit Tinker

theorem runL_len (ps : List L) (s : List Int) : (runL ps s).length ≤ 4 := by
  unfold runL
  split
  · rename_i h; exact Nat.le_of_eq (runE_ok h).1
  · simp
theorem doneA_len (ps : List L) (s : List Int) : (doneA ps s).length ≤ 8 := by
  unfold doneA
  split
  · have := plcTo_length (doneL (runS ps s)) (doneL (runS ps s)).length
    unfold plc
    rwa [doneL_length] at this ⊢
  · simp

/-- The five lists of numbers of the law. -/
structure RnI (g a1 a2 a3 a4 : Option Addr) (s r1 r2 d1 d2 : List Int) (w W : World) : Prop where
  io : IntsAt W g s
  i1 : IntsAt W a1 r1
  i2 : IntsAt W a2 r2
  i3 : IntsAt W a3 d1
  i4 : IntsAt W a4 d2
  below : Below w.heap.size w W
theorem RnI.low {g a1 a2 a3 a4 : Option Addr} {s r1 r2 d1 d2 : List Int} {w W W' : World} (h : RnI g a1 a2 a3 a4 s r1 r2 d1 d2 w W) (hb : Below W.heap.size W W') : RnI g a1 a2 a3 a4 s r1 r2 d1 d2 w W' :=
  ⟨h.io.below hb (Nat.le_refl _), h.i1.below hb (Nat.le_refl _), h.i2.below hb (Nat.le_refl _), h.i3.below hb (Nat.le_refl _), h.i4.below hb (Nat.le_refl _), h.below.trans (hb.mono h.below.size)⟩

end Go.Proofs.Ytmigkbimdjiigaa
