/- The law's own known. -/
import Derived.Test.YtndmjenfgggfbaaKnown
set_option linter.unusedVariables false
set_option linter.unusedSimpArgs false
namespace Go.Proofs.Ytndmjenfgggfbaa
open Go.RowKit Tinker

theorem ints_lit' {w : World} {zs : List Int} {t : TypeId} {n : Nat} (h : w.heap.size = n) : IntsAt (w.alloc (.cells (iv zs) t)) (some ⟨n, 0, none⟩) zs := by subst h; exact ints_lit w zs t
theorem exRun (W : World) (b b2 : Addr) (h1 : LinesAt W (some b) exP) (h2 : IntsAt W (some b2) [7, 7, 7, 7]) :
    Calls Try.prog 113 #[.slice (some b) 2 2, .slice (some b2) 4 4] W (GivesIntsE [6, 7, 7, 7] 0 W) := by
  have h := run_any (some b) (some b2) 2 4 exP [7, 7, 7, 7] W h1 h2 (by decide)
  rw [ex_1, ex_3] at h
  exact h
theorem exSame1 (W : World) (a : Option Addr) (c : Nat) (b : Addr) (h1 : IntsAt W a [6, 7, 7, 7]) (h2 : IntsAt W (some b) [6, 7, 7, 7]) :
    Calls Try.prog 29 #[.slice a 4 c, .slice (some b) 4 4] W fun e w' => e = .returned (.bool true) ∧ Below W.heap.size W w' := by
  have h := same_any a (some b) c 4 _ _ W h1 h2 (by decide)
  rw [show sameI [6, 7, 7, 7] [6, 7, 7, 7] = true by decide] at h
  exact h
theorem exSame2 (W : World) (a : Option Addr) (c : Nat) (b : Addr) (h1 : IntsAt W a [0, 1]) (h2 : IntsAt W (some b) [0, 1]) :
    Calls Try.prog 29 #[.slice a 2 c, .slice (some b) 2 2] W fun e w' => e = .returned (.bool true) ∧ Below W.heap.size W w' := by
  have h := same_any a (some b) c 2 _ _ W h1 h2 (by decide)
  rw [show sameI [0, 1] [0, 1] = true by decide] at h
  exact h
/-- The same, the lengths written out. -/
def GivesLit (n : Nat) (zs : List Int) (w : World) (e : Ending) (w' : World) : Prop := ∃ a c, e = .returned (.tuple #[.slice a n c, .int .i64 0]) ∧ IntsAt w' a zs ∧ Below w.heap.size w w'
theorem givesLit_of {n : Nat} {zs : List Int} {w : World} {e : Ending} {w' : World} (h : GivesIntsE zs 0 w e w') (hn : zs.length = n) : GivesLit n zs w e w' := by
  obtain ⟨a, c, he, ho, hb⟩ := h
  subst hn
  exact ⟨a, c, he, (ints_of_own ho).1, hb⟩

end Go.Proofs.Ytndmjenfgggfbaa
