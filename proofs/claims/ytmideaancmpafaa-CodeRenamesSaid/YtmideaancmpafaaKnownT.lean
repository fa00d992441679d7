/- The law's own known. -/
import Derived.Test.YtmideaancmpafaaKnown
set_option linter.unusedVariables false
set_option linter.unusedSimpArgs false
namespace Go.Proofs.Ytmideaancmpafaa
open Go.RowKit Tinker

theorem ints_lit' {w : World} {zs : List Int} {t : TypeId} {n : Nat} (h : w.heap.size = n) : IntsAt (w.alloc (.cells (iv zs) t)) (some ⟨n, 0, none⟩) zs := by subst h; exact ints_lit w zs t
theorem exRun (W : World) (b b2 : Addr) (h1 : LinesAt W (some b) exP) (h2 : IntsAt W (some b2) [7, 7, 7, 7]) :
    Calls Try.prog 18 #[.slice (some b) 2 2, .slice (some b2) 4 4] W (GivesIntsE [6, 7, 7, 7] 0 W) := by
  have h := run_any (some b) (some b2) 2 4 exP [7, 7, 7, 7] W h1 h2 (by decide)
  rw [ex_1, ex_3] at h
  exact h
theorem exSlice (W : World) (b b2 : Addr) (h1 : LinesAt W (some b) exP) (h2 : IntsAt W (some b2) [0, 0, 0, 0]) :
    Calls Try.prog 36 #[.slice (some b) 2 2, .slice (some b2) 4 4, .int .i64 0] W (GivesIntsE [0, 1] 0 W) := by
  have h := slice_any (some b) (some b2) 2 4 exP [0, 0, 0, 0] 0 W h1 h2 (by decide)
  rw [ex_2, ex_4] at h
  exact h
theorem exSame1 (W : World) (a : Option Addr) (c : Nat) (b : Addr) (h1 : IntsAt W a [6, 7, 7, 7]) (h2 : IntsAt W (some b) [6, 7, 7, 7]) :
    Calls Try.prog 26 #[.slice a 4 c, .slice (some b) 4 4] W fun e w' => e = .returned (.bool true) ∧ Below W.heap.size W w' := by
  have h := same_any a (some b) c 4 _ _ W h1 h2 (by decide)
  rw [show sameI [6, 7, 7, 7] [6, 7, 7, 7] = true by decide] at h
  exact h
theorem exSame2 (W : World) (a : Option Addr) (c : Nat) (b : Addr) (h1 : IntsAt W a [0, 1]) (h2 : IntsAt W (some b) [0, 1]) :
    Calls Try.prog 26 #[.slice a 2 c, .slice (some b) 2 2] W fun e w' => e = .returned (.bool true) ∧ Below W.heap.size W w' := by
  have h := same_any a (some b) c 2 _ _ W h1 h2 (by decide)
  rw [show sameI [0, 1] [0, 1] = true by decide] at h
  exact h
/-- The same, the lengths written out. -/
def GivesLit (n : Nat) (zs : List Int) (w : World) (e : Ending) (w' : World) : Prop := ∃ a c, e = .returned (.tuple #[.slice a n c, .int .i64 0]) ∧ IntsAt w' a zs ∧ Below w.heap.size w w'
theorem givesLit_of {n : Nat} {zs : List Int} {w : World} {e : Ending} {w' : World} (h : GivesIntsE zs 0 w e w') (hn : zs.length = n) : GivesLit n zs w e w' := by
  obtain ⟨a, c, he, ho, hb⟩ := h
  subst hn
  exact ⟨a, c, he, (ints_of_own ho).1, hb⟩

set_option maxRecDepth 100000 in
set_option maxHeartbeats 1000000 in
theorem known_true (w : World) : Calls Try.prog 17 #[] w fun e w' => e = .returned (.bool true) ∧ Below w.heap.size w w' := by
  go_enter Try.func17, Try.ntmps17
  go_wp2_with fail
  refine (example_any _).mono ?_
  rintro e w' ⟨rfl, rfl⟩
  go_wp2_with fail
  have L1 := (exLines w).below ((Below.refl _ _).alloc (Nat.le_refl _) (.cells #[.int .i64 7, .int .i64 7, .int .i64 7, .int .i64 7] 3)) (Nat.le_refl _)
  have hB0 : Below w.heap.size w ((w.alloc (.cells exA 40)).alloc (.cells #[.int .i64 7, .int .i64 7, .int .i64 7, .int .i64 7] 3)) := ((Below.refl _ _).alloc (Nat.le_refl _) _).alloc (by simp) _
  refine (exRun _ _ _ ?_ ?_).mono ?_
  · exact L1
  · exact ints_lit' (w := w.alloc (.cells exA 40)) (by simp)
  intro e w1 hG
  obtain ⟨a1, c1, rfl, I1, hB1⟩ := givesLit_of (n := 4) hG rfl
  have hB2 := hB0.trans (hB1.mono hB0.size)
  clear hG hB1 L1 hB0
  go_wp2_with fail
  refine (example_any _).mono ?_
  rintro e w' ⟨rfl, rfl⟩
  have I2 := I1.below ((Below.refl _ _).alloc (Nat.le_refl _) (.cells exA 40)) (Nat.le_refl _)
  go_wp2_with fail
  have L1 := (exLines w1).below ((Below.refl _ _).alloc (Nat.le_refl _) (.cells #[.int .i64 0, .int .i64 0, .int .i64 0, .int .i64 0] 3)) (Nat.le_refl _)
  have I3 := I2.below ((Below.refl _ _).alloc (Nat.le_refl _) (.cells #[.int .i64 0, .int .i64 0, .int .i64 0, .int .i64 0] 3)) (Nat.le_refl _)
  have hB3 : Below w.heap.size w ((w1.alloc (.cells exA 40)).alloc (.cells #[.int .i64 0, .int .i64 0, .int .i64 0, .int .i64 0] 3)) := (hB2.alloc hB2.size _).alloc (by have := hB2.size; simp; omega) _
  refine (exSlice _ _ _ ?_ ?_).mono ?_
  · exact L1
  · exact ints_lit' (w := w1.alloc (.cells exA 40)) (by simp)
  intro e w2 hG
  obtain ⟨a2, c2, rfl, J1, hB4⟩ := givesLit_of (n := 2) hG rfl
  have I4 := I3.below hB4 (Nat.le_refl _)
  have hB5 := hB3.trans (hB4.mono hB3.size)
  clear hG hB4 L1 hB3 I3 I2 I1 hB2
  go_wp2_with fail
  have I5 := I4.below ((Below.refl _ _).alloc (Nat.le_refl _) (.cells #[.int .i64 6, .int .i64 7, .int .i64 7, .int .i64 7] 3)) (Nat.le_refl _)
  have J2 := J1.below ((Below.refl _ _).alloc (Nat.le_refl _) (.cells #[.int .i64 6, .int .i64 7, .int .i64 7, .int .i64 7] 3)) (Nat.le_refl _)
  have hB6 := hB5.alloc hB5.size (.cells #[.int .i64 6, .int .i64 7, .int .i64 7, .int .i64 7] 3)
  refine (exSame1 _ _ _ _ ?_ ?_).mono ?_
  · exact I5
  · exact ints_lit _ [6, 7, 7, 7] _
  rintro e w3 ⟨rfl, hB7⟩
  have J3 := J2.below hB7 (Nat.le_refl _)
  have hB8 := hB6.trans (hB7.mono hB6.size)
  clear I5 J2 J1 I4 hB7 hB6 hB5
  go_wp2_with fail
  have J4 := J3.below ((Below.refl _ _).alloc (Nat.le_refl _) (.cells #[.int .i64 0, .int .i64 1] 3)) (Nat.le_refl _)
  have hB9 := hB8.alloc hB8.size (.cells #[.int .i64 0, .int .i64 1] 3)
  refine (exSame2 _ _ _ _ ?_ ?_).mono ?_
  · exact J4
  · exact ints_lit _ [0, 1] _
  rintro e w4 ⟨rfl, hB10⟩
  have hB11 := hB9.trans (hB10.mono hB9.size)
  go_wp2_with fail
  go_ret
  exact ⟨rfl, hB11⟩

end Go.Proofs.Ytmideaancmpafaa
