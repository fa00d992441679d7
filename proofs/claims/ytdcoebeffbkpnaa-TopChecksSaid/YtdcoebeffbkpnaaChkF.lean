/- The known example of stage 2's laws. -/
import Derived.Test.YtdcoebeffbkpnaaChkE
import Derived.Test.YtdcoebeffbkpnaaKnownT
set_option linter.unusedVariables false
set_option linter.unusedSimpArgs false
namespace Go.Proofs.Ytdcoebeffbkpnaa
open Go.RowKit Tinker

def exTA (b : Nat) : Array Value := #[.slice (some ⟨b, 0, none⟩) 4 4, .int .i64 0, .int .i64 6, .slice (some ⟨b, 0, none⟩) 4 4, .int .i64 0, .int .i64 7]
theorem exTests {w : World} {b n : Nat} (h : w.heap.size = n) (hz : IntsAt w (some ⟨b, 0, none⟩) [0, 0, 0, 0]) : TestsAt (w.alloc (.cells (exTA b) 49)) (some ⟨n, 0, none⟩) exT := by
  subst h
  have hi := hz.below ((Below.refl _ _).alloc (Nat.le_refl _) (.cells (exTA b) 49)) (Nat.le_refl _)
  refine .inr ⟨w.heap.size, 0, rfl, by simp, fun j t hj => ?_⟩
  match j, hj with
  | 0, hj => simp [exT] at hj; subst hj; exact ⟨_, 4, hp_cell (hp_new rfl) rfl, hp_cell (hp_new rfl) rfl, hp_cell (hp_new rfl) rfl, hi⟩
  | 1, hj => simp [exT] at hj; subst hj; exact ⟨_, 4, hp_cell (hp_new rfl) rfl, hp_cell (hp_new rfl) rfl, hp_cell (hp_new rfl) rfl, hi⟩
  | j + 2, hj => simp [exT] at hj
theorem exLines2 {w : World} {n : Nat} (h : w.heap.size = n) : LinesAt (w.alloc (.cells exA 61)) (some ⟨n, 0, none⟩) exP := by subst h; exact exLines w
theorem exBox (W : World) (b c : Addr) (h1 : IntsAt W (some b) [0, 0, 0, 0]) (h2 : IntsAt W (some c) [1, 0, 0, 2]) :
    Calls Try.prog 17 #[.agg #[.slice (some b) 4 4, .slice (some c) 4 4, .int .i64 3, .int .i64 0, .int .i64 1]] W fun e w' => e = .returned (.tuple #[.int .i64 6, .int .i64 0]) ∧ Below W.heap.size W w' := by
  have h := box_C (some b) (some c) 4 4 [0, 0, 0, 0] [1, 0, 0, 2] 3 0 1 W h1 h2 (by decide) (by decide)
  rw [exB_0, exB_1] at h
  exact h

end Go.Proofs.Ytdcoebeffbkpnaa
