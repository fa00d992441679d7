/- The known example of stage 2's laws. -/
import Derived.Test.YtndmjenfgggfbaaChkE
import Derived.Test.YtndmjenfgggfbaaKnownT
set_option linter.unusedVariables false
set_option linter.unusedSimpArgs false
namespace Go.Proofs.Ytndmjenfgggfbaa
open Go.RowKit Tinker

def exTA (b : Nat) : Array Value := #[.slice (some ⟨b, 0, none⟩) 4 4, .int .i64 0, .int .i64 6, .slice (some ⟨b, 0, none⟩) 4 4, .int .i64 0, .int .i64 7]
theorem exTests {w : World} {b n : Nat} (h : w.heap.size = n) (hz : IntsAt w (some ⟨b, 0, none⟩) [0, 0, 0, 0]) : TestsAt (w.alloc (.cells (exTA b) 25)) (some ⟨n, 0, none⟩) exT := by
  subst h
  have hi := hz.below ((Below.refl _ _).alloc (Nat.le_refl _) (.cells (exTA b) 25)) (Nat.le_refl _)
  refine .inr ⟨w.heap.size, 0, rfl, by simp, fun j t hj => ?_⟩
  match j, hj with
  | 0, hj => simp [exT] at hj; subst hj; exact ⟨_, 4, hp_cell (hp_new rfl) rfl, hp_cell (hp_new rfl) rfl, hp_cell (hp_new rfl) rfl, hi⟩
  | 1, hj => simp [exT] at hj; subst hj; exact ⟨_, 4, hp_cell (hp_new rfl) rfl, hp_cell (hp_new rfl) rfl, hp_cell (hp_new rfl) rfl, hi⟩
  | j + 2, hj => simp [exT] at hj
theorem exLines2 {w : World} {n : Nat} (h : w.heap.size = n) : LinesAt (w.alloc (.cells exA 76)) (some ⟨n, 0, none⟩) exP := by subst h; exact exLines w
theorem exScores (W : World) (b c : Addr) (h1 : LinesAt W (some b) exP) (h2 : TestsAt W (some c) exT) :
    Calls Try.prog 35 #[.slice (some b) 2 2, .slice (some c) 2 2] W fun e w' => ∃ Q, e = .returned (.tuple #[.slice (some ⟨Q, 0, none⟩) 2 2, .int .i64 0]) ∧ w'.heap[Q]? = some (.cells (qv [(1, 2), (1, 2)]) 49 (0, 0)) ∧ Below W.heap.size W w' := by
  have h := scores_ok (some b) (some c) 2 2 exP exT W h1 h2 exT_0
  rw [exT_1] at h
  exact h
theorem exBox (W : World) (b c : Addr) (h1 : IntsAt W (some b) [0, 0, 0, 0]) (h2 : IntsAt W (some c) [1, 0, 0, 2]) :
    Calls Try.prog 48 #[.agg #[.slice (some b) 4 4, .slice (some c) 4 4, .int .i64 3, .int .i64 0, .int .i64 1]] W fun e w' => e = .returned (.tuple #[.int .i64 6, .int .i64 0]) ∧ Below W.heap.size W w' := by
  have h := box_C (some b) (some c) 4 4 [0, 0, 0, 0] [1, 0, 0, 2] 3 0 1 W h1 h2 (by decide) (by decide)
  rw [exB_0, exB_1] at h
  exact h

set_option maxRecDepth 100000 in
set_option maxHeartbeats 1000000 in
theorem known2_true (w : World) : Calls Try.prog 19 #[] w fun e w' => e = .returned (.bool true) ∧ Below w.heap.size w w' := by
  have Z0 : IntsAt ((w.alloc (.cells exA 76)).alloc (.cells #[.int .i64 0, .int .i64 0, .int .i64 0, .int .i64 0] 3)) (some ⟨w.heap.size + 1, 0, none⟩) [0, 0, 0, 0] := ints_lit' (zs := [0, 0, 0, 0]) (by simp)
  have T0 := exTests (n := w.heap.size + 1 + 1) (by simp) Z0
  have L0 := ((exLines2 (w := w) (n := w.heap.size) rfl).below ((Below.refl _ _).alloc (Nat.le_refl _) (.cells #[.int .i64 0, .int .i64 0, .int .i64 0, .int .i64 0] 3)) (Nat.le_refl _)).below ((Below.refl _ _).alloc (Nat.le_refl _) (.cells (exTA (w.heap.size + 1)) 25)) (Nat.le_refl _)
  have Z1 := Z0.below ((Below.refl _ _).alloc (Nat.le_refl _) (.cells (exTA (w.heap.size + 1)) 25)) (Nat.le_refl _)
  have hB0 : Below w.heap.size w (((w.alloc (.cells exA 76)).alloc (.cells #[.int .i64 0, .int .i64 0, .int .i64 0, .int .i64 0] 3)).alloc (.cells (exTA (w.heap.size + 1)) 25)) := (((Below.refl _ _).alloc (Nat.le_refl _) _).alloc (by simp) _).alloc (by simp; omega) _
  have HT := Lib.hid T0
  have HLn := Lib.hid L0
  have HZ := Lib.hid Z1
  have HB := Lib.hid hB0
  clear Z0 T0 L0 Z1 hB0
  go_enter Try.func19, Try.ntmps19
  go_wp2_with fail
  refine (exScores _ _ _ ?_ ?_).mono ?_
  · exact HLn.out
  · exact HT.out
  rintro e w1 ⟨Q, rfl, hq, hB1⟩
  have HQ := Lib.hid hq
  have HZ1 := Lib.hid (HZ.out.below hB1 (Nat.le_refl _))
  have HB1 := Lib.hid (HB.out.trans (hB1.mono HB.out.size))
  clear hq hB1 HT HLn HZ HB
  go_wp2_with fail
  refine (exBox _ _ _ ?_ ?_).mono ?_
  · exact HZ1.out.below ((Below.refl _ _).alloc (Nat.le_refl _) _) (Nat.le_refl _)
  · exact ints_lit _ [1, 0, 0, 2] _
  rintro e w2 ⟨rfl, hB2⟩
  have HQ2 := Lib.hid (hp_below (hp_alloc HQ.out) hB2 (by have := hp_lt HQ.out; simp; omega))
  have HB2 := Lib.hid ((HB1.out.alloc HB1.out.size _).trans (hB2.mono (by have := HB1.out.size; simp; omega)))
  clear hB2 HQ HZ1 HB1
  go_wp2_with fail
  refine (sameRats_self 2 Q _ _ _ [(1, 2), (1, 2)] _ rfl ?_ ?_ (by omega)).mono ?_
  · exact hp_alloc (hp_alloc HQ2.out)
  · exact hp_new (by simp)
  rintro e w3 ⟨rfl, hB3⟩
  have HB3 := Lib.hid (((HB2.out.alloc HB2.out.size _).alloc (by have := HB2.out.size; simp; omega) _).trans (hB3.mono (by have := HB2.out.size; simp; omega)))
  clear hB3
  go_wp2_with fail
  go_ret
  exact ⟨rfl, HB3.out⟩

end Go.Proofs.Ytndmjenfgggfbaa
