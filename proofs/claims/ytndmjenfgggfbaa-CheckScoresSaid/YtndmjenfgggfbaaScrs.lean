/- CheckScores: the walk. -/
import Derived.Test.YtndmjenfgggfbaaChkF
import Derived.Test.YtndmjenfgggfbaaScoB
set_option linter.unusedVariables false
set_option linter.unusedSimpArgs false
namespace Go.Proofs.Ytndmjenfgggfbaa
open Go.RowKit Tinker

theorem scA_len (ps : List L) (ts : List T) : (scA ps ts).length ≤ ps.length := by unfold scA; split <;> simp [scL_length]
theorem scA_le (ps : List L) (ts : List T) : ∀ q ∈ scA ps ts, q.1 ≤ q.2 := fun q hq => by
  unfold scA at hq
  split at hq
  · obtain ⟨i, hi⟩ := List.mem_iff_getElem?.1 hq
    have hl : i < ps.length := by have := (List.getElem?_eq_some_iff.1 hi).1; rwa [scL_length] at this
    rw [scL_get hl] at hi
    injection hi with e
    subst e
    exact scQ_le hl
  · simp at hq

set_option maxRecDepth 100000 in
set_option maxHeartbeats 2000000 in
theorem checkScores_big (a : Option Addr) (ca : Nat) (ps : List L) (g : Option Addr) (cap : Nat) (ts : List T) (w : World) (hts : TestsAt w g ts) (hbig : 100 < ps.length ∨ (ps.length ≤ 100 ∧ manyB ts = true)) :
    Calls Try.prog 6 #[.slice a ps.length ca, .slice g ts.length cap] w fun e w' => e = .returned (.bool true) ∧ Below w.heap.size w w' := by
  have HL := Lib.hid (fun w => long_any a ps.length ca w)
  have HM := Lib.hid (fun w hts => many_any g cap ts w hts)
  rcases hbig with g0 | ⟨g0, g1⟩
  · rw [show decide ((100 : Int) < (ps.length : Int)) = true by simp; omega] at HL
    go_enter Try.func6, Try.ntmps6
    go_wp2_with fail
    refine (HL.out _).mono ?_
    rintro e w' ⟨rfl, rfl⟩
    go_wp2_with fail
    refine (known2_true _).mono ?_
    rintro e wk ⟨rfl, hBk⟩
    go_wp2_with fail
    go_ret
    exact ⟨rfl, hBk⟩
  · rw [show decide ((100 : Int) < (ps.length : Int)) = false by simp; omega] at HL
    rw [g1] at HM
    go_enter Try.func6, Try.ntmps6
    go_wp2_with fail
    refine (HL.out _).mono ?_
    rintro e w' ⟨rfl, rfl⟩
    go_wp2_with fail
    refine (HM.out _ hts).mono ?_
    rintro e wg1 ⟨rfl, hG1⟩
    have HX1 := Lib.hid hG1
    clear hG1
    go_wp2_with fail
    refine (known2_true _).mono ?_
    rintro e wk ⟨rfl, hBk⟩
    go_wp2_with fail
    go_ret
    exact ⟨rfl, HX1.out.trans (hBk.mono HX1.out.size)⟩

set_option maxRecDepth 100000 in
set_option maxHeartbeats 4000000 in
theorem checkScores_walk (a : Option Addr) (ca : Nat) (ps : List L) (g : Option Addr) (cap : Nat) (ts : List T) (w : World) (hp : LinesAt w a ps) (hc : a = none → ca = 0) (hts : TestsAt w g ts) (hd : g = none → cap = 0) :
    Calls Try.prog 6 #[.slice a ps.length ca, .slice g ts.length cap] w fun e w' => e = .returned (.bool true) ∧ Below w.heap.size w w' := by
  clear hc hd
  by_cases hbig : 100 < ps.length ∨ (ps.length ≤ 100 ∧ manyB ts = true)
  · exact checkScores_big a ca ps g cap ts w hts hbig
  · have g1 : ps.length ≤ 100 := by omega
    have g2 : manyB ts = false := by
      cases h : manyB ts
      · rfl
      · exact absurd (.inr ⟨g1, h⟩) hbig
    have HL := Lib.hid (fun w => long_any a ps.length ca w)
    have HM := Lib.hid (fun w hts => many_any g cap ts w hts)
    rw [show decide ((100 : Int) < (ps.length : Int)) = false by simp; omega] at HL
    rw [g2] at HM
    obtain ⟨g3, g4⟩ := many_no g2
    have g5 : ∀ t ∈ ts, t.inn.length ≤ 1000 := fun t ht => by have := g4 t ht; omega
    have C1 := Lib.hid (fun w hp hts => scores_any a g ca cap ps ts w hp hts (by omega) g5)
    have C2 := Lib.hid (fun w hp hts => rScores_any a g ca cap ps ts w hp hts)
    have n1 := scA_len ps ts
    have hle := scA_le ps ts
    generalize scA ps ts = X at C1 C2 n1 hle
    generalize vpt ps ts = c at C1 C2
    have HLE := Lib.hid hle
    clear hbig g2 g4 g5 hle
    generalize hXl : X.length = n at C1 C2 n1
    have HXl := Lib.hid hXl
    clear hXl
    have cn : (c != c) = false := by simp
    go_enter Try.func6, Try.ntmps6
    go_wp2_with fail
    refine (HL.out _).mono ?_
    rintro e w' ⟨rfl, rfl⟩
    go_wp2_with fail
    refine (HM.out _ hts).mono ?_
    rintro e w0 ⟨rfl, hB0⟩
    go_wp2_with fail
    refine (C1.out _ (hp.below hB0 (Nat.le_refl _)) (hts.below hB0 (Nat.le_refl _))).mono ?_
    rintro e w1 ⟨a1, c1, rfl, hi1, hB1⟩
    have hB1 := hB0.trans (hB1.mono hB0.size)
    have HI1 := Lib.hid hi1
    rw [HXl.out]
    clear hi1 hB0
    go_wp2_with fail
    refine (C2.out _ (hp.below hB1 (Nat.le_refl _)) (hts.below hB1 (Nat.le_refl _))).mono ?_
    rintro e w2 ⟨a2, c2, rfl, hi2, hB2⟩
    have HI1 := Lib.hid (HI1.out.below hB2 (Nat.le_refl _))
    have hB2 := hB1.trans (hB2.mono hB1.size)
    have HI2 := Lib.hid hi2
    rw [HXl.out]
    clear hi2 hB1
    go_wp2_with fail
    refine (sameRats_eq n _ _ _ _ X _ HXl.out HI1.out HI2.out (by omega)).mono ?_
    rintro e w7 ⟨rfl, hB7⟩
    have HI1 := Lib.hid (HI1.out.below hB7 (Nat.le_refl _))
    have hB7 := hB2.trans (hB7.mono hB2.size)
    clear hB2
    go_wp2_with fail
    go_loopw [9] (fun s9 wr => ∃ k : Nat, k ≤ n ∧ s9 = .int .i64 k ∧ Below w7.heap.size w7 wr) (fun s9 _ => n - (intOf s9).toNat)
    case atStart => exact ⟨0, Nat.zero_le _, rfl, Below.refl _ _⟩
    case round =>
      obtain ⟨k, hk, rfl, hB⟩ := hrel
      by_cases hlt : k < n
      · obtain ⟨b1, o1, q, rfl, hb1, hq, x0, x1⟩ := (HI1.out.below hB (Nat.le_refl _)).at_ (k := k) (by rw [HXl.out]; exact hlt)
        have hle := HLE.out q (mem_of_get hq)
        have hle2 : decide (q.2 < q.1) = false := by simpa using hle
        have HB := Lib.hid hB
        clear hq hB HI1
        go_wp2_with fail
        go_quiet (fail)
        go_wp2_with fail
        go_roundw
        case rel => exact ⟨k + 1, by omega, by go_num, HB.out.trans ⟨rfl, rfl, rfl, Nat.le_refl _, fun _ _ => rfl⟩⟩
        case measure => simp [intOf]; omega
      · obtain rfl : k = n := by omega
        have hB8 := hB7.trans (hB.mono hB7.size)
        clear hB hB7
        go_wp2_with fail
        refine (known2_true _).mono ?_
        rintro e w9 ⟨rfl, hB9⟩
        go_wp2_with fail
        go_ret
        exact ⟨rfl, hB8.trans (hB9.mono hB8.size)⟩

end Go.Proofs.Ytndmjenfgggfbaa
