/- CheckPassing: the walk. -/
import Derived.Test.YtndmjenfgggfbaaChkF
import Derived.Test.YtndmjenfgggfbaaSorted
set_option linter.unusedVariables false
set_option linter.unusedSimpArgs false
namespace Go.Proofs.Ytndmjenfgggfbaa
open Go.RowKit Tinker

set_option maxRecDepth 100000 in
set_option maxHeartbeats 2000000 in
theorem checkPassing_big (a : Option Addr) (ca : Nat) (ps : List L) (g : Option Addr) (cap : Nat) (ts : List T) (w : World) (hts : TestsAt w g ts) (hbig : 100 < ps.length ∨ (ps.length ≤ 100 ∧ manyB ts = true)) :
    Calls Try.prog 4 #[.slice a ps.length ca, .slice g ts.length cap] w fun e w' => e = .returned (.bool true) ∧ Below w.heap.size w w' := by
  have HL := Lib.hid (fun w => long_any a ps.length ca w)
  have HM := Lib.hid (fun w hts => many_any g cap ts w hts)
  rcases hbig with g0 | ⟨g0, g1⟩
  · rw [show decide ((100 : Int) < (ps.length : Int)) = true by simp; omega] at HL
    go_enter Try.func4, Try.ntmps4
    go_wp2_with fail
    refine (HL.out _).mono ?_
    rintro e w' ⟨rfl, rfl⟩
    go_wp2_with fail
    refine (known2_true _).mono ?_
    rintro e wk ⟨rfl, hBk⟩
    go_wp2_with fail
    go_ret
    exact ⟨rfl, hBk⟩
  · rw [show decide ((100 : Int) < (ps.length : Int)) = false by simp; omega] at HL
    rw [g1] at HM
    go_enter Try.func4, Try.ntmps4
    go_wp2_with fail
    refine (HL.out _).mono ?_
    rintro e w' ⟨rfl, rfl⟩
    go_wp2_with fail
    refine (HM.out _ hts).mono ?_
    rintro e wg1 ⟨rfl, hG1⟩
    have HX1 := Lib.hid hG1
    clear hG1
    go_wp2_with fail
    refine (known2_true _).mono ?_
    rintro e wk ⟨rfl, hBk⟩
    go_wp2_with fail
    go_ret
    exact ⟨rfl, HX1.out.trans (hBk.mono HX1.out.size)⟩

set_option maxRecDepth 100000 in
set_option maxHeartbeats 4000000 in
theorem checkPassing_walk (a : Option Addr) (ca : Nat) (ps : List L) (g : Option Addr) (cap : Nat) (ts : List T) (w : World) (hp : LinesAt w a ps) (hc : a = none → ca = 0) (hts : TestsAt w g ts) (hd : g = none → cap = 0) :
    Calls Try.prog 4 #[.slice a ps.length ca, .slice g ts.length cap] w fun e w' => e = .returned (.bool true) ∧ Below w.heap.size w w' := by
  clear hc hd
  by_cases hbig : 100 < ps.length ∨ (ps.length ≤ 100 ∧ manyB ts = true)
  · exact checkPassing_big a ca ps g cap ts w hts hbig
  · have g1 : ps.length ≤ 100 := by omega
    have g2 : manyB ts = false := by
      cases h : manyB ts
      · rfl
      · exact absurd (.inr ⟨g1, h⟩) hbig
    have HL := Lib.hid (fun w => long_any a ps.length ca w)
    have HM := Lib.hid (fun w hts => many_any g cap ts w hts)
    rw [show decide ((100 : Int) < (ps.length : Int)) = false by simp; omega] at HL
    rw [g2] at HM
    obtain ⟨g3, g4⟩ := many_no g2
    have g5 : ∀ t ∈ ts, t.inn.length ≤ 1000 := fun t ht => by have := g4 t ht; omega
    have C1 := Lib.hid (fun w hp hts => passing_any a g ca cap ps ts w hp hts (by omega) g5)
    have C2 := Lib.hid (fun w hp hts => rPassing_any a g ca cap ps ts w hp hts)
    have C3 := Lib.hid (fun w hp hts => failing_any a g ca cap ps ts w hp hts (by omega) g5)
    have C4 := Lib.hid (fun w hp hts => rFailing_any a g ca cap ps ts w hp hts)
    have C5 := Lib.hid (fun w hts => validateTests_C g cap ts w hts (by omega) g5)
    have C6 := Lib.hid (fun w hts => rValidateTests_any g cap ts w hts)
    have n1 := pL_le true ps ts
    have n2 := pL_le false ps ts
    have hsum := fun h => pL_both (ps := ps) (ts := ts) h
    generalize pL true ps ts = X at C1 C2 n1 hsum
    generalize pL false ps ts = Y at C3 C4 n2 hsum
    generalize vpt ps ts = c at C1 C2 C3 C4 hsum
    generalize vts ts = v at C5 C6
    have hsum2 : c ≠ 0 ∨ ((X.length : Int) + (Y.length : Int) = (ts.length : Int)) := by
      by_cases h : c = 0
      · right; have := hsum h; omega
      · exact .inl h
    clear hbig g1 g2 g4 g5 hsum
    generalize hXl : X.length = n at C1 C2 n1 hsum2
    generalize hYl : Y.length = m at C3 C4 n2 hsum2
    have HXl := Lib.hid hXl
    have HYl := Lib.hid hYl
    clear hXl hYl
    have vv : (v == v) = true := by simp
    have vn : (v != v) = false := by simp
    have cn : (c != c) = false := by simp
    go_enter Try.func4, Try.ntmps4
    go_wp2_with fail
    refine (HL.out _).mono ?_
    rintro e w' ⟨rfl, rfl⟩
    go_wp2_with fail
    refine (HM.out _ hts).mono ?_
    rintro e w0 ⟨rfl, hB0⟩
    go_wp2_with fail
    refine (C1.out _ (hp.below hB0 (Nat.le_refl _)) (hts.below hB0 (Nat.le_refl _))).mono ?_
    intro e w1 hG
    obtain ⟨a1, c1, rfl, hi1, hB1⟩ := hG.weak
    have hB1 := hB0.trans (hB1.mono hB0.size)
    have HI1 := Lib.hid hi1
    rw [HXl.out]
    clear hi1 hG hB0
    go_wp2_with fail
    refine (C2.out _ (hp.below hB1 (Nat.le_refl _)) (hts.below hB1 (Nat.le_refl _))).mono ?_
    intro e w2 hG
    obtain ⟨a2, c2, rfl, hi2, hB2⟩ := hG
    have HI1 := Lib.hid (HI1.out.below hB2 (Nat.le_refl _))
    have hB2 := hB1.trans (hB2.mono hB1.size)
    have HI2 := Lib.hid hi2
    rw [HXl.out]
    clear hi2 hB1
    go_wp2_with fail
    refine (C3.out _ (hp.below hB2 (Nat.le_refl _)) (hts.below hB2 (Nat.le_refl _))).mono ?_
    intro e w3 hG
    obtain ⟨a3, c3, rfl, hi3, hB3⟩ := hG.weak
    have HI1 := Lib.hid (HI1.out.below hB3 (Nat.le_refl _))
    have HI2 := Lib.hid (HI2.out.below hB3 (Nat.le_refl _))
    have hB3 := hB2.trans (hB3.mono hB2.size)
    have HI3 := Lib.hid hi3
    rw [HYl.out]
    clear hi3 hG hB2
    go_wp2_with fail
    refine (C4.out _ (hp.below hB3 (Nat.le_refl _)) (hts.below hB3 (Nat.le_refl _))).mono ?_
    intro e w4 hG
    obtain ⟨a4, c4, rfl, hi4, hB4⟩ := hG
    have HI1 := Lib.hid (HI1.out.below hB4 (Nat.le_refl _))
    have HI2 := Lib.hid (HI2.out.below hB4 (Nat.le_refl _))
    have HI3 := Lib.hid (HI3.out.below hB4 (Nat.le_refl _))
    have hB4 := hB3.trans (hB4.mono hB3.size)
    have HI4 := Lib.hid hi4
    rw [HYl.out]
    clear hi4 hB3
    go_wp2_with fail
    refine (C5.out _ (hts.below hB4 (Nat.le_refl _))).mono ?_
    rintro e w5 ⟨rfl, hB5⟩
    have HI1 := Lib.hid (HI1.out.below hB5 (Nat.le_refl _))
    have HI2 := Lib.hid (HI2.out.below hB5 (Nat.le_refl _))
    have HI3 := Lib.hid (HI3.out.below hB5 (Nat.le_refl _))
    have HI4 := Lib.hid (HI4.out.below hB5 (Nat.le_refl _))
    have hB5 := hB4.trans (hB5.mono hB4.size)
    clear hB4
    go_wp2_with fail
    refine (C6.out _ (hts.below hB5 (Nat.le_refl _))).mono ?_
    rintro e w6 ⟨rfl, hB6⟩
    have HI1 := Lib.hid (HI1.out.below hB6 (Nat.le_refl _))
    have HI2 := Lib.hid (HI2.out.below hB6 (Nat.le_refl _))
    have HI3 := Lib.hid (HI3.out.below hB6 (Nat.le_refl _))
    have HI4 := Lib.hid (HI4.out.below hB6 (Nat.le_refl _))
    have hB6 := hB5.trans (hB6.mono hB5.size)
    clear hB5
    go_wp2_with fail
    refine (same_self n _ _ _ _ X _ HXl.out HI1.out HI2.out (by omega)).mono ?_
    rintro e w7 ⟨rfl, hB7⟩
    have HI3 := Lib.hid (HI3.out.below hB7 (Nat.le_refl _))
    have HI4 := Lib.hid (HI4.out.below hB7 (Nat.le_refl _))
    have hB7 := hB6.trans (hB7.mono hB6.size)
    clear hB6
    go_wp2_with fail
    refine (same_self m _ _ _ _ Y _ HYl.out HI3.out HI4.out (by omega)).mono ?_
    rintro e w8 ⟨rfl, hB8⟩
    have hB8 := hB7.trans (hB8.mono hB7.size)
    clear hB7
    by_cases hc : c = 0
    · subst hc
      have hs : ((n : Int) + (m : Int) == (ts.length : Int)) = true := by
        rcases hsum2 with h | h
        · exact absurd rfl h
        · simpa using h
      have hs2 : n + m = ts.length := by simp at hs; omega
      have HS2 := Lib.hid hs2
      clear hsum2 hs2
      go_wp2_with fail
      refine (known2_true _).mono ?_
      rintro e w9 ⟨rfl, hB9⟩
      go_wp2_with fail
      go_ret
      exact ⟨rfl, hB8.trans (hB9.mono hB8.size)⟩
    · have hc1 : (c != 0) = true := by simpa using hc
      have hc2 : (c == 0) = false := by simpa using hc
      clear hsum2 hc
      go_wp2_with fail
      refine (known2_true _).mono ?_
      rintro e w9 ⟨rfl, hB9⟩
      go_wp2_with fail
      go_ret
      exact ⟨rfl, hB8.trans (hB9.mono hB8.size)⟩

end Go.Proofs.Ytndmjenfgggfbaa
