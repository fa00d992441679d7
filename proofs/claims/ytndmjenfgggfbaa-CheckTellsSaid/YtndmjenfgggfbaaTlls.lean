/- CheckTells: the walk. -/
import Derived.Test.YtndmjenfgggfbaaChkF
import Derived.Test.YtndmjenfgggfbaaTellr
set_option linter.unusedVariables false
set_option linter.unusedSimpArgs false
namespace Go.Proofs.Ytndmjenfgggfbaa
open Go.RowKit Tinker

set_option maxRecDepth 100000 in
set_option maxHeartbeats 2000000 in
theorem checkTells_big (a : Option Addr) (ca : Nat) (ps : List L) (b : Option Addr) (cb : Nat) (qs : List L) (g : Option Addr) (cap : Nat) (ts : List T) (w : World) (hts : TestsAt w g ts) (hbig : 100 < ps.length ∨ (ps.length ≤ 100 ∧ 100 < qs.length) ∨ (ps.length ≤ 100 ∧ qs.length ≤ 100 ∧ manyB ts = true)) :
    Calls Try.prog 8 #[.slice a ps.length ca, .slice b qs.length cb, .slice g ts.length cap] w fun e w' => e = .returned (.bool true) ∧ Below w.heap.size w w' := by
  have HL := Lib.hid (fun w => long_any a ps.length ca w)
  have HQ := Lib.hid (fun w => long_any b qs.length cb w)
  have HM := Lib.hid (fun w hts => many_any g cap ts w hts)
  rcases hbig with g0 | ⟨g0, g1⟩ | ⟨g0, g1, g2⟩
  · rw [show decide ((100 : Int) < (ps.length : Int)) = true by simp; omega] at HL
    go_enter Try.func8, Try.ntmps8
    go_wp2_with fail
    refine (HL.out _).mono ?_
    rintro e w' ⟨rfl, rfl⟩
    go_wp2_with fail
    refine (known2_true _).mono ?_
    rintro e wk ⟨rfl, hBk⟩
    go_wp2_with fail
    go_ret
    exact ⟨rfl, hBk⟩
  · rw [show decide ((100 : Int) < (ps.length : Int)) = false by simp; omega] at HL
    rw [show decide ((100 : Int) < (qs.length : Int)) = true by simp; omega] at HQ
    go_enter Try.func8, Try.ntmps8
    go_wp2_with fail
    refine (HL.out _).mono ?_
    rintro e w' ⟨rfl, rfl⟩
    go_wp2_with fail
    refine (HQ.out _).mono ?_
    rintro e w' ⟨rfl, rfl⟩
    go_wp2_with fail
    refine (known2_true _).mono ?_
    rintro e wk ⟨rfl, hBk⟩
    go_wp2_with fail
    go_ret
    exact ⟨rfl, hBk⟩
  · rw [show decide ((100 : Int) < (ps.length : Int)) = false by simp; omega] at HL
    rw [show decide ((100 : Int) < (qs.length : Int)) = false by simp; omega] at HQ
    rw [g2] at HM
    go_enter Try.func8, Try.ntmps8
    go_wp2_with fail
    refine (HL.out _).mono ?_
    rintro e w' ⟨rfl, rfl⟩
    go_wp2_with fail
    refine (HQ.out _).mono ?_
    rintro e w' ⟨rfl, rfl⟩
    go_wp2_with fail
    refine (HM.out _ hts).mono ?_
    rintro e wg2 ⟨rfl, hG2⟩
    have HX2 := Lib.hid hG2
    clear hG2
    go_wp2_with fail
    refine (known2_true _).mono ?_
    rintro e wk ⟨rfl, hBk⟩
    go_wp2_with fail
    go_ret
    exact ⟨rfl, HX2.out.trans (hBk.mono HX2.out.size)⟩

set_option maxRecDepth 100000 in
set_option maxHeartbeats 4000000 in
theorem checkTells_walk (a : Option Addr) (ca : Nat) (ps : List L) (b : Option Addr) (cb : Nat) (qs : List L) (g : Option Addr) (cap : Nat) (ts : List T) (w : World) (hp : LinesAt w a ps) (hc : a = none → ca = 0) (hq : LinesAt w b qs) (hc2 : b = none → cb = 0) (hts : TestsAt w g ts) (hd : g = none → cap = 0) :
    Calls Try.prog 8 #[.slice a ps.length ca, .slice b qs.length cb, .slice g ts.length cap] w fun e w' => e = .returned (.bool true) ∧ Below w.heap.size w w' := by
  clear hc hc2 hd
  by_cases hbig : 100 < ps.length ∨ (ps.length ≤ 100 ∧ 100 < qs.length) ∨ (ps.length ≤ 100 ∧ qs.length ≤ 100 ∧ manyB ts = true)
  · exact checkTells_big a ca ps b cb qs g cap ts w hts hbig
  · have g1 : ps.length ≤ 100 := by omega
    have g1' : qs.length ≤ 100 := by omega
    have g2 : manyB ts = false := by
      cases h : manyB ts
      · rfl
      · exact absurd (.inr (.inr ⟨g1, g1', h⟩)) hbig
    have HL := Lib.hid (fun w => long_any a ps.length ca w)
    have HQ := Lib.hid (fun w => long_any b qs.length cb w)
    have HM := Lib.hid (fun w hts => many_any g cap ts w hts)
    rw [show decide ((100 : Int) < (ps.length : Int)) = false by simp; omega] at HL
    rw [show decide ((100 : Int) < (qs.length : Int)) = false by simp; omega] at HQ
    rw [g2] at HM
    obtain ⟨g3, g4⟩ := many_no g2
    have g5 : ∀ t ∈ ts, t.inn.length ≤ 1000 := fun t ht => by have := g4 t ht; omega
    have C1 := Lib.hid (fun w hp hq hts => tells_any a b g ca cb cap ps qs ts w hp hq hts (by omega) g5)
    have C2 := Lib.hid (fun w hp hq hts => rTells_any a b g ca cb cap ps qs ts w hp hq hts)
    have C3 := Lib.hid (fun w hp hq hts => tells_any b a g cb ca cap qs ps ts w hq hp hts (by omega) g5)
    have n1 := tL_le ps qs ts
    have hsw := fun h => tL_swap (ps := ps) (qs := qs) (ts := ts) h
    generalize tL ps qs ts = X at C1 C2 n1 hsw
    generalize vpqt ps qs ts = c at C1 C2 hsw
    have HSW := Lib.hid hsw
    clear hbig g1 g1' g2 g4 g5 hsw
    generalize hXl : X.length = n at C1 C2 n1
    have HXl := Lib.hid hXl
    clear hXl
    have cn : (c != c) = false := by simp
    go_enter Try.func8, Try.ntmps8
    go_wp2_with fail
    refine (HL.out _).mono ?_
    rintro e w' ⟨rfl, rfl⟩
    go_wp2_with fail
    refine (HQ.out _).mono ?_
    rintro e w' ⟨rfl, rfl⟩
    go_wp2_with fail
    refine (HM.out _ hts).mono ?_
    rintro e w0 ⟨rfl, hB0⟩
    go_wp2_with fail
    refine (C1.out _ (hp.below hB0 (Nat.le_refl _)) (hq.below hB0 (Nat.le_refl _)) (hts.below hB0 (Nat.le_refl _))).mono ?_
    intro e w1 hG
    obtain ⟨a1, c1, rfl, hi1, hB1⟩ := hG.weak
    have hB1 := hB0.trans (hB1.mono hB0.size)
    have HI1 := Lib.hid hi1
    rw [HXl.out]
    clear hi1 hG hB0
    go_wp2_with fail
    refine (C2.out _ (hp.below hB1 (Nat.le_refl _)) (hq.below hB1 (Nat.le_refl _)) (hts.below hB1 (Nat.le_refl _))).mono ?_
    intro e w2 hG
    obtain ⟨a2, c2, rfl, hi2, hB2⟩ := hG
    have HI1 := Lib.hid (HI1.out.below hB2 (Nat.le_refl _))
    have hB2 := hB1.trans (hB2.mono hB1.size)
    have HI2 := Lib.hid hi2
    rw [HXl.out]
    clear hi2 hB1
    go_wp2_with fail
    refine (same_self n _ _ _ _ X _ HXl.out HI1.out HI2.out (by omega)).mono ?_
    rintro e w7 ⟨rfl, hB7⟩
    have HI1 := Lib.hid (HI1.out.below hB7 (Nat.le_refl _))
    have hB7 := hB2.trans (hB7.mono hB2.size)
    clear hB2
    by_cases hc : c = 0
    · obtain ⟨z1, z2⟩ := HSW.out hc
      rw [z1, z2] at C3
      subst hc
      clear z1 z2
      go_wp2_with fail
      refine (C3.out _ (hp.below hB7 (Nat.le_refl _)) (hq.below hB7 (Nat.le_refl _)) (hts.below hB7 (Nat.le_refl _))).mono ?_
      intro e w3 hG
      obtain ⟨a3, c3, rfl, hi3, hB3⟩ := hG.weak
      have HI1 := Lib.hid (HI1.out.below hB3 (Nat.le_refl _))
      have hB3 := hB7.trans (hB3.mono hB7.size)
      have HI3 := Lib.hid hi3
      rw [HXl.out]
      clear hi3 hG hB7
      go_wp2_with fail
      refine (same_self n _ _ _ _ X _ HXl.out HI1.out HI3.out (by omega)).mono ?_
      rintro e w8 ⟨rfl, hB8⟩
      have hB8 := hB3.trans (hB8.mono hB3.size)
      clear hB3
      go_wp2_with fail
      refine (known2_true _).mono ?_
      rintro e w9 ⟨rfl, hB9⟩
      go_wp2_with fail
      go_ret
      exact ⟨rfl, hB8.trans (hB9.mono hB8.size)⟩
    · have hc1 : (c != 0) = true := by simpa using hc
      have hc2 : (c == 0) = false := by simpa using hc
      clear hc
      go_wp2_with fail
      refine (C3.out _ (hp.below hB7 (Nat.le_refl _)) (hq.below hB7 (Nat.le_refl _)) (hts.below hB7 (Nat.le_refl _))).mono ?_
      intro e w3 hG
      obtain ⟨a3, c3, rfl, hi3, hB3⟩ := hG.weak
      have hB3 := hB7.trans (hB3.mono hB7.size)
      clear hi3 hG hB7
      go_wp2_with fail
      refine (known2_true _).mono ?_
      rintro e w9 ⟨rfl, hB9⟩
      go_wp2_with fail
      go_ret
      exact ⟨rfl, hB3.trans (hB9.mono hB3.size)⟩

end Go.Proofs.Ytndmjenfgggfbaa
