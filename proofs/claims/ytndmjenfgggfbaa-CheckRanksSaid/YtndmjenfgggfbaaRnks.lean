/- CheckRanks: the walk. -/
import Derived.Test.YtndmjenfgggfbaaChkF
import Derived.Test.YtndmjenfgggfbaaRkG
set_option linter.unusedVariables false
set_option linter.unusedSimpArgs false
namespace Go.Proofs.Ytndmjenfgggfbaa
open Go.RowKit Tinker

theorem ints_take {w : World} {a : Option Addr} {zs : List Int} (n : Nat) (h : IntsAt w a zs) : IntsAt w a (zs.take n) := by
  rcases h with h | ⟨b, off, e, hl, hc⟩
  · exact .inl (by rw [h]; simp)
  · exact .inr ⟨b, off, e, hl, fun j x hj => hc j x (by
      rw [List.getElem?_take] at hj
      split at hj
      · exact hj
      · contradiction)⟩
theorem suL_le (ps : List L) (ts : List T) : (suL ps ts).length ≤ ps.length := by
  unfold suL; split
  · have := plcTo_length (suB ps ts) (suB ps ts).length
    rw [suB_length] at this
    unfold plc; rw [suB_length]; exact this
  · simp
theorem suL_nil {ps : List L} {ts : List T} (h : vpt ps ts ≠ 0) : suL ps ts = [] := suL_no h

set_option maxRecDepth 100000 in
set_option maxHeartbeats 2000000 in
theorem checkRanks_big (a : Option Addr) (ca : Nat) (ps : List L) (g : Option Addr) (cap : Nat) (ts : List T) (w : World) (hts : TestsAt w g ts) (hbig : 100 < ps.length ∨ (ps.length ≤ 100 ∧ manyB ts = true)) :
    Calls Try.prog 7 #[.slice a ps.length ca, .slice g ts.length cap] w fun e w' => e = .returned (.bool true) ∧ Below w.heap.size w w' := by
  have HL := Lib.hid (fun w => long_any a ps.length ca w)
  have HM := Lib.hid (fun w hts => many_any g cap ts w hts)
  rcases hbig with g0 | ⟨g0, g1⟩
  · rw [show decide ((100 : Int) < (ps.length : Int)) = true by simp; omega] at HL
    go_enter Try.func7, Try.ntmps7
    go_wp2_with fail
    refine (HL.out _).mono ?_
    rintro e w' ⟨rfl, rfl⟩
    go_wp2_with fail
    refine (known2_true _).mono ?_
    rintro e wk ⟨rfl, hBk⟩
    go_wp2_with fail
    go_ret
    exact ⟨rfl, hBk⟩
  · rw [show decide ((100 : Int) < (ps.length : Int)) = false by simp; omega] at HL
    rw [g1] at HM
    go_enter Try.func7, Try.ntmps7
    go_wp2_with fail
    refine (HL.out _).mono ?_
    rintro e w' ⟨rfl, rfl⟩
    go_wp2_with fail
    refine (HM.out _ hts).mono ?_
    rintro e wg1 ⟨rfl, hG1⟩
    have HX1 := Lib.hid hG1
    clear hG1
    go_wp2_with fail
    refine (known2_true _).mono ?_
    rintro e wk ⟨rfl, hBk⟩
    go_wp2_with fail
    go_ret
    exact ⟨rfl, HX1.out.trans (hBk.mono HX1.out.size)⟩

set_option maxRecDepth 100000 in
set_option maxHeartbeats 4000000 in
theorem checkRanks_walk (a : Option Addr) (ca : Nat) (ps : List L) (g : Option Addr) (cap : Nat) (ts : List T) (w : World) (hp : LinesAt w a ps) (hc : a = none → ca = 0) (hts : TestsAt w g ts) (hd : g = none → cap = 0) :
    Calls Try.prog 7 #[.slice a ps.length ca, .slice g ts.length cap] w fun e w' => e = .returned (.bool true) ∧ Below w.heap.size w w' := by
  clear hc hd
  by_cases hbig : 100 < ps.length ∨ (ps.length ≤ 100 ∧ manyB ts = true)
  · exact checkRanks_big a ca ps g cap ts w hts hbig
  · have g1 : ps.length ≤ 100 := by omega
    have g2 : manyB ts = false := by
      cases h : manyB ts
      · rfl
      · exact absurd (.inr ⟨g1, h⟩) hbig
    have HL := Lib.hid (fun w => long_any a ps.length ca w)
    have HM := Lib.hid (fun w hts => many_any g cap ts w hts)
    rw [show decide ((100 : Int) < (ps.length : Int)) = false by simp; omega] at HL
    rw [g2] at HM
    obtain ⟨g3, g4⟩ := many_no g2
    have g5 : ∀ t ∈ ts, t.inn.length ≤ 1000 := fun t ht => by have := g4 t ht; omega
    have C1 := Lib.hid (fun w hp hts => suspects_any a g ca cap ps ts w hp hts (by omega) g5)
    have C2 := Lib.hid (fun w hp hts => rSuspects_any a g ca cap ps ts w hp hts)
    have C3 := Lib.hid (fun w hp hts => rank_any a g ca cap ps ts w hp hts (by omega) g5)
    have C4 := Lib.hid (fun w hp hts => rRank_any a g ca cap ps ts w hp hts)
    have HFI := Lib.hid (fun zs h => su_first (ps := ps) (ts := ts) (zs := zs) h)
    have HUN := Lib.hid (fun xs ys h h2 => isRank_unique (ps := ps) (ts := ts) (xs := xs) (ys := ys) h h2)
    have HRL := Lib.hid (fun xs h => isRank_le (ps := ps) (ts := ts) (xs := xs) h)
    unfold GivesRkC at C3
    unfold GivesRk at C4
    have n1 := suL_le ps ts
    generalize suL ps ts = X at C1 C2 n1 HFI
    generalize IsRank ps ts = IR at C3 C4 HFI HUN HRL
    generalize vpt ps ts = c at C1 C2 C3 C4
    clear hbig g2 g4 g5
    generalize hXl : X.length = n at C1 C2 n1 HFI
    have HXl := Lib.hid hXl
    clear hXl
    have cn : (c != c) = false := by simp
    go_enter Try.func7, Try.ntmps7
    go_wp2_with fail
    refine (HL.out _).mono ?_
    rintro e w' ⟨rfl, rfl⟩
    go_wp2_with fail
    refine (HM.out _ hts).mono ?_
    rintro e w0 ⟨rfl, hB0⟩
    go_wp2_with fail
    refine (C1.out _ (hp.below hB0 (Nat.le_refl _)) (hts.below hB0 (Nat.le_refl _))).mono ?_
    rintro e w1 ⟨a1, c1, rfl, hi1, hB1⟩
    have hB1 := hB0.trans (hB1.mono hB0.size)
    have HI1 := Lib.hid (ints_of_own hi1).1
    rw [HXl.out]
    clear hi1 hB0
    go_wp2_with fail
    refine (C2.out _ (hp.below hB1 (Nat.le_refl _)) (hts.below hB1 (Nat.le_refl _))).mono ?_
    rintro e w2 ⟨a2, c2, rfl, hi2, hB2⟩
    have HI1 := Lib.hid (HI1.out.below hB2 (Nat.le_refl _))
    have hB2 := hB1.trans (hB2.mono hB1.size)
    have HI2 := Lib.hid hi2
    rw [HXl.out]
    clear hi2 hB1
    go_wp2_with fail
    refine (C3.out _ (hp.below hB2 (Nat.le_refl _)) (hts.below hB2 (Nat.le_refl _))).mono ?_
    rintro e w3 ⟨zs, a3, c3, hcap, hr3, rfl, hi3, hB3⟩
    have HI1 := Lib.hid (HI1.out.below hB3 (Nat.le_refl _))
    have HI2 := Lib.hid (HI2.out.below hB3 (Nat.le_refl _))
    have hB3 := hB2.trans (hB3.mono hB2.size)
    have HI3 := Lib.hid hi3
    have HR3 := Lib.hid hr3
    have hzl := HRL.out zs hr3
    have HF := Lib.hid (HFI.out zs hr3)
    clear hi3 hr3 hB2
    go_wp2_with fail
    refine (C4.out _ (hp.below hB3 (Nat.le_refl _)) (hts.below hB3 (Nat.le_refl _))).mono ?_
    rintro e w4 ⟨zs', a4, c4, hr4, rfl, hi4, hB4⟩
    obtain rfl := HUN.out _ _ HR3.out hr4
    have HI1 := Lib.hid (HI1.out.below hB4 (Nat.le_refl _))
    have HI2 := Lib.hid (HI2.out.below hB4 (Nat.le_refl _))
    have HI3 := Lib.hid (HI3.out.below hB4 (Nat.le_refl _))
    have hB4 := hB3.trans (hB4.mono hB3.size)
    have HI4 := Lib.hid hi4
    clear hi4 hr4 hB3
    have hnz : n ≤ zs.length := by
      have h := congrArg List.length HF.out
      rw [List.length_take, HXl.out] at h
      omega
    generalize hzn : zs.length = m at hzl hcap hnz ⊢
    have HZN := Lib.hid hzn
    clear hzn
    go_wp2_with fail
    refine (same_self n _ _ _ _ X _ HXl.out HI1.out HI2.out (by omega)).mono ?_
    rintro e w5 ⟨rfl, hB5⟩
    have HI1 := Lib.hid (HI1.out.below hB5 (Nat.le_refl _))
    have HI3 := Lib.hid (HI3.out.below hB5 (Nat.le_refl _))
    have HI4 := Lib.hid (HI4.out.below hB5 (Nat.le_refl _))
    have hB5 := hB4.trans (hB5.mono hB4.size)
    clear hB4 HI2
    go_wp2_with fail
    refine (same_self m _ _ _ _ zs _ HZN.out HI3.out HI4.out (by omega)).mono ?_
    rintro e w6 ⟨rfl, hB6⟩
    have HI1 := Lib.hid (HI1.out.below hB6 (Nat.le_refl _))
    have HI3 := Lib.hid (HI3.out.below hB6 (Nat.le_refl _))
    have hB6 := hB5.trans (hB6.mono hB5.size)
    clear hB5 HI4
    have HT := Lib.hid (show IntsAt w6 a3 X by rw [HF.out]; exact ints_take n HI3.out)
    by_cases h0 : n = 0
    · subst h0
      go_wp2_with fail
      refine (known2_true _).mono ?_
      rintro e w9 ⟨rfl, hB9⟩
      go_wp2_with fail
      go_ret
      exact ⟨rfl, hB6.trans (hB9.mono hB6.size)⟩
    · have hz0 : ((n : Int) == 0) = false := by simp; omega
      have hz1 : decide ((n : Int) = 0) = false := by simp; omega
      have hnc : n ≤ c3 := by omega
      have hnc2 : (0 : Int) ≤ (n : Int) ∧ (n : Int) ≤ (c3 : Int) := by omega
      obtain ⟨q, rfl⟩ : ∃ q, a3 = some q := by
        rcases HI3.out with h | ⟨b, off, e, _⟩
        · rw [h] at HZN; have := HZN.out; simp at this; omega
        · exact ⟨_, e⟩
      go_wp2_with fail
      refine (same_self n _ _ _ _ X _ HXl.out HI1.out HT.out (by omega)).mono ?_
      rintro e w7 ⟨rfl, hB7⟩
      have hB7 := hB6.trans (hB7.mono hB6.size)
      clear hB6
      go_wp2_with fail
      refine (known2_true _).mono ?_
      rintro e w9 ⟨rfl, hB9⟩
      go_wp2_with fail
      go_ret
      exact ⟨rfl, hB7.trans (hB9.mono hB7.size)⟩

end Go.Proofs.Ytndmjenfgggfbaa
