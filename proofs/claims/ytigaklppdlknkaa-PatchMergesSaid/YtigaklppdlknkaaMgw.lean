/- PatchMerges: the walk. -/
import Derived.Test.YtigaklppdlknkaaMgA
import Derived.Test.YtigaklppdlknkaaDoe
set_option linter.unusedVariables false
set_option linter.unusedSimpArgs false
namespace Go.Proofs.Ytigaklppdlknkaa
open Go.RowKit Tinker

set_option maxRecDepth 100000 in
set_option maxHeartbeats 4000000 in
theorem patchMerges_walk (g : Option Addr) (cg : Nat) (xs : List E) (g2 : Option Addr) (cg2 : Nat) (ys : List E) (w : World) (hx : EditsAt w g xs) (hc1 : g = none → cg = 0) (hy : EditsAt w g2 ys) (hc2 : g2 = none → cg2 = 0) :
    Calls Try.prog 9 #[.slice g xs.length cg, .slice g2 ys.length cg2] w fun e w' => e = .returned (.bool true) ∧ Below w.heap.size w w' := by
  clear hc1 hc2
  have HK := Lib.hid (fun w => sane_true w)
  have HL := Lib.hid (fun w => long4_any none g 0 xs.length 0 cg w)
  have HM := Lib.hid (fun w => long4_any none g2 0 ys.length 0 cg2 w)
  by_cases g1 : 100 < xs.length
  · rw [show (decide (100 < 0) || decide (100 < xs.length)) = true by simp [g1]] at HL
    clear hx hy g1 HM
    go_enter Try.func9, Try.ntmps9
    go_wp2_with fail
    refine (HL.out _).mono ?_
    rintro e w1 ⟨rfl, rfl⟩
    go_wp2_with fail
    refine (HK.out _).mono ?_
    rintro e w2 ⟨rfl, hB⟩
    go_wp2_with fail
    go_ret
    exact ⟨rfl, hB⟩
  rw [show (decide (100 < 0) || decide (100 < xs.length)) = false by simp; omega] at HL
  by_cases g3 : 100 < ys.length
  · rw [show (decide (100 < 0) || decide (100 < ys.length)) = true by simp [g3]] at HM
    clear hx hy g1 g3
    go_enter Try.func9, Try.ntmps9
    go_wp2_with fail
    refine (HL.out _).mono ?_
    rintro e w1 ⟨rfl, rfl⟩
    go_wp2_with fail
    refine (HM.out _).mono ?_
    rintro e w1 ⟨rfl, rfl⟩
    go_wp2_with fail
    refine (HK.out _).mono ?_
    rintro e w2 ⟨rfl, hB⟩
    go_wp2_with fail
    go_ret
    exact ⟨rfl, hB⟩
  rw [show (decide (100 < 0) || decide (100 < ys.length)) = false by simp; omega] at HM
  have hdl := mgR_len xs ys
  have C1 := Lib.hid (fun w h h' => pMerge_any g g2 cg cg2 xs ys w h h' (by omega) (by omega))
  have C2 := Lib.hid (fun w h h' => rMerge_any g g2 cg cg2 xs ys w h h' (by omega) (by omega))
  have S1 := Lib.hid (fun a' b' c' d' w h1 h2 => sameE_self (mgR xs ys).length a' b' c' d' (mgR xs ys) w rfl h1 h2 (by omega))
  have HX := Lib.hid hx
  have HY := Lib.hid hy
  by_cases z : mgC xs ys = 0
  · obtain ⟨⟨p1, p2⟩, ⟨p3, p4⟩, p5, p6⟩ := mg_ok z
    have C3 := Lib.hid (fun w h h' => pMerge_any g2 g cg2 cg ys xs w h h' (by omega) (by omega))
    have C4 := Lib.hid (fun w h h' => pThen_any g g2 cg cg2 xs ys w h h' (by omega) (by omega))
    have C5 := Lib.hid (fun w h h' => pThen_any g2 g cg2 cg ys xs w h h' (by omega) (by omega))
    rw [p1, p2] at C3
    rw [p3, p4] at C4
    rw [p5, p6] at C5
    rw [z] at C1 C2
    clear p1 p2 p3 p4 p5 p6 z g1 g3 hx hy
    generalize mgR xs ys = D at *
    go_enter Try.func9, Try.ntmps9
    go_wp2_with fail
    refine (HL.out _).mono ?_
    rintro e w0 ⟨rfl, rfl⟩
    go_wp2_with fail
    refine (HM.out _).mono ?_
    rintro e w0 ⟨rfl, rfl⟩
    go_wp2_with fail
    refine (C1.out _ HX.out HY.out).mono ?_
    rintro e w1 ⟨a1, k1, rfl, h1, hB1⟩
    have R1 := Lib.hid (edits_of_own h1).1
    have HB1 := Lib.hid hB1
    clear h1 hB1
    go_wp2_with fail
    refine (C2.out _ (HX.out.below HB1.out (Nat.le_refl _)) (HY.out.below HB1.out (Nat.le_refl _))).mono ?_
    rintro e w2 ⟨a2, k2, rfl, h2, hB2⟩
    have R1 := Lib.hid (R1.out.below hB2 (Nat.le_refl _))
    have R2 := Lib.hid (edits_of_own h2).1
    have HB2 := Lib.hid (HB1.out.trans (hB2.mono HB1.out.size))
    clear h2 hB2
    go_wp2_with fail
    refine (S1.out _ _ _ _ _ R1.out R2.out).mono ?_
    rintro e w3 ⟨rfl, hB3⟩
    have R1 := Lib.hid (R1.out.below hB3 (Nat.le_refl _))
    have HB3 := Lib.hid (HB2.out.trans (hB3.mono HB2.out.size))
    clear hB3 R2
    go_wp2_with fail
    refine (C3.out _ (HY.out.below HB3.out (Nat.le_refl _)) (HX.out.below HB3.out (Nat.le_refl _))).mono ?_
    rintro e w4 ⟨a4, k4, rfl, h4, hB4⟩
    have R1 := Lib.hid (R1.out.below hB4 (Nat.le_refl _))
    have R4 := Lib.hid (edits_of_own h4).1
    have HB4 := Lib.hid (HB3.out.trans (hB4.mono HB3.out.size))
    clear h4 hB4
    go_wp2_with fail
    refine (C4.out _ (HX.out.below HB4.out (Nat.le_refl _)) (HY.out.below HB4.out (Nat.le_refl _))).mono ?_
    rintro e w5 ⟨a5, k5, rfl, h5, hB5⟩
    have R1 := Lib.hid (R1.out.below hB5 (Nat.le_refl _))
    have R4 := Lib.hid (R4.out.below hB5 (Nat.le_refl _))
    have R5 := Lib.hid (edits_of_own h5).1
    have HB5 := Lib.hid (HB4.out.trans (hB5.mono HB4.out.size))
    clear h5 hB5
    go_wp2_with fail
    refine (C5.out _ (HY.out.below HB5.out (Nat.le_refl _)) (HX.out.below HB5.out (Nat.le_refl _))).mono ?_
    rintro e w6 ⟨a6, k6, rfl, h6, hB6⟩
    have R1 := Lib.hid (R1.out.below hB6 (Nat.le_refl _))
    have R4 := Lib.hid (R4.out.below hB6 (Nat.le_refl _))
    have R5 := Lib.hid (R5.out.below hB6 (Nat.le_refl _))
    have R6 := Lib.hid (edits_of_own h6).1
    have HB6 := Lib.hid (HB5.out.trans (hB6.mono HB5.out.size))
    clear h6 hB6
    go_wp2_with fail
    refine (S1.out _ _ _ _ _ R4.out R1.out).mono ?_
    rintro e w7 ⟨rfl, hB7⟩
    have R1 := Lib.hid (R1.out.below hB7 (Nat.le_refl _))
    have R5 := Lib.hid (R5.out.below hB7 (Nat.le_refl _))
    have R6 := Lib.hid (R6.out.below hB7 (Nat.le_refl _))
    have HB7 := Lib.hid (HB6.out.trans (hB7.mono HB6.out.size))
    clear hB7 R4
    go_wp2_with fail
    refine (S1.out _ _ _ _ _ R5.out R1.out).mono ?_
    rintro e w8 ⟨rfl, hB8⟩
    have R1 := Lib.hid (R1.out.below hB8 (Nat.le_refl _))
    have R6 := Lib.hid (R6.out.below hB8 (Nat.le_refl _))
    have HB8 := Lib.hid (HB7.out.trans (hB8.mono HB7.out.size))
    clear hB8 R5
    go_wp2_with fail
    refine (S1.out _ _ _ _ _ R6.out R1.out).mono ?_
    rintro e w9 ⟨rfl, hB9⟩
    have R1 := Lib.hid (R1.out.below hB9 (Nat.le_refl _))
    have HB9 := Lib.hid (HB8.out.trans (hB9.mono HB8.out.size))
    clear hB9 R6
    go_wp2_with fail
    refine (HK.out _).mono ?_
    rintro e w99 ⟨rfl, hB⟩
    go_wp2_with fail
    go_ret
    exact ⟨rfl, HB9.out.trans (hB.mono HB9.out.size)⟩
  · have y1 : (mgC xs ys != 0) = true := by simpa using z
    clear z g1 g3 hx hy
    generalize mgR xs ys = D at *
    generalize mgC xs ys = c at *
    go_enter Try.func9, Try.ntmps9
    go_wp2_with fail
    refine (HL.out _).mono ?_
    rintro e w0 ⟨rfl, rfl⟩
    go_wp2_with fail
    refine (HM.out _).mono ?_
    rintro e w0 ⟨rfl, rfl⟩
    go_wp2_with fail
    refine (C1.out _ HX.out HY.out).mono ?_
    rintro e w1 ⟨a1, k1, rfl, h1, hB1⟩
    have R1 := Lib.hid (edits_of_own h1).1
    have HB1 := Lib.hid hB1
    clear h1 hB1
    go_wp2_with fail
    refine (C2.out _ (HX.out.below HB1.out (Nat.le_refl _)) (HY.out.below HB1.out (Nat.le_refl _))).mono ?_
    rintro e w2 ⟨a2, k2, rfl, h2, hB2⟩
    have R1 := Lib.hid (R1.out.below hB2 (Nat.le_refl _))
    have R2 := Lib.hid (edits_of_own h2).1
    have HB2 := Lib.hid (HB1.out.trans (hB2.mono HB1.out.size))
    clear h2 hB2
    go_wp2_with fail
    refine (S1.out _ _ _ _ _ R1.out R2.out).mono ?_
    rintro e w3 ⟨rfl, hB3⟩
    have R1 := Lib.hid (R1.out.below hB3 (Nat.le_refl _))
    have HB3 := Lib.hid (HB2.out.trans (hB3.mono HB2.out.size))
    clear hB3 R2
    go_wp2_with fail
    refine (HK.out _).mono ?_
    rintro e w99 ⟨rfl, hB⟩
    go_wp2_with fail
    go_ret
    exact ⟨rfl, HB3.out.trans (hB.mono HB3.out.size)⟩

end Go.Proofs.Ytigaklppdlknkaa
