/- PatchKeeps: the walk. -/
import Derived.Test.YtigaklppdlknkaaKpC
import Derived.Test.YtigaklppdlknkaaDoe
set_option linter.unusedVariables false
set_option linter.unusedSimpArgs false
namespace Go.Proofs.Ytigaklppdlknkaa
open Go.RowKit Tinker

theorem tc_len (xs : List E) : (tcR xs).length ≤ xs.length := by
  unfold tcR
  split
  · unfold pl; rw [List.length_map]; exact Nat.le_refl _
  · simp
theorem kps_facts {xs : List E} (h : vx xs = 0) : kpC xs (tcR xs) = 0 ∧ kpR xs (tcR xs) = xs := by
  have : tcR xs = pl xs := by unfold tcR; rw [if_pos h]
  rw [this]
  exact kp_all h

set_option maxRecDepth 100000 in
set_option maxHeartbeats 4000000 in
theorem patchKeeps_walk (g : Option Addr) (cg : Nat) (xs : List E) (g2 : Option Addr) (cg2 : Nat) (zs : List Int) (w : World) (hx : EditsAt w g xs) (hc1 : g = none → cg = 0) (hy : IntsAt w g2 zs) (hc2 : g2 = none → cg2 = 0) :
    Calls Try.prog 10 #[.slice g xs.length cg, .slice g2 zs.length cg2] w fun e w' => e = .returned (.bool true) ∧ Below w.heap.size w w' := by
  clear hc1 hc2
  have HK := Lib.hid (fun w => sane_true w)
  have HL := Lib.hid (fun w => long4_any none g 0 xs.length 0 cg w)
  by_cases g1 : 100 < xs.length
  · rw [show (decide (100 < 0) || decide (100 < xs.length)) = true by simp [g1]] at HL
    clear hx hy g1
    go_enter Try.func10, Try.ntmps10
    go_wp2_with fail
    refine (HL.out _).mono ?_
    rintro e w1 ⟨rfl, rfl⟩
    go_wp2_with fail
    refine (HK.out _).mono ?_
    rintro e w2 ⟨rfl, hB⟩
    go_wp2_with fail
    go_ret
    exact ⟨rfl, hB⟩
  rw [show (decide (100 < 0) || decide (100 < xs.length)) = false by simp; omega] at HL
  by_cases g3 : 50 < zs.length
  · have d1 : decide ((50 : Int) < (zs.length : Int)) = true := by rw [decide_eq_true_iff]; omega
    have d2 : (50 : Int) < (zs.length : Int) := by omega
    clear hx hy g1 g3
    go_enter Try.func10, Try.ntmps10
    go_wp2_with fail
    refine (HL.out _).mono ?_
    rintro e w1 ⟨rfl, rfl⟩
    go_wp2_with fail
    refine (HK.out _).mono ?_
    rintro e w2 ⟨rfl, hB⟩
    go_wp2_with fail
    go_ret
    exact ⟨rfl, hB⟩
  have d2 : ¬ (50 : Int) < (zs.length : Int) := by omega
  have hdl := kp_len xs zs
  have htl := tc_len xs
  have C1 := Lib.hid (fun w h h' => pKeep_any g g2 cg cg2 xs zs w h h' (by omega) (by omega))
  have C2 := Lib.hid (fun w h h' => rKeep_any g g2 cg cg2 xs zs w h h' (by omega) (by omega))
  have C3 := Lib.hid (fun w h => pTouches_any g cg xs w h (by omega))
  have C4 := Lib.hid (fun w h => rTouches_any g cg xs w h (by omega))
  have S1 := Lib.hid (fun a' b' c' d' w h1 h2 => sameE_self (kpR xs zs).length a' b' c' d' (kpR xs zs) w rfl h1 h2 (by omega))
  have S2 := Lib.hid (fun a' b' c' d' w h1 h2 => sameI4_self (tcR xs).length a' b' c' d' (tcR xs) w rfl h1 h2 (by omega))
  have C5 := Lib.hid (fun b c w h h' => pKeep_any g b cg c xs (tcR xs) w h h' (by omega) (by omega))
  have S3 := Lib.hid (fun a' b' c' d' w h1 h2 => sameE_self xs.length a' b' c' d' xs w rfl h1 h2 (by omega))
  have HX := Lib.hid hx
  have HY := Lib.hid hy
  clear hx hy g1
  by_cases z : vx xs = 0
  · obtain ⟨p1, p2⟩ := kps_facts z
    rw [p1, p2] at C5
    rw [z] at C3 C4
    clear p1 p2 z g3
    generalize kpR xs zs = D at *
    generalize kpC xs zs = c at *
    generalize tcR xs = T at *
    go_enter Try.func10, Try.ntmps10
    go_wp2_with fail
    refine (HL.out _).mono ?_
    rintro e w0 ⟨rfl, rfl⟩
    go_wp2_with fail
    refine (C1.out _ HX.out HY.out).mono ?_
    rintro e w1 ⟨a1, k1, rfl, h1, hB1⟩
    have R1 := Lib.hid (edits_of_own h1).1
    have HB1 := Lib.hid hB1
    clear h1 hB1
    go_wp2_with fail
    refine (C2.out _ (HX.out.below HB1.out (Nat.le_refl _)) (HY.out.below HB1.out (Nat.le_refl _))).mono ?_
    rintro e w2 ⟨a2, k2, rfl, h2, hB2⟩
    have R1 := Lib.hid (R1.out.below hB2 (Nat.le_refl _))
    have R2 := Lib.hid (edits_of_own h2).1
    have HB2 := Lib.hid (HB1.out.trans (hB2.mono HB1.out.size))
    clear h2 hB2
    go_wp2_with fail
    refine (C3.out _ (HX.out.below HB2.out (Nat.le_refl _))).mono ?_
    rintro e w3 ⟨a3, k3, rfl, h3, hB3⟩
    have R1 := Lib.hid (R1.out.below hB3 (Nat.le_refl _))
    have R2 := Lib.hid (R2.out.below hB3 (Nat.le_refl _))
    have R3 := Lib.hid h3
    have HB3 := Lib.hid (HB2.out.trans (hB3.mono HB2.out.size))
    clear h3 hB3
    go_wp2_with fail
    refine (C4.out _ (HX.out.below HB3.out (Nat.le_refl _))).mono ?_
    rintro e w4 ⟨a4, k4, rfl, h4, hB4⟩
    have R1 := Lib.hid (R1.out.below hB4 (Nat.le_refl _))
    have R2 := Lib.hid (R2.out.below hB4 (Nat.le_refl _))
    have R3 := Lib.hid (R3.out.below hB4 (Nat.le_refl _))
    have R4 := Lib.hid h4
    have HB4 := Lib.hid (HB3.out.trans (hB4.mono HB3.out.size))
    clear h4 hB4
    go_wp2_with fail
    refine (S1.out _ _ _ _ _ R1.out R2.out).mono ?_
    rintro e w5 ⟨rfl, hB5⟩
    have R3 := Lib.hid (R3.out.below hB5 (Nat.le_refl _))
    have R4 := Lib.hid (R4.out.below hB5 (Nat.le_refl _))
    have HB5 := Lib.hid (HB4.out.trans (hB5.mono HB4.out.size))
    clear hB5 R1 R2
    go_wp2_with fail
    refine (S2.out _ _ _ _ _ R3.out R4.out).mono ?_
    rintro e w6 ⟨rfl, hB6⟩
    have R3 := Lib.hid (R3.out.below hB6 (Nat.le_refl _))
    have HB6 := Lib.hid (HB5.out.trans (hB6.mono HB5.out.size))
    clear hB6 R4
    go_wp2_with fail
    refine (C5.out _ _ _ (HX.out.below HB6.out (Nat.le_refl _)) R3.out).mono ?_
    rintro e w7 ⟨a7, k7, rfl, h7, hB7⟩
    have R7 := Lib.hid (edits_of_own h7).1
    have HB7 := Lib.hid (HB6.out.trans (hB7.mono HB6.out.size))
    clear h7 hB7 R3
    go_wp2_with fail
    refine (S3.out _ _ _ _ _ R7.out (HX.out.below HB7.out (Nat.le_refl _))).mono ?_
    rintro e w8 ⟨rfl, hB8⟩
    have HB8 := Lib.hid (HB7.out.trans (hB8.mono HB7.out.size))
    clear hB8
    go_wp2_with fail
    refine (HK.out _).mono ?_
    rintro e w9 ⟨rfl, hB⟩
    go_wp2_with fail
    go_ret
    exact ⟨rfl, HB8.out.trans (hB.mono HB8.out.size)⟩
  · have y1 : (vx xs != 0) = true := by simpa using z
    clear z g3 C5 S3
    generalize kpR xs zs = D at *
    generalize kpC xs zs = c at *
    generalize tcR xs = T at *
    generalize vx xs = c2 at *
    go_enter Try.func10, Try.ntmps10
    go_wp2_with fail
    refine (HL.out _).mono ?_
    rintro e w0 ⟨rfl, rfl⟩
    go_wp2_with fail
    refine (C1.out _ HX.out HY.out).mono ?_
    rintro e w1 ⟨a1, k1, rfl, h1, hB1⟩
    have R1 := Lib.hid (edits_of_own h1).1
    have HB1 := Lib.hid hB1
    clear h1 hB1
    go_wp2_with fail
    refine (C2.out _ (HX.out.below HB1.out (Nat.le_refl _)) (HY.out.below HB1.out (Nat.le_refl _))).mono ?_
    rintro e w2 ⟨a2, k2, rfl, h2, hB2⟩
    have R1 := Lib.hid (R1.out.below hB2 (Nat.le_refl _))
    have R2 := Lib.hid (edits_of_own h2).1
    have HB2 := Lib.hid (HB1.out.trans (hB2.mono HB1.out.size))
    clear h2 hB2
    go_wp2_with fail
    refine (C3.out _ (HX.out.below HB2.out (Nat.le_refl _))).mono ?_
    rintro e w3 ⟨a3, k3, rfl, h3, hB3⟩
    have R1 := Lib.hid (R1.out.below hB3 (Nat.le_refl _))
    have R2 := Lib.hid (R2.out.below hB3 (Nat.le_refl _))
    have R3 := Lib.hid h3
    have HB3 := Lib.hid (HB2.out.trans (hB3.mono HB2.out.size))
    clear h3 hB3
    go_wp2_with fail
    refine (C4.out _ (HX.out.below HB3.out (Nat.le_refl _))).mono ?_
    rintro e w4 ⟨a4, k4, rfl, h4, hB4⟩
    have R1 := Lib.hid (R1.out.below hB4 (Nat.le_refl _))
    have R2 := Lib.hid (R2.out.below hB4 (Nat.le_refl _))
    have R3 := Lib.hid (R3.out.below hB4 (Nat.le_refl _))
    have R4 := Lib.hid h4
    have HB4 := Lib.hid (HB3.out.trans (hB4.mono HB3.out.size))
    clear h4 hB4
    go_wp2_with fail
    refine (S1.out _ _ _ _ _ R1.out R2.out).mono ?_
    rintro e w5 ⟨rfl, hB5⟩
    have R3 := Lib.hid (R3.out.below hB5 (Nat.le_refl _))
    have R4 := Lib.hid (R4.out.below hB5 (Nat.le_refl _))
    have HB5 := Lib.hid (HB4.out.trans (hB5.mono HB4.out.size))
    clear hB5 R1 R2
    go_wp2_with fail
    refine (S2.out _ _ _ _ _ R3.out R4.out).mono ?_
    rintro e w6 ⟨rfl, hB6⟩
    have R3 := Lib.hid (R3.out.below hB6 (Nat.le_refl _))
    have HB6 := Lib.hid (HB5.out.trans (hB6.mono HB5.out.size))
    clear hB6 R4
    go_wp2_with fail
    refine (HK.out _).mono ?_
    rintro e w9 ⟨rfl, hB⟩
    go_wp2_with fail
    go_ret
    exact ⟨rfl, HB6.out.trans (hB.mono HB6.out.size)⟩

end Go.Proofs.Ytigaklppdlknkaa
