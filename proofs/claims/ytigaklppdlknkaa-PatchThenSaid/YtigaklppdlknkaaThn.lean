/- PatchThen: the walk. -/
import Derived.Test.YtigaklppdlknkaaTnD
import Derived.Test.YtigaklppdlknkaaDoe
set_option linter.unusedVariables false
set_option linter.unusedSimpArgs false
namespace Go.Proofs.Ytigaklppdlknkaa
open Go.RowKit Tinker

theorem tnR_len (xs ys : List E) : (tnR xs ys).length ≤ 8 := by
  unfold tnR
  split
  · exact mpTo_len _ 8
  · simp
theorem doP_len4 (ps : List L) (xs : List E) : (doP ps xs).length ≤ ps.length := by
  unfold doP
  split
  · rw [doL_len]; exact Nat.le_refl _
  · simp

set_option maxRecDepth 100000 in
set_option maxHeartbeats 4000000 in
theorem patchThen_walk (a : Option Addr) (ca : Nat) (ps : List L) (g : Option Addr) (cg : Nat) (xs : List E) (g2 : Option Addr) (cg2 : Nat) (ys : List E) (w : World) (hp : LinesAt w a ps) (hc : a = none → ca = 0) (hx : EditsAt w g xs) (hc1 : g = none → cg = 0) (hy : EditsAt w g2 ys) (hc2 : g2 = none → cg2 = 0) :
    Calls Try.prog 8 #[.slice a ps.length ca, .slice g xs.length cg, .slice g2 ys.length cg2] w fun e w' => e = .returned (.bool true) ∧ Below w.heap.size w w' := by
  clear hc hc1 hc2
  have HK := Lib.hid (fun w => sane_true w)
  have HL := Lib.hid (fun w => long4_any a g ps.length xs.length ca cg w)
  have HM := Lib.hid (fun w => long4_any a g2 ps.length ys.length ca cg2 w)
  by_cases g1 : 100 < ps.length ∨ 100 < xs.length
  · rw [show (decide (100 < ps.length) || decide (100 < xs.length)) = true by simpa using g1] at HL
    clear hp hx hy g1 HM
    go_enter Try.func8, Try.ntmps8
    go_wp2_with fail
    refine (HL.out _).mono ?_
    rintro e w1 ⟨rfl, rfl⟩
    go_wp2_with fail
    refine (HK.out _).mono ?_
    rintro e w2 ⟨rfl, hB⟩
    go_wp2_with fail
    go_ret
    exact ⟨rfl, hB⟩
  rw [show (decide (100 < ps.length) || decide (100 < xs.length)) = false by simp; omega] at HL
  by_cases g3 : 100 < ys.length
  · rw [show (decide (100 < ps.length) || decide (100 < ys.length)) = true by simp [g3]] at HM
    clear hp hx hy g1 g3
    go_enter Try.func8, Try.ntmps8
    go_wp2_with fail
    refine (HL.out _).mono ?_
    rintro e w1 ⟨rfl, rfl⟩
    go_wp2_with fail
    refine (HM.out _).mono ?_
    rintro e w1 ⟨rfl, rfl⟩
    go_wp2_with fail
    refine (HK.out _).mono ?_
    rintro e w2 ⟨rfl, hB⟩
    go_wp2_with fail
    go_ret
    exact ⟨rfl, hB⟩
  rw [show (decide (100 < ps.length) || decide (100 < ys.length)) = false by simp; omega] at HM
  have hdl := tnR_len xs ys
  have hql := doP_len4 ps xs
  have hql2 := doP_len4 (doP ps xs) ys
  have C1 := Lib.hid (fun w h h' => pThen_any g g2 cg cg2 xs ys w h h' (by omega) (by omega))
  have C2 := Lib.hid (fun w h h' => rThen_any g g2 cg cg2 xs ys w h h' (by omega) (by omega))
  have S1 := Lib.hid (fun a' b' c' d' w h1 h2 => sameE_self (tnR xs ys).length a' b' c' d' (tnR xs ys) w rfl h1 h2 (by omega))
  have C3 := Lib.hid (fun w h h' => pDo_any a g ca cg ps xs w h h' (by omega) (by omega))
  have C4 := Lib.hid (fun b c w h h' => pDo_any b g2 c cg2 (doP ps xs) ys w h h' (by omega) (by omega))
  have C5 := Lib.hid (fun b c w h h' => pDo_any a b ca c ps (tnR xs ys) w h h' (by omega) (by omega))
  have HT := Lib.hid (fun h1 h2 h3 => then_ok (ps := ps) (xs := xs) (ys := ys) h1 h2 h3)
  have S2 := Lib.hid (fun a' b' c' d' w h1 h2 => sameL4_self (doP (doP ps xs) ys).length a' b' c' d' (doP (doP ps xs) ys) w rfl h1 h2 (by omega))
  have HP := Lib.hid hp
  have HX := Lib.hid hx
  have HY := Lib.hid hy
  clear g1 g3 hp hx hy
  by_cases z1 : tnE xs ys = 0
  · by_cases z2 : vpx ps xs 0 = 0
    · by_cases z3 : vpx (doP ps xs) ys 0 = 0
      · obtain ⟨t1, t2⟩ := HT.out z1 z2 z3
        rw [t1, t2] at C5
        rw [z1] at C1 C2
        rw [z2] at C3
        rw [z3] at C4
        clear t1 t2 z1 z2 z3 HT
        generalize doP (doP ps xs) ys = Q2 at *
        generalize doP ps xs = Q1 at *
        generalize tnR xs ys = D at *
        go_enter Try.func8, Try.ntmps8
        go_wp2_with fail
        refine (HL.out _).mono ?_
        rintro e w0 ⟨rfl, rfl⟩
        go_wp2_with fail
        refine (HM.out _).mono ?_
        rintro e w0 ⟨rfl, rfl⟩
        go_wp2_with fail
        refine (C1.out _ HX.out HY.out).mono ?_
        rintro e w1 ⟨a1, k1, rfl, h1, hB1⟩
        have R1 := Lib.hid (edits_of_own h1).1
        have HB1 := Lib.hid hB1
        clear h1 hB1
        go_wp2_with fail
        refine (C2.out _ (HX.out.below HB1.out (Nat.le_refl _)) (HY.out.below HB1.out (Nat.le_refl _))).mono ?_
        rintro e w2 ⟨a2, k2, rfl, h2, hB2⟩
        have R1 := Lib.hid (R1.out.below hB2 (Nat.le_refl _))
        have R2 := Lib.hid (edits_of_own h2).1
        have HB2 := Lib.hid (HB1.out.trans (hB2.mono HB1.out.size))
        clear h2 hB2
        go_wp2_with fail
        refine (S1.out _ _ _ _ _ R1.out R2.out).mono ?_
        rintro e w3 ⟨rfl, hB3⟩
        have R1 := Lib.hid (R1.out.below hB3 (Nat.le_refl _))
        have HB3 := Lib.hid (HB2.out.trans (hB3.mono HB2.out.size))
        clear hB3 R2
        go_wp2_with fail
        refine (C3.out _ (HP.out.below HB3.out (Nat.le_refl _)) (HX.out.below HB3.out (Nat.le_refl _))).mono ?_
        rintro e w4 ⟨a4, k4, rfl, h4, hB4⟩
        have R1 := Lib.hid (R1.out.below hB4 (Nat.le_refl _))
        have R4 := Lib.hid (lines_of_own h4).1
        have HB4 := Lib.hid (HB3.out.trans (hB4.mono HB3.out.size))
        clear h4 hB4
        go_wp2_with fail
        refine (C4.out _ _ _ R4.out (HY.out.below HB4.out (Nat.le_refl _))).mono ?_
        rintro e w5 ⟨a5, k5, rfl, h5, hB5⟩
        have R1 := Lib.hid (R1.out.below hB5 (Nat.le_refl _))
        have R5 := Lib.hid (lines_of_own h5).1
        have HB5 := Lib.hid (HB4.out.trans (hB5.mono HB4.out.size))
        clear h5 hB5 R4
        go_wp2_with fail
        refine (C5.out _ _ _ (HP.out.below HB5.out (Nat.le_refl _)) R1.out).mono ?_
        rintro e w6 ⟨a6, k6, rfl, h6, hB6⟩
        have R5 := Lib.hid (R5.out.below hB6 (Nat.le_refl _))
        have R6 := Lib.hid (lines_of_own h6).1
        have HB6 := Lib.hid (HB5.out.trans (hB6.mono HB5.out.size))
        clear h6 hB6 R1
        go_wp2_with fail
        refine (S2.out _ _ _ _ _ R5.out R6.out).mono ?_
        rintro e w7 ⟨rfl, hB7⟩
        have HB7 := Lib.hid (HB6.out.trans (hB7.mono HB6.out.size))
        clear hB7
        go_wp2_with fail
        refine (HK.out _).mono ?_
        rintro e w9 ⟨rfl, hB⟩
        go_wp2_with fail
        go_ret
        exact ⟨rfl, HB7.out.trans (hB.mono HB7.out.size)⟩
      · have y3 : (vpx (doP ps xs) ys 0 != 0) = true := by simpa using z3
        rw [z1] at C1 C2
        rw [z2] at C3
        clear z1 z2 z3 HT S2
        generalize doP (doP ps xs) ys = Q2 at *
        generalize doP ps (tnR xs ys) = Q3 at *
        generalize vpx ps (tnR xs ys) 0 = c4 at *
        generalize vpx (doP ps xs) ys 0 = c3 at *
        generalize doP ps xs = Q1 at *
        generalize tnR xs ys = D at *
        go_enter Try.func8, Try.ntmps8
        go_wp2_with fail
        refine (HL.out _).mono ?_
        rintro e w0 ⟨rfl, rfl⟩
        go_wp2_with fail
        refine (HM.out _).mono ?_
        rintro e w0 ⟨rfl, rfl⟩
        go_wp2_with fail
        refine (C1.out _ HX.out HY.out).mono ?_
        rintro e w1 ⟨a1, k1, rfl, h1, hB1⟩
        have R1 := Lib.hid (edits_of_own h1).1
        have HB1 := Lib.hid hB1
        clear h1 hB1
        go_wp2_with fail
        refine (C2.out _ (HX.out.below HB1.out (Nat.le_refl _)) (HY.out.below HB1.out (Nat.le_refl _))).mono ?_
        rintro e w2 ⟨a2, k2, rfl, h2, hB2⟩
        have R1 := Lib.hid (R1.out.below hB2 (Nat.le_refl _))
        have R2 := Lib.hid (edits_of_own h2).1
        have HB2 := Lib.hid (HB1.out.trans (hB2.mono HB1.out.size))
        clear h2 hB2
        go_wp2_with fail
        refine (S1.out _ _ _ _ _ R1.out R2.out).mono ?_
        rintro e w3 ⟨rfl, hB3⟩
        have R1 := Lib.hid (R1.out.below hB3 (Nat.le_refl _))
        have HB3 := Lib.hid (HB2.out.trans (hB3.mono HB2.out.size))
        clear hB3 R2
        go_wp2_with fail
        refine (C3.out _ (HP.out.below HB3.out (Nat.le_refl _)) (HX.out.below HB3.out (Nat.le_refl _))).mono ?_
        rintro e w4 ⟨a4, k4, rfl, h4, hB4⟩
        have R1 := Lib.hid (R1.out.below hB4 (Nat.le_refl _))
        have R4 := Lib.hid (lines_of_own h4).1
        have HB4 := Lib.hid (HB3.out.trans (hB4.mono HB3.out.size))
        clear h4 hB4
        go_wp2_with fail
        refine (C4.out _ _ _ R4.out (HY.out.below HB4.out (Nat.le_refl _))).mono ?_
        rintro e w5 ⟨a5, k5, rfl, h5, hB5⟩
        have R1 := Lib.hid (R1.out.below hB5 (Nat.le_refl _))
        have R5 := Lib.hid (lines_of_own h5).1
        have HB5 := Lib.hid (HB4.out.trans (hB5.mono HB4.out.size))
        clear h5 hB5 R4
        go_wp2_with fail
        refine (C5.out _ _ _ (HP.out.below HB5.out (Nat.le_refl _)) R1.out).mono ?_
        rintro e w6 ⟨a6, k6, rfl, h6, hB6⟩
        have R5 := Lib.hid (R5.out.below hB6 (Nat.le_refl _))
        have R6 := Lib.hid (lines_of_own h6).1
        have HB6 := Lib.hid (HB5.out.trans (hB6.mono HB5.out.size))
        clear h6 hB6 R1
        go_wp2_with fail
        refine (HK.out _).mono ?_
        rintro e w9 ⟨rfl, hB⟩
        go_wp2_with fail
        go_ret
        exact ⟨rfl, HB6.out.trans (hB.mono HB6.out.size)⟩
    · have y2 : (vpx ps xs 0 != 0) = true := by simpa using z2
      rw [z1] at C1 C2
      clear z1 z2 HT S2
      generalize doP (doP ps xs) ys = Q2 at *
      generalize doP ps (tnR xs ys) = Q3 at *
      generalize vpx ps (tnR xs ys) 0 = c4 at *
      generalize vpx (doP ps xs) ys 0 = c3 at *
      generalize vpx ps xs 0 = c2 at *
      generalize doP ps xs = Q1 at *
      generalize tnR xs ys = D at *
      go_enter Try.func8, Try.ntmps8
      go_wp2_with fail
      refine (HL.out _).mono ?_
      rintro e w0 ⟨rfl, rfl⟩
      go_wp2_with fail
      refine (HM.out _).mono ?_
      rintro e w0 ⟨rfl, rfl⟩
      go_wp2_with fail
      refine (C1.out _ HX.out HY.out).mono ?_
      rintro e w1 ⟨a1, k1, rfl, h1, hB1⟩
      have R1 := Lib.hid (edits_of_own h1).1
      have HB1 := Lib.hid hB1
      clear h1 hB1
      go_wp2_with fail
      refine (C2.out _ (HX.out.below HB1.out (Nat.le_refl _)) (HY.out.below HB1.out (Nat.le_refl _))).mono ?_
      rintro e w2 ⟨a2, k2, rfl, h2, hB2⟩
      have R1 := Lib.hid (R1.out.below hB2 (Nat.le_refl _))
      have R2 := Lib.hid (edits_of_own h2).1
      have HB2 := Lib.hid (HB1.out.trans (hB2.mono HB1.out.size))
      clear h2 hB2
      go_wp2_with fail
      refine (S1.out _ _ _ _ _ R1.out R2.out).mono ?_
      rintro e w3 ⟨rfl, hB3⟩
      have R1 := Lib.hid (R1.out.below hB3 (Nat.le_refl _))
      have HB3 := Lib.hid (HB2.out.trans (hB3.mono HB2.out.size))
      clear hB3 R2
      go_wp2_with fail
      refine (C3.out _ (HP.out.below HB3.out (Nat.le_refl _)) (HX.out.below HB3.out (Nat.le_refl _))).mono ?_
      rintro e w4 ⟨a4, k4, rfl, h4, hB4⟩
      have R1 := Lib.hid (R1.out.below hB4 (Nat.le_refl _))
      have R4 := Lib.hid (lines_of_own h4).1
      have HB4 := Lib.hid (HB3.out.trans (hB4.mono HB3.out.size))
      clear h4 hB4
      go_wp2_with fail
      refine (C4.out _ _ _ R4.out (HY.out.below HB4.out (Nat.le_refl _))).mono ?_
      rintro e w5 ⟨a5, k5, rfl, h5, hB5⟩
      have R1 := Lib.hid (R1.out.below hB5 (Nat.le_refl _))
      have R5 := Lib.hid (lines_of_own h5).1
      have HB5 := Lib.hid (HB4.out.trans (hB5.mono HB4.out.size))
      clear h5 hB5 R4
      go_wp2_with fail
      refine (C5.out _ _ _ (HP.out.below HB5.out (Nat.le_refl _)) R1.out).mono ?_
      rintro e w6 ⟨a6, k6, rfl, h6, hB6⟩
      have R5 := Lib.hid (R5.out.below hB6 (Nat.le_refl _))
      have R6 := Lib.hid (lines_of_own h6).1
      have HB6 := Lib.hid (HB5.out.trans (hB6.mono HB5.out.size))
      clear h6 hB6 R1
      go_wp2_with fail
      refine (HK.out _).mono ?_
      rintro e w9 ⟨rfl, hB⟩
      go_wp2_with fail
      go_ret
      exact ⟨rfl, HB6.out.trans (hB.mono HB6.out.size)⟩
  · have y1 : (tnE xs ys != 0) = true := by simpa using z1
    clear z1 HT S2
    generalize doP (doP ps xs) ys = Q2 at *
    generalize doP ps (tnR xs ys) = Q3 at *
    generalize vpx ps (tnR xs ys) 0 = c4 at *
    generalize vpx (doP ps xs) ys 0 = c3 at *
    generalize vpx ps xs 0 = c2 at *
    generalize doP ps xs = Q1 at *
    generalize tnR xs ys = D at *
    generalize tnE xs ys = c1 at *
    go_enter Try.func8, Try.ntmps8
    go_wp2_with fail
    refine (HL.out _).mono ?_
    rintro e w0 ⟨rfl, rfl⟩
    go_wp2_with fail
    refine (HM.out _).mono ?_
    rintro e w0 ⟨rfl, rfl⟩
    go_wp2_with fail
    refine (C1.out _ HX.out HY.out).mono ?_
    rintro e w1 ⟨a1, k1, rfl, h1, hB1⟩
    have R1 := Lib.hid (edits_of_own h1).1
    have HB1 := Lib.hid hB1
    clear h1 hB1
    go_wp2_with fail
    refine (C2.out _ (HX.out.below HB1.out (Nat.le_refl _)) (HY.out.below HB1.out (Nat.le_refl _))).mono ?_
    rintro e w2 ⟨a2, k2, rfl, h2, hB2⟩
    have R1 := Lib.hid (R1.out.below hB2 (Nat.le_refl _))
    have R2 := Lib.hid (edits_of_own h2).1
    have HB2 := Lib.hid (HB1.out.trans (hB2.mono HB1.out.size))
    clear h2 hB2
    go_wp2_with fail
    refine (S1.out _ _ _ _ _ R1.out R2.out).mono ?_
    rintro e w3 ⟨rfl, hB3⟩
    have R1 := Lib.hid (R1.out.below hB3 (Nat.le_refl _))
    have HB3 := Lib.hid (HB2.out.trans (hB3.mono HB2.out.size))
    clear hB3 R2
    go_wp2_with fail
    refine (C3.out _ (HP.out.below HB3.out (Nat.le_refl _)) (HX.out.below HB3.out (Nat.le_refl _))).mono ?_
    rintro e w4 ⟨a4, k4, rfl, h4, hB4⟩
    have R1 := Lib.hid (R1.out.below hB4 (Nat.le_refl _))
    have R4 := Lib.hid (lines_of_own h4).1
    have HB4 := Lib.hid (HB3.out.trans (hB4.mono HB3.out.size))
    clear h4 hB4
    go_wp2_with fail
    refine (C4.out _ _ _ R4.out (HY.out.below HB4.out (Nat.le_refl _))).mono ?_
    rintro e w5 ⟨a5, k5, rfl, h5, hB5⟩
    have R1 := Lib.hid (R1.out.below hB5 (Nat.le_refl _))
    have R5 := Lib.hid (lines_of_own h5).1
    have HB5 := Lib.hid (HB4.out.trans (hB5.mono HB4.out.size))
    clear h5 hB5 R4
    go_wp2_with fail
    refine (C5.out _ _ _ (HP.out.below HB5.out (Nat.le_refl _)) R1.out).mono ?_
    rintro e w6 ⟨a6, k6, rfl, h6, hB6⟩
    have R5 := Lib.hid (R5.out.below hB6 (Nat.le_refl _))
    have R6 := Lib.hid (lines_of_own h6).1
    have HB6 := Lib.hid (HB5.out.trans (hB6.mono HB5.out.size))
    clear h6 hB6 R1
    go_wp2_with fail
    refine (HK.out _).mono ?_
    rintro e w9 ⟨rfl, hB⟩
    go_wp2_with fail
    go_ret
    exact ⟨rfl, HB6.out.trans (hB.mono HB6.out.size)⟩

end Go.Proofs.Ytigaklppdlknkaa
