/- Several texts in one. -/
import Derived.Test.YtkakdkolankmpaaTnD
import Derived.Test.YtkakdkolankmpaaDoe
import Derived.Test.YtkakdkolankmpaaThrD
/- PatchThen: the walk. -/
set_option linter.unusedVariables false
set_option linter.unusedSimpArgs false
namespace Go.Proofs.Ytkakdkolankmpaa
open Go.RowKit Tinker

theorem tnR_len (xs ys : List E) : (tnR xs ys).length ≤ 8 := by
  unfold tnR
  split
  · exact mpTo_len _ 8
  · simp
theorem doP_len4 (ps : List L) (xs : List E) : (doP ps xs).length ≤ ps.length := by
  unfold doP
  split
  · rw [doL_len]; exact Nat.le_refl _
  · simp

end Go.Proofs.Ytkakdkolankmpaa

/- PatchThrees: the walk. -/
set_option linter.unusedVariables false
set_option linter.unusedSimpArgs false
namespace Go.Proofs.Ytkakdkolankmpaa
open Go.RowKit Tinker

set_option maxRecDepth 100000 in
set_option maxHeartbeats 4000000 in
theorem patchThrees_walk (a : Option Addr) (ca : Nat) (ps : List L) (g : Option Addr) (cg : Nat) (xs : List L) (g2 : Option Addr) (cg2 : Nat) (ys : List L) (w : World) (hp : LinesAt w a ps) (hc : a = none → ca = 0) (hx : LinesAt w g xs) (hc1 : g = none → cg = 0) (hy : LinesAt w g2 ys) (hc2 : g2 = none → cg2 = 0) :
    Calls Try.prog 4 #[.slice a ps.length ca, .slice g xs.length cg, .slice g2 ys.length cg2] w fun e w' => e = .returned (.bool true) ∧ Below w.heap.size w w' := by
  clear hc hc1 hc2
  have HK := Lib.hid (fun w => sane_true w)
  have HL := Lib.hid (fun w => long4_any a none ps.length 0 ca 0 w)
  have HM := Lib.hid (fun w => long4_any g none xs.length 0 cg 0 w)
  have HN := Lib.hid (fun w => long4_any g2 none ys.length 0 cg2 0 w)
  by_cases g1 : 100 < ps.length
  · rw [show (decide (100 < ps.length) || decide (100 < 0)) = true by simpa using g1] at HL
    clear hp hx hy g1 HM HN
    go_enter Try.func4, Try.ntmps4
    go_wp2_with fail
    refine (HL.out _).mono ?_
    rintro e we0 ⟨rfl, rfl⟩
    go_wp2_with fail
    refine (HK.out _).mono ?_
    rintro e w1 ⟨rfl, hB1⟩
    have HB1 := Lib.hid hB1
    clear hB1 
    go_wp2_with fail
    go_ret
    exact ⟨rfl, HB1.out⟩
  rw [show (decide (100 < ps.length) || decide (100 < 0)) = false by simp; omega] at HL
  by_cases g3 : 100 < xs.length
  · rw [show (decide (100 < xs.length) || decide (100 < 0)) = true by simpa using g3] at HM
    clear hp hx hy g3 HN g1
    go_enter Try.func4, Try.ntmps4
    go_wp2_with fail
    refine (HL.out _).mono ?_
    rintro e we0 ⟨rfl, rfl⟩
    go_wp2_with fail
    refine (HM.out _).mono ?_
    rintro e we1 ⟨rfl, rfl⟩
    go_wp2_with fail
    refine (HK.out _).mono ?_
    rintro e w1 ⟨rfl, hB1⟩
    have HB1 := Lib.hid hB1
    clear hB1 
    go_wp2_with fail
    go_ret
    exact ⟨rfl, HB1.out⟩
  rw [show (decide (100 < xs.length) || decide (100 < 0)) = false by simp; omega] at HM
  by_cases g4 : 100 < ys.length
  · rw [show (decide (100 < ys.length) || decide (100 < 0)) = true by simpa using g4] at HN
    clear hp hx hy g4 g1 g3
    go_enter Try.func4, Try.ntmps4
    go_wp2_with fail
    refine (HL.out _).mono ?_
    rintro e we0 ⟨rfl, rfl⟩
    go_wp2_with fail
    refine (HM.out _).mono ?_
    rintro e we1 ⟨rfl, rfl⟩
    go_wp2_with fail
    refine (HN.out _).mono ?_
    rintro e we2 ⟨rfl, rfl⟩
    go_wp2_with fail
    refine (HK.out _).mono ?_
    rintro e w1 ⟨rfl, hB1⟩
    have HB1 := Lib.hid hB1
    clear hB1 
    go_wp2_with fail
    go_ret
    exact ⟨rfl, HB1.out⟩
  rw [show (decide (100 < ys.length) || decide (100 < 0)) = false by simp; omega] at HN
  have C1 := Lib.hid (fun w h h' h2 => pThree_any a g g2 ca cg cg2 ps xs ys w h h' h2)
  have C2 := Lib.hid (fun w h h' h2 => rThree_any a g g2 ca cg cg2 ps xs ys w h h' h2 (by omega) (by omega) (by omega))
  have hl1 := thL_len ps xs ys
  have hl2 := thN_len ps xs ys
  have S1 := Lib.hid (fun a' b' c' d' w h1 h2 => sameL4_self (thL ps xs ys).length a' b' c' d' (thL ps xs ys) w rfl h1 h2 (by omega))
  have S2 := Lib.hid (fun a' b' c' d' w h1 h2 => sameI4_self (thN ps xs ys).length a' b' c' d' (thN ps xs ys) w rfl h1 h2 (by omega))
  have C3 := Lib.hid (fun w h h' h2 => pThree_any a g2 g ca cg2 cg ps ys xs w h h' h2)
  have C4 := Lib.hid (fun w h h' => pThree_any a g a ca cg ca ps xs ps w h h' h)
  have S3 := Lib.hid (fun a' b' c' d' w h1 h2 => sameL4_self xs.length a' b' c' d' xs w rfl h1 h2 (by omega))
  have HP := Lib.hid hp
  have HX := Lib.hid hx
  have HY := Lib.hid hy
  clear g1 g3 g4 hp hx hy hl1 hl2
  by_cases z1 : thC ps xs ys = 0
  · obtain ⟨t1, t2, t3, t4, t5, t6⟩ := th_ok z1
    rw [t1, t2, t3] at C3
    rw [t4, t5, t6] at C4
    rw [z1] at C1 C2
    clear t1 t2 t3 t4 t5 t6 z1
    generalize thL ps xs ys = D at *
    generalize thN ps xs ys = F at *
    go_enter Try.func4, Try.ntmps4
    go_wp2_with fail
    refine (HL.out _).mono ?_
    rintro e we0 ⟨rfl, rfl⟩
    go_wp2_with fail
    refine (HM.out _).mono ?_
    rintro e we1 ⟨rfl, rfl⟩
    go_wp2_with fail
    refine (HN.out _).mono ?_
    rintro e we2 ⟨rfl, rfl⟩
    go_wp2_with fail
    refine (C1.out _ HP.out HX.out HY.out).mono ?_
    rintro e w1 ⟨a1, k1, b1, m1, rfl, h1, j1, hB1⟩
    have R1 := Lib.hid (h1)
    have T1 := Lib.hid (j1)
    have HB1 := Lib.hid hB1
    clear hB1 h1 j1
    go_wp2_with fail
    refine (C2.out _ (HP.out.below HB1.out (Nat.le_refl _)) (HX.out.below HB1.out (Nat.le_refl _)) (HY.out.below HB1.out (Nat.le_refl _))).mono ?_
    rintro e w2 ⟨a2, k2, b2, m2, rfl, h2, j2, hB2⟩
    have R1 := Lib.hid (R1.out.below hB2 (Nat.le_refl _))
    have T1 := Lib.hid (T1.out.below hB2 (Nat.le_refl _))
    have R2 := Lib.hid (h2)
    have T2 := Lib.hid (j2)
    have HB2 := Lib.hid (HB1.out.trans (hB2.mono HB1.out.size))
    clear hB2 h2 j2
    go_wp2_with fail
    refine (S1.out _ _ _ _ _ R1.out R2.out).mono ?_
    rintro e w3 ⟨rfl, hB3⟩
    have R1 := Lib.hid (R1.out.below hB3 (Nat.le_refl _))
    have T1 := Lib.hid (T1.out.below hB3 (Nat.le_refl _))
    clear R2
    have T2 := Lib.hid (T2.out.below hB3 (Nat.le_refl _))
    have HB3 := Lib.hid (HB2.out.trans (hB3.mono HB2.out.size))
    clear hB3 
    go_wp2_with fail
    refine (S2.out _ _ _ _ _ T1.out T2.out).mono ?_
    rintro e w4 ⟨rfl, hB4⟩
    have R1 := Lib.hid (R1.out.below hB4 (Nat.le_refl _))
    have T1 := Lib.hid (T1.out.below hB4 (Nat.le_refl _))
    clear T2
    have HB4 := Lib.hid (HB3.out.trans (hB4.mono HB3.out.size))
    clear hB4 
    go_wp2_with fail
    refine (C3.out _ (HP.out.below HB4.out (Nat.le_refl _)) (HY.out.below HB4.out (Nat.le_refl _)) (HX.out.below HB4.out (Nat.le_refl _))).mono ?_
    rintro e w5 ⟨a3, k3, b3, m3, rfl, h3, j3, hB5⟩
    have R1 := Lib.hid (R1.out.below hB5 (Nat.le_refl _))
    have T1 := Lib.hid (T1.out.below hB5 (Nat.le_refl _))
    have R3 := Lib.hid (h3)
    have T3 := Lib.hid (j3)
    have HB5 := Lib.hid (HB4.out.trans (hB5.mono HB4.out.size))
    clear hB5 h3 j3
    go_wp2_with fail
    refine (C4.out _ (HP.out.below HB5.out (Nat.le_refl _)) (HX.out.below HB5.out (Nat.le_refl _))).mono ?_
    rintro e w6 ⟨a4, k4, b4, m4, rfl, h4, j4, hB6⟩
    have R1 := Lib.hid (R1.out.below hB6 (Nat.le_refl _))
    have T1 := Lib.hid (T1.out.below hB6 (Nat.le_refl _))
    have R3 := Lib.hid (R3.out.below hB6 (Nat.le_refl _))
    have T3 := Lib.hid (T3.out.below hB6 (Nat.le_refl _))
    have R4 := Lib.hid (h4)
    have T4 := Lib.hid (j4)
    have HB6 := Lib.hid (HB5.out.trans (hB6.mono HB5.out.size))
    clear hB6 h4 j4
    go_wp2_with fail
    refine (S1.out _ _ _ _ _ R3.out R1.out).mono ?_
    rintro e w7 ⟨rfl, hB7⟩
    clear R1
    have T1 := Lib.hid (T1.out.below hB7 (Nat.le_refl _))
    clear R3
    have T3 := Lib.hid (T3.out.below hB7 (Nat.le_refl _))
    have R4 := Lib.hid (R4.out.below hB7 (Nat.le_refl _))
    clear T4
    have HB7 := Lib.hid (HB6.out.trans (hB7.mono HB6.out.size))
    clear hB7 
    go_wp2_with fail
    refine (S2.out _ _ _ _ _ T3.out T1.out).mono ?_
    rintro e w8 ⟨rfl, hB8⟩
    clear T1
    clear T3
    have R4 := Lib.hid (R4.out.below hB8 (Nat.le_refl _))
    have HB8 := Lib.hid (HB7.out.trans (hB8.mono HB7.out.size))
    clear hB8 
    go_wp2_with fail
    refine (S3.out _ _ _ _ _ R4.out (HX.out.below HB8.out (Nat.le_refl _))).mono ?_
    rintro e w9 ⟨rfl, hB9⟩
    clear R4
    have HB9 := Lib.hid (HB8.out.trans (hB9.mono HB8.out.size))
    clear hB9 
    go_wp2_with fail
    refine (HK.out _).mono ?_
    rintro e w10 ⟨rfl, hB10⟩
    have HB10 := Lib.hid (HB9.out.trans (hB10.mono HB9.out.size))
    clear hB10 
    go_wp2_with fail
    go_ret
    exact ⟨rfl, HB10.out⟩
  · have y1 : (thC ps xs ys != 0) = true := by simpa using z1
    clear z1 C3 C4 S3
    generalize thL ps xs ys = D at *
    generalize thN ps xs ys = F at *
    generalize thC ps xs ys = c1 at *
    go_enter Try.func4, Try.ntmps4
    go_wp2_with fail
    refine (HL.out _).mono ?_
    rintro e we0 ⟨rfl, rfl⟩
    go_wp2_with fail
    refine (HM.out _).mono ?_
    rintro e we1 ⟨rfl, rfl⟩
    go_wp2_with fail
    refine (HN.out _).mono ?_
    rintro e we2 ⟨rfl, rfl⟩
    go_wp2_with fail
    refine (C1.out _ HP.out HX.out HY.out).mono ?_
    rintro e w1 ⟨a1, k1, b1, m1, rfl, h1, j1, hB1⟩
    have R1 := Lib.hid (h1)
    have T1 := Lib.hid (j1)
    have HB1 := Lib.hid hB1
    clear hB1 h1 j1
    go_wp2_with fail
    refine (C2.out _ (HP.out.below HB1.out (Nat.le_refl _)) (HX.out.below HB1.out (Nat.le_refl _)) (HY.out.below HB1.out (Nat.le_refl _))).mono ?_
    rintro e w2 ⟨a2, k2, b2, m2, rfl, h2, j2, hB2⟩
    have R1 := Lib.hid (R1.out.below hB2 (Nat.le_refl _))
    have T1 := Lib.hid (T1.out.below hB2 (Nat.le_refl _))
    have R2 := Lib.hid (h2)
    have T2 := Lib.hid (j2)
    have HB2 := Lib.hid (HB1.out.trans (hB2.mono HB1.out.size))
    clear hB2 h2 j2
    go_wp2_with fail
    refine (S1.out _ _ _ _ _ R1.out R2.out).mono ?_
    rintro e w3 ⟨rfl, hB3⟩
    clear R1
    have T1 := Lib.hid (T1.out.below hB3 (Nat.le_refl _))
    clear R2
    have T2 := Lib.hid (T2.out.below hB3 (Nat.le_refl _))
    have HB3 := Lib.hid (HB2.out.trans (hB3.mono HB2.out.size))
    clear hB3 
    go_wp2_with fail
    refine (S2.out _ _ _ _ _ T1.out T2.out).mono ?_
    rintro e w4 ⟨rfl, hB4⟩
    clear T1
    clear T2
    have HB4 := Lib.hid (HB3.out.trans (hB4.mono HB3.out.size))
    clear hB4 
    go_wp2_with fail
    refine (HK.out _).mono ?_
    rintro e w5 ⟨rfl, hB5⟩
    have HB5 := Lib.hid (HB4.out.trans (hB5.mono HB4.out.size))
    clear hB5 
    go_wp2_with fail
    go_ret
    exact ⟨rfl, HB5.out⟩

end Go.Proofs.Ytkakdkolankmpaa
