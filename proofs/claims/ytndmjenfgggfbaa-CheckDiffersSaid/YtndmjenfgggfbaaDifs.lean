/- CheckDiffers: the walk. -/
import Derived.Test.YtndmjenfgggfbaaChkF
import Derived.Test.YtndmjenfgggfbaaBadD
import Derived.Test.YtndmjenfgggfbaaDifC
set_option linter.unusedVariables false
set_option linter.unusedSimpArgs false
namespace Go.Proofs.Ytndmjenfgggfbaa
open Go.RowKit Tinker

theorem dfc_self {ps qs : List L} {lo hi : List Int} {out mn mx : Int} (h : dfc ps qs lo hi out mn mx = 0) : dfc ps ps lo hi out mn mx = 0 := by
  obtain ⟨h1, h2⟩ := dfc_ok h
  obtain ⟨_, h3⟩ := vpc_ok h2
  unfold dfc vpc fe
  rw [if_pos h1, if_pos h1, h3]
set_option maxRecDepth 100000 in
set_option maxHeartbeats 2000000 in
theorem checkDiffers_big (a : Option Addr) (ca : Nat) (ps : List L) (a2 : Option Addr) (ca2 : Nat) (qs : List L) (a1 : Option Addr) (c1 : Nat) (lo : List Int) (b1 : Option Addr) (c2 : Nat) (hi : List Int) (out mn mx : Int) (w : World) (hbig : 100 < ps.length ∨ (ps.length ≤ 100 ∧ 100 < qs.length) ∨ (ps.length ≤ 100 ∧ qs.length ≤ 100 ∧ (100 < lo.length ∨ 100 < hi.length))) :
    Calls Try.prog 14 #[.slice a ps.length ca, .slice a2 qs.length ca2, .agg #[.slice a1 lo.length c1, .slice b1 hi.length c2, .int .i64 out, .int .i64 mn, .int .i64 mx]] w fun e w' => e = .returned (.bool true) ∧ Below w.heap.size w w' := by
  have HL := Lib.hid (fun w => long_any a ps.length ca w)
  have HL2 := Lib.hid (fun w => long_any a2 qs.length ca2 w)
  have HW := Lib.hid (fun w => wide_any a1 b1 c1 c2 lo.length hi.length out mn mx w)
  have HI := Lib.hid (boxC_new (a := a1) (b := b1) (n := lo.length) (m := hi.length) (ca := c1) (cb := c2) (out := out) (mn := mn) (mx := mx) w)
  have x0 := HI.out.c0
  have x1 := HI.out.c1
  have x2 := HI.out.c2
  have x3 := HI.out.c3
  have x4 := HI.out.c4
  rcases hbig with g0 | ⟨g0, g1⟩ | ⟨g0, g1, g2⟩
  · rw [show decide ((100 : Int) < (ps.length : Int)) = true by simp; omega] at HL
    go_enter Try.func14, Try.ntmps14
    go_wp2_with fail
    refine (HL.out _).mono ?_
    rintro e w' ⟨rfl, rfl⟩
    go_wp2_with fail
    refine (known2_true _).mono ?_
    rintro e wk ⟨rfl, hBk⟩
    go_wp2_with fail
    go_ret
    exact ⟨rfl, (HI.out.low hBk).below⟩
  · rw [show decide ((100 : Int) < (ps.length : Int)) = false by simp; omega] at HL
    rw [show decide ((100 : Int) < (qs.length : Int)) = true by simp; omega] at HL2
    go_enter Try.func14, Try.ntmps14
    go_wp2_with fail
    refine (HL.out _).mono ?_
    rintro e w' ⟨rfl, rfl⟩
    go_wp2_with fail
    refine (HL2.out _).mono ?_
    rintro e w' ⟨rfl, rfl⟩
    go_wp2_with fail
    refine (known2_true _).mono ?_
    rintro e wk ⟨rfl, hBk⟩
    go_wp2_with fail
    go_ret
    exact ⟨rfl, (HI.out.low hBk).below⟩
  · rw [show decide ((100 : Int) < (ps.length : Int)) = false by simp; omega] at HL
    rw [show decide ((100 : Int) < (qs.length : Int)) = false by simp; omega] at HL2
    rw [show decide (100 < lo.length ∨ 100 < hi.length) = true by simp; omega] at HW
    go_enter Try.func14, Try.ntmps14
    go_wp2_with fail
    refine (HL.out _).mono ?_
    rintro e w' ⟨rfl, rfl⟩
    go_wp2_with fail
    refine (HL2.out _).mono ?_
    rintro e w' ⟨rfl, rfl⟩
    go_wp2_with fail
    refine (HW.out _ ).mono ?_
    rintro e wg1 ⟨rfl, hG1⟩
    have HX1 := Lib.hid (HI.out.low hG1)
    clear hG1
    go_wp2_with fail
    refine (known2_true _).mono ?_
    rintro e wk ⟨rfl, hBk⟩
    go_wp2_with fail
    go_ret
    exact ⟨rfl, (HX1.out.low hBk).below⟩

set_option maxRecDepth 100000 in
set_option maxHeartbeats 4000000 in
theorem checkDiffers_walk (a : Option Addr) (ca : Nat) (ps : List L) (a2 : Option Addr) (ca2 : Nat) (qs : List L) (a1 : Option Addr) (c1 : Nat) (lo : List Int) (b1 : Option Addr) (c2 : Nat) (hi : List Int) (out mn mx : Int) (w : World)
    (hp : LinesAt w a ps) (hc0 : a = none → ca = 0) (hq : LinesAt w a2 qs) (hc3 : a2 = none → ca2 = 0) (hl : IntsAt w a1 lo) (hc1 : a1 = none → c1 = 0) (hh : IntsAt w b1 hi) (hc2 : b1 = none → c2 = 0) :
    Calls Try.prog 14 #[.slice a ps.length ca, .slice a2 qs.length ca2, .agg #[.slice a1 lo.length c1, .slice b1 hi.length c2, .int .i64 out, .int .i64 mn, .int .i64 mx]] w fun e w' => e = .returned (.bool true) ∧ Below w.heap.size w w' := by
  clear hc0 hc1 hc2 hc3
  by_cases hbig : 100 < ps.length ∨ (ps.length ≤ 100 ∧ 100 < qs.length) ∨ (ps.length ≤ 100 ∧ qs.length ≤ 100 ∧ (100 < lo.length ∨ 100 < hi.length))
  · exact checkDiffers_big a ca ps a2 ca2 qs a1 c1 lo b1 c2 hi out mn mx w hbig
  · have g1 : ps.length ≤ 100 := by omega
    have g3 : qs.length ≤ 100 := by omega
    have g2 : lo.length ≤ 100 ∧ hi.length ≤ 100 := by omega
    have HL := Lib.hid (fun w => long_any a ps.length ca w)
    have HL2 := Lib.hid (fun w => long_any a2 qs.length ca2 w)
    have HW := Lib.hid (fun w => wide_any a1 b1 c1 c2 lo.length hi.length out mn mx w)
    rw [show decide ((100 : Int) < (ps.length : Int)) = false by simp; omega] at HL
    rw [show decide ((100 : Int) < (qs.length : Int)) = false by simp; omega] at HL2
    rw [show decide (100 < lo.length ∨ 100 < hi.length) = false by simp; omega] at HW
    have C1 := Lib.hid (fun w hp hq hl hh => differ_any a a2 a1 b1 ca ca2 c1 c2 ps qs lo hi out mn mx w hp hq hl hh (by omega) (by omega))
    have C2 := Lib.hid (fun w hp hq hl hh => rDiffer_any a a2 a1 b1 ca ca2 c1 c2 ps qs lo hi out mn mx w hp hq hl hh)
    have C3 := Lib.hid (fun w hp hl hh => differ_any a a a1 b1 ca ca c1 c2 ps ps lo hi out mn mx w hp hp hl hh (by omega) (by omega))
    have HS := Lib.hid (fun h => dfc_self (ps := ps) (qs := qs) (lo := lo) (hi := hi) (out := out) (mn := mn) (mx := mx) h)
    rw [dfL_self] at C3
    have hF4 := dfL_len ps qs lo hi out mn mx
    generalize dfc ps ps lo hi out mn mx = u at C3 HS
    generalize dfc ps qs lo hi out mn mx = v at C1 C2 HS
    generalize dfL ps qs lo hi out mn mx = X at C1 C2 hF4
    have HF4 := Lib.hid hF4
    clear hF4
    have HP := Lib.hid hp
    have HQ := Lib.hid hq
    have HLO := Lib.hid hl
    have HHI := Lib.hid hh
    clear hbig g1 g2 hp hl hh g3 hq
    have HI := Lib.hid (boxC_new (a := a1) (b := b1) (n := lo.length) (m := hi.length) (ca := c1) (cb := c2) (out := out) (mn := mn) (mx := mx) w)
    have x0 := HI.out.c0
    have x1 := HI.out.c1
    have x2 := HI.out.c2
    have x3 := HI.out.c3
    have x4 := HI.out.c4
    go_enter Try.func14, Try.ntmps14
    go_wp2_with fail
    refine (HL.out _).mono ?_
    rintro e w' ⟨rfl, rfl⟩
    go_wp2_with fail
    refine (HL2.out _).mono ?_
    rintro e w' ⟨rfl, rfl⟩
    go_wp2_with fail
    refine (HW.out _).mono ?_
    rintro e w1 ⟨rfl, hB⟩
    have HI1 := Lib.hid (HI.out.low hB)
    clear hB HI x0 x1 x2 x3 x4
    have x0 := HI1.out.c0
    have x1 := HI1.out.c1
    have x2 := HI1.out.c2
    have x3 := HI1.out.c3
    have x4 := HI1.out.c4
    go_wp2_with fail
    refine (C1.out _ (HP.out.below HI1.out.below (Nat.le_refl _)) (HQ.out.below HI1.out.below (Nat.le_refl _)) (HLO.out.below HI1.out.below (Nat.le_refl _)) (HHI.out.below HI1.out.below (Nat.le_refl _))).mono ?_
    rintro e w2 ⟨r1, k1, rfl, J1, hB⟩
    have J1 := Lib.hid J1
    have HI2 := Lib.hid (HI1.out.low hB)
    clear hB HI1 x0 x1 x2 x3 x4
    have x0 := HI2.out.c0
    have x1 := HI2.out.c1
    have x2 := HI2.out.c2
    have x3 := HI2.out.c3
    have x4 := HI2.out.c4
    go_wp2_with fail
    refine (C2.out _ (HP.out.below HI2.out.below (Nat.le_refl _)) (HQ.out.below HI2.out.below (Nat.le_refl _)) (HLO.out.below HI2.out.below (Nat.le_refl _)) (HHI.out.below HI2.out.below (Nat.le_refl _))).mono ?_
    rintro e w3 ⟨r2, k2, rfl, J2, hB⟩
    have J1 := Lib.hid (J1.out.below hB (Nat.le_refl _))
    have J2 := Lib.hid J2
    have HI3 := Lib.hid (HI2.out.low hB)
    clear hB HI2 x0 x1 x2 x3 x4
    have x0 := HI3.out.c0
    have x1 := HI3.out.c1
    have x2 := HI3.out.c2
    have x3 := HI3.out.c3
    have x4 := HI3.out.c4
    go_wp2_with fail
    refine (same_self _ r1 r2 k1 k2 (X.getD []) _ rfl J1.out J2.out (by have := HF4.out; omega)).mono ?_
    rintro e w4 ⟨rfl, hB⟩
    have HI4 := Lib.hid (HI3.out.low hB)
    clear hB HI3 x0 x1 x2 x3 x4
    have x0 := HI4.out.c0
    have x1 := HI4.out.c1
    have x2 := HI4.out.c2
    have x3 := HI4.out.c3
    have x4 := HI4.out.c4
    have vv : (v == v) = true := by simp
    have vn : (v != v) = false := by simp
    go_wp2_with fail
    refine (C3.out _ (HP.out.below HI4.out.below (Nat.le_refl _)) (HLO.out.below HI4.out.below (Nat.le_refl _)) (HHI.out.below HI4.out.below (Nat.le_refl _))).mono ?_
    rintro e w5 ⟨r3, k3, rfl, J3, hB⟩
    have HI5 := Lib.hid (HI4.out.low hB)
    clear hB HI4 x0 x1 x2 x3 x4
    have x0 := HI5.out.c0
    have x1 := HI5.out.c1
    have x2 := HI5.out.c2
    have x3 := HI5.out.c3
    have x4 := HI5.out.c4
    clear J3
    by_cases hz : v = 0
    · have hu := HS.out hz
      have hz1 : (v != 0) = false := by simpa using hz
      have hz2 : (v == 0) = true := by simpa using hz
      clear hz HS
      subst hu
      go_wp2_with fail
      refine (known2_true _).mono ?_
      rintro e wk ⟨rfl, hBk⟩
      go_wp2_with fail
      go_ret
      exact ⟨rfl, (HI5.out.low hBk).below⟩
    · have hz1 : (v != 0) = true := by simpa using hz
      clear hz HS
      go_wp2_with fail
      refine (known2_true _).mono ?_
      rintro e wk ⟨rfl, hBk⟩
      go_wp2_with fail
      go_ret
      exact ⟨rfl, (HI5.out.low hBk).below⟩

end Go.Proofs.Ytndmjenfgggfbaa
