/- CheckExtremes: the walk. -/
import Derived.Test.YtndmjenfgggfbaaChkF
import Derived.Test.YtndmjenfgggfbaaExtD
set_option linter.unusedVariables false
set_option linter.unusedSimpArgs false
namespace Go.Proofs.Ytndmjenfgggfbaa
open Go.RowKit Tinker

set_option maxRecDepth 100000 in
set_option maxHeartbeats 2000000 in
theorem checkExtremes_big (a : Option Addr) (ca : Nat) (ps : List L) (a1 : Option Addr) (c1 : Nat) (lo : List Int) (b1 : Option Addr) (c2 : Nat) (hi : List Int) (out mn mx : Int) (w : World) (hbig : 100 < ps.length ∨ (ps.length ≤ 100 ∧ (100 < lo.length ∨ 100 < hi.length))) :
    Calls Try.prog 13 #[.slice a ps.length ca, .agg #[.slice a1 lo.length c1, .slice b1 hi.length c2, .int .i64 out, .int .i64 mn, .int .i64 mx]] w fun e w' => e = .returned (.bool true) ∧ Below w.heap.size w w' := by
  have HL := Lib.hid (fun w => long_any a ps.length ca w)
  have HW := Lib.hid (fun w => wide_any a1 b1 c1 c2 lo.length hi.length out mn mx w)
  have HI := Lib.hid (boxC_new (a := a1) (b := b1) (n := lo.length) (m := hi.length) (ca := c1) (cb := c2) (out := out) (mn := mn) (mx := mx) w)
  have x0 := HI.out.c0
  have x1 := HI.out.c1
  have x2 := HI.out.c2
  have x3 := HI.out.c3
  have x4 := HI.out.c4
  rcases hbig with g0 | ⟨g0, g1⟩
  · rw [show decide ((100 : Int) < (ps.length : Int)) = true by simp; omega] at HL
    go_enter Try.func13, Try.ntmps13
    go_wp2_with fail
    refine (HL.out _).mono ?_
    rintro e w' ⟨rfl, rfl⟩
    go_wp2_with fail
    refine (known2_true _).mono ?_
    rintro e wk ⟨rfl, hBk⟩
    go_wp2_with fail
    go_ret
    exact ⟨rfl, (HI.out.low hBk).below⟩
  · rw [show decide ((100 : Int) < (ps.length : Int)) = false by simp; omega] at HL
    rw [show decide (100 < lo.length ∨ 100 < hi.length) = true by simp; omega] at HW
    go_enter Try.func13, Try.ntmps13
    go_wp2_with fail
    refine (HL.out _).mono ?_
    rintro e w' ⟨rfl, rfl⟩
    go_wp2_with fail
    refine (HW.out _ ).mono ?_
    rintro e wg1 ⟨rfl, hG1⟩
    have HX1 := Lib.hid (HI.out.low hG1)
    clear hG1
    go_wp2_with fail
    refine (known2_true _).mono ?_
    rintro e wk ⟨rfl, hBk⟩
    go_wp2_with fail
    go_ret
    exact ⟨rfl, (HX1.out.low hBk).below⟩

set_option maxRecDepth 100000 in
set_option maxHeartbeats 4000000 in
theorem checkExtremes_walk (a : Option Addr) (ca : Nat) (ps : List L) (a1 : Option Addr) (c1 : Nat) (lo : List Int) (b1 : Option Addr) (c2 : Nat) (hi : List Int) (out mn mx : Int) (w : World)
    (hp : LinesAt w a ps) (hc0 : a = none → ca = 0) (hl : IntsAt w a1 lo) (hc1 : a1 = none → c1 = 0) (hh : IntsAt w b1 hi) (hc2 : b1 = none → c2 = 0) :
    Calls Try.prog 13 #[.slice a ps.length ca, .agg #[.slice a1 lo.length c1, .slice b1 hi.length c2, .int .i64 out, .int .i64 mn, .int .i64 mx]] w fun e w' => e = .returned (.bool true) ∧ Below w.heap.size w w' := by
  clear hc0 hc1 hc2
  by_cases hbig : 100 < ps.length ∨ (ps.length ≤ 100 ∧ (100 < lo.length ∨ 100 < hi.length))
  · exact checkExtremes_big a ca ps a1 c1 lo b1 c2 hi out mn mx w hbig
  · have g1 : ps.length ≤ 100 := by omega
    have g2 : lo.length ≤ 100 ∧ hi.length ≤ 100 := by omega
    have HL := Lib.hid (fun w => long_any a ps.length ca w)
    have HW := Lib.hid (fun w => wide_any a1 b1 c1 c2 lo.length hi.length out mn mx w)
    rw [show decide ((100 : Int) < (ps.length : Int)) = false by simp; omega] at HL
    rw [show decide (100 < lo.length ∨ 100 < hi.length) = false by simp; omega] at HW
    have C1 := Lib.hid (fun w hp hl hh => extremes_any a a1 b1 ca c1 c2 ps lo hi out mn mx w hp hl hh (by omega) (by omega))
    have C2 := Lib.hid (fun w hp hl hh => rExtremes_any a a1 b1 ca c1 c2 ps lo hi out mn mx w hp hl hh)
    have C3 := Lib.hid (fun w hp hl hh => keeps_any a a1 b1 ca c1 c2 ps lo hi out mn mx w hp hl hh (by omega) (by omega))
    have HK := Lib.hid (fun h => And.intro (exV_le (ps := ps) (lo := lo) (hi := hi) (out := out) (mn := mn) (mx := mx) h) (kpB_exV (ps := ps) (lo := lo) (hi := hi) (out := out) (mn := mn) (mx := mx) h))
    generalize kpB ps lo hi out mn mx = kp at C3 HK
    generalize vpc ps lo hi out mn mx = v at C1 C2 C3 HK
    generalize exV ps lo hi out mn mx = X at C1 C2 HK
    obtain ⟨m, n⟩ := X
    have HP := Lib.hid hp
    have HLO := Lib.hid hl
    have HHI := Lib.hid hh
    clear hbig g1 g2 hp hl hh
    have HI := Lib.hid (boxC_new (a := a1) (b := b1) (n := lo.length) (m := hi.length) (ca := c1) (cb := c2) (out := out) (mn := mn) (mx := mx) w)
    have x0 := HI.out.c0
    have x1 := HI.out.c1
    have x2 := HI.out.c2
    have x3 := HI.out.c3
    have x4 := HI.out.c4
    go_enter Try.func13, Try.ntmps13
    go_wp2_with fail
    refine (HL.out _).mono ?_
    rintro e w' ⟨rfl, rfl⟩
    go_wp2_with fail
    refine (HW.out _).mono ?_
    rintro e w1 ⟨rfl, hB⟩
    have HI1 := Lib.hid (HI.out.low hB)
    clear hB HI x0 x1 x2 x3 x4
    have x0 := HI1.out.c0
    have x1 := HI1.out.c1
    have x2 := HI1.out.c2
    have x3 := HI1.out.c3
    have x4 := HI1.out.c4
    have vv : (v == v) = true := by simp
    have vn : (v != v) = false := by simp
    have mm : (m == m) = true := by simp
    have mn' : (m != m) = false := by simp
    have nn : (n == n) = true := by simp
    have nn' : (n != n) = false := by simp
    go_wp2_with fail
    refine (C1.out _ (HP.out.below HI1.out.below (Nat.le_refl _)) (HLO.out.below HI1.out.below (Nat.le_refl _)) (HHI.out.below HI1.out.below (Nat.le_refl _))).mono ?_
    rintro e w2 ⟨rfl, hB⟩
    have HI2 := Lib.hid (HI1.out.low hB)
    clear hB HI1 x0 x1 x2 x3 x4
    have x0 := HI2.out.c0
    have x1 := HI2.out.c1
    have x2 := HI2.out.c2
    have x3 := HI2.out.c3
    have x4 := HI2.out.c4
    go_wp2_with fail
    refine (C2.out _ (HP.out.below HI2.out.below (Nat.le_refl _)) (HLO.out.below HI2.out.below (Nat.le_refl _)) (HHI.out.below HI2.out.below (Nat.le_refl _))).mono ?_
    rintro e w3 ⟨rfl, hB⟩
    have HI3 := Lib.hid (HI2.out.low hB)
    clear hB HI2 x0 x1 x2 x3 x4
    have x0 := HI3.out.c0
    have x1 := HI3.out.c1
    have x2 := HI3.out.c2
    have x3 := HI3.out.c3
    have x4 := HI3.out.c4
    go_wp2_with fail
    refine (C3.out _ (HP.out.below HI3.out.below (Nat.le_refl _)) (HLO.out.below HI3.out.below (Nat.le_refl _)) (HHI.out.below HI3.out.below (Nat.le_refl _))).mono ?_
    rintro e w4 ⟨rfl, hB⟩
    have HI4 := Lib.hid (HI3.out.low hB)
    clear hB HI3 x0 x1 x2 x3 x4
    have x0 := HI4.out.c0
    have x1 := HI4.out.c1
    have x2 := HI4.out.c2
    have x3 := HI4.out.c3
    have x4 := HI4.out.c4
    by_cases hz : v = 0
    · obtain ⟨hle, hk⟩ := HK.out hz
      have hz1 : (v != 0) = false := by simpa using hz
      have hz2 : (v == 0) = true := by simpa using hz
      have hle1 : m ≤ n := hle
      have hle2 : decide (m ≤ n) = true := by simpa using hle1
      cases hd : decide (mn ≤ m)
      · have hkk : kp = false := by rw [hk]; show (decide (mn ≤ m) && _) = false; rw [hd]; rfl
        subst hkk
        have hd3 : ¬ mn ≤ m := by simpa using hd
        have hd4 : m < mn := by omega
        clear hz hk HK hle
        go_wp2_with fail
        refine (known2_true _).mono ?_
        rintro e wk ⟨rfl, hBk⟩
        go_wp2_with fail
        go_ret
        exact ⟨rfl, (HI4.out.low hBk).below⟩
      · cases he : decide (n ≤ mx)
        · have hkk : kp = false := by rw [hk]; show (decide (mn ≤ m) && decide (n ≤ mx)) = false; rw [hd, he]; rfl
          subst hkk
          have hd3 : mn ≤ m := by simpa using hd
          have he3 : ¬ n ≤ mx := by simpa using he
          have he4 : mx < n := by omega
          clear hz hk HK hle
          go_wp2_with fail
          refine (known2_true _).mono ?_
          rintro e wk ⟨rfl, hBk⟩
          go_wp2_with fail
          go_ret
          exact ⟨rfl, (HI4.out.low hBk).below⟩
        · have hkk : kp = true := by rw [hk]; show (decide (mn ≤ m) && decide (n ≤ mx)) = true; rw [hd, he]; rfl
          subst hkk
          have hd3 : mn ≤ m := by simpa using hd
          have he3 : n ≤ mx := by simpa using he
          clear hz hk HK hle
          go_wp2_with fail
          refine (known2_true _).mono ?_
          rintro e wk ⟨rfl, hBk⟩
          go_wp2_with fail
          go_ret
          exact ⟨rfl, (HI4.out.low hBk).below⟩
    · have hz1 : (v != 0) = true := by simpa using hz
      clear hz HK
      go_wp2_with fail
      refine (known2_true _).mono ?_
      rintro e wk ⟨rfl, hBk⟩
      go_wp2_with fail
      go_ret
      exact ⟨rfl, (HI4.out.low hBk).below⟩

end Go.Proofs.Ytndmjenfgggfbaa
