/- The errors of programs, patches and tests: contract. -/
import Derived.Test.YtigaklppdlknkaaPtV
import Derived.Test.YtigaklppdlknkaaTells
set_option linter.unusedVariables false
set_option linter.unusedSimpArgs false
namespace Go.Proofs.Ytigaklppdlknkaa
open Go.RowKit Tinker

theorem feL_three (a b c : Int) : feL [a, b, c] = fe (fe a b) c := by
  simp only [feL, fe]
  by_cases h1 : a = 0
  · by_cases h2 : b = 0
    · by_cases h3 : c = 0 <;> simp [h1, h2, h3]
    · simp [h1, h2]
  · simp [h1]

set_option maxRecDepth 100000 in
set_option maxHeartbeats 1000000 in
theorem pvalidate_any (a g h : Option Addr) (ca cg ch : Nat) (ps : List L) (xs : List E) (ts : List T) (w : World) (hp : LinesAt w a ps) (hx : EditsAt w g xs) (hts : TestsAt w h ts) (hm : xs.length ≤ 1000) (hm2 : ts.length ≤ 1000) (hml : ∀ t ∈ ts, t.inn.length ≤ 1000) (hpl : ps.length ≤ 1000) :
    Calls Try.prog 72 #[.slice a ps.length ca, .slice g xs.length cg, .slice h ts.length ch] w fun e w' => e = .returned (.int .i64 (vpx ps xs (vts ts))) ∧ Below w.heap.size w w' := by
  have H1 := Lib.hid (fun w hp => validate_any a ca ps w hp)
  have H2 := Lib.hid (fun w hx => pValidate_any g cg xs w hx hm)
  have H3 := Lib.hid (fun w hts => validateTests_C h ch ts w hts hm2 hml)
  have HP := Lib.hid (fun (hz : feL [vp ps, vx xs, vts ts] = 0) w hx => pPlaces_any g cg xs w hx (by rw [feL_three] at hz; exact (vx_ok (fe_0 (fe_0 hz).1).2).1))
  have HV0 := Lib.hid (show feL [vp ps, vx xs, vts ts] = 0 → vpx ps xs (vts ts) = if allBtw (pl xs) 0 ((ps.length : Int) - 1) then 0 else 4 from fun hz => by rw [feL_three] at hz; unfold vpx; rw [if_pos hz])
  have HV1 := Lib.hid (show feL [vp ps, vx xs, vts ts] ≠ 0 → vpx ps xs (vts ts) = feL [vp ps, vx xs, vts ts] from fun hz => by rw [feL_three] at hz ⊢; unfold vpx; rw [if_neg hz])
  have HA := Lib.hid (fun b c w h => by have := areBetween_any b c (pl xs) 0 ((ps.length : Int) - 1) w h (by rw [plLen]; omega); rw [plLen] at this; exact this)
  generalize vpx ps xs (vts ts) = r at HV0 HV1 ⊢
  generalize allBtw (pl xs) 0 ((ps.length : Int) - 1) = A at HA HV0
  generalize vp ps = c1 at H1 HP HV0 HV1
  generalize vx xs = c2 at H2 HP HV0 HV1
  generalize vts ts = c3 at H3 HP HV0 HV1
  go_enter Try.func72, Try.ntmps72
  go_wp2_with fail
  refine (H1.out _ hp).mono ?_
  rintro e w1 ⟨rfl, hB1⟩
  have HB1 := Lib.hid hB1
  clear hB1
  go_wp2_with fail
  refine (H2.out _ (hx.below HB1.out (Nat.le_refl _))).mono ?_
  rintro e w2 ⟨rfl, hB2⟩
  have HB2 := Lib.hid (HB1.out.trans (hB2.mono HB1.out.size))
  clear hB2
  go_wp2_with fail
  refine (H3.out _ (hts.below HB2.out (Nat.le_refl _))).mono ?_
  rintro e w3 ⟨rfl, hB3⟩
  have HB3 := Lib.hid (HB2.out.trans (hB3.mono HB2.out.size))
  clear hB3
  go_wp2_with fail
  refine (firstError3_at _ _ c1 c2 c3 (ints_three _ _ _ _ _)).mono ?_
  rintro e w4 ⟨rfl, hw4⟩
  have hB4 := HB3.out.alloc HB3.out.size (.cells #[.int .i64 c1, .int .i64 c2, .int .i64 c3] 26)
  rw [hw4] at hB4
  have HB4 := Lib.hid hB4
  clear hB4 hw4
  generalize feL [c1, c2, c3] = c at HP HV0 HV1 ⊢
  clear H1 H2 H3
  by_cases hz : c = 0
  · have HP2 := Lib.hid (HP.out hz)
    have HE := Lib.hid (HV0.out hz)
    subst hz
    clear HV0 HV1 HP
    go_wp2_with fail
    refine (HP2.out _ (hx.below HB4.out (Nat.le_refl _))).mono ?_
    rintro e w5 ⟨rfl, hR, _⟩
    have HI := Lib.hid hR.ints
    have HB5 := Lib.hid (HB4.out.trans (hR.below.mono HB4.out.size))
    clear hR
    go_wp2_with fail
    refine (HA.out _ _ _ HI.out).mono ?_
    rintro e w6 ⟨rfl, rfl⟩
    cases A
    · go_wp2_with fail
      go_ret
      exact ⟨ret_int HE.out.symm, HB5.out⟩
    · go_wp2_with fail
      go_ret
      exact ⟨ret_int HE.out.symm, HB5.out⟩
  · have HE := Lib.hid (HV1.out hz)
    have hz1 : (c != 0) = true := by simpa using hz
    have hz2 : (c == 0) = false := by simpa using hz
    clear hz HV0 HV1 HP
    go_wp2_with fail
    go_ret
    exact ⟨ret_int HE.out.symm, HB4.out⟩

end Go.Proofs.Ytigaklppdlknkaa
