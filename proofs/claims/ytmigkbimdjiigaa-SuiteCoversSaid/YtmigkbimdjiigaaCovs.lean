/- SuiteCovers: the walk. -/
import Derived.Test.YtmigkbimdjiigaaSuR
import Derived.Test.YtmigkbimdjiigaaSvC
import Derived.Test.YtmigkbimdjiigaaSvH
set_option linter.unusedVariables false
set_option linter.unusedSimpArgs false
namespace Go.Proofs.Ytmigkbimdjiigaa
open Go.RowKit Tinker
/-- All that SuiteCovers asks. -/
theorem cov_facts {t : List (List Int)} (hv : vsu t = 0) : chkC t (coverL t) = 0 ∧ (exclL t).length ≤ (coverL t).length := by
  obtain ⟨h8, h10, _⟩ := vsu_ok hv
  have hl : (tblM t).length ≤ 8 := by rw [tblM_len]; exact h8
  have hlt := covM_lt hl
  rw [tblM_len] at hlt
  have hc := covM_cov hl
  unfold coverL exclL
  rw [if_pos hv, if_pos hv]
  refine ⟨?_, exc_cov (by omega) (excM_bst h10).1.2 hc⟩
  unfold chkC
  have h0 : vsr t (numsK (covM (tblM t))) = 0 := by
    unfold vsr
    rw [if_pos hv, if_pos]
    rw [Bool.and_eq_true]
    exact ⟨setK _, List.all_eq_true.2 fun x hx => btw_true.2 (by have := nums_in (by omega) hlt x hx; omega)⟩
  rw [if_pos h0, mask_numsK (lt_K h8 hlt), hc]
  rfl
end Go.Proofs.Ytmigkbimdjiigaa
namespace Go.Proofs.Ytmigkbimdjiigaa
open Go.RowKit Tinker

set_option maxRecDepth 100000 in
set_option maxHeartbeats 8000000 in
theorem suiteCovers_walk (a : Option Addr) (ca : Nat) (t : List (List Int)) (w : World) (ht : RowsAt w a t) (hc : a = none → ca = 0) (hml : t.length ≤ maxLen) :
    Calls Try.prog 5 #[.slice a t.length ca] w fun e w' => e = .returned (.bool true) ∧ Below w.heap.size w w' := by
  have HK := Lib.hid (fun w => sane8_true w)
  have HL := Lib.hid (fun w ht => long8_any a ca t w ht hml)
  have HT := Lib.hid ht
  cases hl : lng8 t
  · obtain ⟨hl50, hm0⟩ := lng8_no hl
    have hm : ∀ x ∈ t, x.length ≤ 1000 := fun x hx => by have := hm0 x hx; omega
    rw [hl] at HL
    have C1 := Lib.hid (fun w h => sCover_any a ca t w h (by omega) hm)
    have C2 := Lib.hid (fun w h => rCover8_any a ca t w h (by omega) hm)
    have C3 := Lib.hid (fun w h => sExcl_any a ca t w h (by omega) hm)
    have hq1 : (coverL t).length ≤ 1000 := by
      unfold coverL
      split
      · exact Nat.le_trans (szK_le _) (by omega)
      · simp
    have S1 := Lib.hid (fun a' b' c' d' w h1 h2 => sameI8_self (coverL t).length a' b' c' d' (coverL t) w rfl h1 h2 hq1)
    have C4 := Lib.hid (fun b cb w h h2 => sCheck_any a b ca cb t (coverL t) w h h2 (by omega) hm hq1)
    clear ht hc hml hl hm0
    by_cases hv : vsu t = 0
    · obtain ⟨f1, f2⟩ := cov_facts hv
      rw [hv] at C1 C2 C3
      rw [f1] at C4
      have f2i : decide (((exclL t).length : Int) ≤ ((coverL t).length : Int)) = true := by simp; omega
      have f2n : decide ((exclL t).length ≤ (coverL t).length) = true := decide_eq_true f2
      generalize exclL t = q2 at *
      generalize coverL t = q1 at *
      clear hv f1 f2 hm hq1
      go_enter Try.func5, Try.ntmps5
      go_wp2_with fail
      refine (HL.out _ HT.out).mono ?_
      rintro e w0 ⟨rfl, rfl⟩
      go_wp2_with fail
      refine (C1.out _ HT.out).mono ?_
      rintro e w1 ⟨a1, c1, rfl, ho, hB⟩
      have HB := Lib.hid hB
      have I1 := Lib.hid ((ints_of_own ho).1)
      clear hB ho
      go_wp2_with fail
      refine (C2.out _ (HT.out.below HB.out (Nat.le_refl _))).mono ?_
      rintro e w2 ⟨a2, c2, rfl, ho, hB⟩
      have I1 := Lib.hid (I1.out.below hB (Nat.le_refl _))
      have HB := Lib.hid (HB.out.trans (hB.mono HB.out.size))
      have I2 := Lib.hid ((ints_of_own ho).1)
      clear hB ho
      go_wp2_with fail
      refine (S1.out _ _ _ _ _ I1.out I2.out).mono ?_
      rintro e w3 ⟨rfl, hB⟩
      have I1 := Lib.hid (I1.out.below hB (Nat.le_refl _))
      have I2 := Lib.hid (I2.out.below hB (Nat.le_refl _))
      have HB := Lib.hid (HB.out.trans (hB.mono HB.out.size))
      clear hB
      go_wp2_with fail
      refine (C3.out _ (HT.out.below HB.out (Nat.le_refl _))).mono ?_
      rintro e w4 ⟨a3, c3, rfl, ho, hB⟩
      have I1 := Lib.hid (I1.out.below hB (Nat.le_refl _))
      have I2 := Lib.hid (I2.out.below hB (Nat.le_refl _))
      have HB := Lib.hid (HB.out.trans (hB.mono HB.out.size))
      have I3 := Lib.hid ((ints_of_own ho).1)
      clear hB ho
      go_wp2_with fail
      refine (C4.out _ _ _ (HT.out.below HB.out (Nat.le_refl _)) I1.out).mono ?_
      rintro e w5 ⟨rfl, hB⟩
      have I1 := Lib.hid (I1.out.below hB (Nat.le_refl _))
      have I2 := Lib.hid (I2.out.below hB (Nat.le_refl _))
      have I3 := Lib.hid (I3.out.below hB (Nat.le_refl _))
      have HB := Lib.hid (HB.out.trans (hB.mono HB.out.size))
      clear hB
      go_wp2_with fail
      refine (HK.out _ ).mono ?_
      rintro e w6 ⟨rfl, hB⟩
      have I1 := Lib.hid (I1.out.below hB (Nat.le_refl _))
      have I2 := Lib.hid (I2.out.below hB (Nat.le_refl _))
      have I3 := Lib.hid (I3.out.below hB (Nat.le_refl _))
      have HB := Lib.hid (HB.out.trans (hB.mono HB.out.size))
      clear hB
      go_wp2_with fail
      go_ret
      exact ⟨rfl, HB.out⟩
    · have e1 : (vsu t != 0) = true := by simpa using hv
      have e2 : (vsu t != vsu t) = false := by simp
      generalize coverL t = q1 at *
      generalize vsu t = c at *
      clear hv hm hq1
      go_enter Try.func5, Try.ntmps5
      go_wp2_with fail
      refine (HL.out _ HT.out).mono ?_
      rintro e w0 ⟨rfl, rfl⟩
      go_wp2_with fail
      refine (C1.out _ HT.out).mono ?_
      rintro e w1 ⟨a1, c1, rfl, ho, hB⟩
      have HB := Lib.hid hB
      have I1 := Lib.hid ((ints_of_own ho).1)
      clear hB ho
      go_wp2_with fail
      refine (C2.out _ (HT.out.below HB.out (Nat.le_refl _))).mono ?_
      rintro e w2 ⟨a2, c2, rfl, ho, hB⟩
      have I1 := Lib.hid (I1.out.below hB (Nat.le_refl _))
      have HB := Lib.hid (HB.out.trans (hB.mono HB.out.size))
      have I2 := Lib.hid ((ints_of_own ho).1)
      clear hB ho
      go_wp2_with fail
      refine (S1.out _ _ _ _ _ I1.out I2.out).mono ?_
      rintro e w3 ⟨rfl, hB⟩
      have I1 := Lib.hid (I1.out.below hB (Nat.le_refl _))
      have I2 := Lib.hid (I2.out.below hB (Nat.le_refl _))
      have HB := Lib.hid (HB.out.trans (hB.mono HB.out.size))
      clear hB
      go_wp2_with fail
      refine (HK.out _ ).mono ?_
      rintro e w4 ⟨rfl, hB⟩
      have I1 := Lib.hid (I1.out.below hB (Nat.le_refl _))
      have I2 := Lib.hid (I2.out.below hB (Nat.le_refl _))
      have HB := Lib.hid (HB.out.trans (hB.mono HB.out.size))
      clear hB
      go_wp2_with fail
      go_ret
      exact ⟨rfl, HB.out⟩
  · rw [hl] at HL
    clear ht hc hml hl
    go_enter Try.func5, Try.ntmps5
    go_wp2_with fail
    refine (HL.out _ HT.out).mono ?_
    rintro e w0 ⟨rfl, rfl⟩
    go_wp2_with fail
    refine (HK.out _ ).mono ?_
    rintro e w1 ⟨rfl, hB⟩
    have HB := Lib.hid hB
    clear hB
    go_wp2_with fail
    go_ret
    exact ⟨rfl, HB.out⟩

end Go.Proofs.Ytmigkbimdjiigaa
