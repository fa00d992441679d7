/- SuiteMeets: the walk. -/
import Derived.Test.YtmigkbimdjiigaaSuR
import Derived.Test.YtmigkbimdjiigaaSvC
set_option linter.unusedVariables false
set_option linter.unusedSimpArgs false
namespace Go.Proofs.Ytmigkbimdjiigaa
open Go.RowKit Tinker

set_option maxRecDepth 100000 in
set_option maxHeartbeats 8000000 in
theorem suiteMeets_walk (a : Option Addr) (ca : Nat) (t : List (List Int)) (b : Option Addr) (cb : Nat) (rows : List Int) (w : World) (ht : RowsAt w a t) (hc : a = none → ca = 0) (hml : t.length ≤ maxLen) (hr : IntsAt w b rows) (hcr : b = none → cb = 0) :
    Calls Try.prog 3 #[.slice a t.length ca, .slice b rows.length cb] w fun e w' => e = .returned (.bool true) ∧ Below w.heap.size w w' := by
  have HK := Lib.hid (fun w => sane8_true w)
  have HL := Lib.hid (fun w ht => long8_any a ca t w ht hml)
  have HT := Lib.hid ht
  have HR := Lib.hid hr
  cases hl : lng8 t
  · obtain ⟨hl50, hm0⟩ := lng8_no hl
    have hm : ∀ x ∈ t, x.length ≤ 1000 := fun x hx => by have := hm0 x hx; omega
    rw [hl] at HL
    by_cases hrl : 50 < rows.length
    · have hrl2 : decide ((50 : Int) < (rows.length : Int)) = true := by simp; omega
      have hrl3 : decide (50 < rows.length) = true := decide_eq_true hrl
      clear ht hc hml hl hm0 hr hcr hm hrl
      go_enter Try.func3, Try.ntmps3
      go_wp2_with fail
      refine (HL.out _ HT.out).mono ?_
      rintro e w0 ⟨rfl, rfl⟩
      go_wp2_with fail
      refine (HK.out _ ).mono ?_
      rintro e w1 ⟨rfl, hB⟩
      have HB := Lib.hid hB
      clear hB
      go_wp2_with fail
      go_ret
      exact ⟨rfl, HB.out⟩
    · have hrl2 : decide ((50 : Int) < (rows.length : Int)) = false := by simp; omega
      have hrl3 : decide (50 < rows.length) = false := decide_eq_false hrl
      have C1 := Lib.hid (fun w h => sOpen_any a ca t w h (by omega) hm)
      have C2 := Lib.hid (fun w h => rOpen8_any a ca t w h (by omega) hm)
      have C3 := Lib.hid (fun w h h2 => sMet_any a b ca cb t rows w h h2 (by omega) hm (by omega))
      have C4 := Lib.hid (fun w h h2 => rMet8_any a b ca cb t rows w h h2 (by omega) hm (by omega))
      have C5 := Lib.hid (fun w h => sValidate_any a ca t w h (by omega) hm)
      have C6 := Lib.hid (fun w h => rValidate8_any a ca t w h (by omega) hm)
      have hq1 : (if vsu t = 0 then numsK (openM (tblM t)) else []).length ≤ 1000 := by
        split
        · exact Nat.le_trans (szK_le _) (by omega)
        · simp
      have hq2 : (if vsr t rows = 0 then numsK (metM (tblM t) (maskM rows)) else []).length ≤ 1000 := by
        split
        · exact Nat.le_trans (szK_le _) (by omega)
        · simp
      generalize (if vsu t = 0 then numsK (openM (tblM t)) else []) = q1 at *
      generalize (if vsr t rows = 0 then numsK (metM (tblM t) (maskM rows)) else []) = q2 at *
      generalize vsu t = v1 at *
      generalize vsr t rows = v2 at *
      have e1 : (v1 == v1) = true := by simp
      have e2 : (v2 == v2) = true := by simp
      have S1 := Lib.hid (fun a' b' c' d' w h1 h2 => sameI8_self q1.length a' b' c' d' q1 w rfl h1 h2 hq1)
      have S2 := Lib.hid (fun a' b' c' d' w h1 h2 => sameI8_self q2.length a' b' c' d' q2 w rfl h1 h2 hq2)
      clear hm hq1 hq2
      clear ht hc hml hl hm0 hr hcr
      go_enter Try.func3, Try.ntmps3
      go_wp2_with fail
      refine (HL.out _ HT.out).mono ?_
      rintro e w0 ⟨rfl, rfl⟩
      go_wp2_with fail
      refine (C1.out _ HT.out).mono ?_
      rintro e w1 ⟨a1, c1, rfl, ho, hB⟩
      have HB := Lib.hid hB
      have I1 := Lib.hid ((ints_of_own ho).1)
      clear hB ho
      go_wp2_with fail
      refine (C2.out _ (HT.out.below HB.out (Nat.le_refl _))).mono ?_
      rintro e w2 ⟨a2, c2, rfl, ho, hB⟩
      have I1 := Lib.hid (I1.out.below hB (Nat.le_refl _))
      have HB := Lib.hid (HB.out.trans (hB.mono HB.out.size))
      have I2 := Lib.hid ((ints_of_own ho).1)
      clear hB ho
      go_wp2_with fail
      refine (C3.out _ (HT.out.below HB.out (Nat.le_refl _)) (HR.out.below HB.out (Nat.le_refl _))).mono ?_
      rintro e w3 ⟨a3, c3, rfl, ho, hB⟩
      have I1 := Lib.hid (I1.out.below hB (Nat.le_refl _))
      have I2 := Lib.hid (I2.out.below hB (Nat.le_refl _))
      have HB := Lib.hid (HB.out.trans (hB.mono HB.out.size))
      have I3 := Lib.hid ((ints_of_own ho).1)
      clear hB ho
      go_wp2_with fail
      refine (C4.out _ (HT.out.below HB.out (Nat.le_refl _)) (HR.out.below HB.out (Nat.le_refl _))).mono ?_
      rintro e w4 ⟨a4, c4, rfl, ho, hB⟩
      have I1 := Lib.hid (I1.out.below hB (Nat.le_refl _))
      have I2 := Lib.hid (I2.out.below hB (Nat.le_refl _))
      have I3 := Lib.hid (I3.out.below hB (Nat.le_refl _))
      have HB := Lib.hid (HB.out.trans (hB.mono HB.out.size))
      have I4 := Lib.hid ((ints_of_own ho).1)
      clear hB ho
      go_wp2_with fail
      refine (C5.out _ (HT.out.below HB.out (Nat.le_refl _))).mono ?_
      rintro e w0 ⟨rfl, rfl⟩
      go_wp2_with fail
      refine (C6.out _ (HT.out.below HB.out (Nat.le_refl _))).mono ?_
      rintro e w5 ⟨rfl, hB⟩
      have I1 := Lib.hid (I1.out.below hB (Nat.le_refl _))
      have I2 := Lib.hid (I2.out.below hB (Nat.le_refl _))
      have I3 := Lib.hid (I3.out.below hB (Nat.le_refl _))
      have I4 := Lib.hid (I4.out.below hB (Nat.le_refl _))
      have HB := Lib.hid (HB.out.trans (hB.mono HB.out.size))
      clear hB
      go_wp2_with fail
      refine (S1.out _ _ _ _ _ I1.out I2.out).mono ?_
      rintro e w6 ⟨rfl, hB⟩
      have I1 := Lib.hid (I1.out.below hB (Nat.le_refl _))
      have I2 := Lib.hid (I2.out.below hB (Nat.le_refl _))
      have I3 := Lib.hid (I3.out.below hB (Nat.le_refl _))
      have I4 := Lib.hid (I4.out.below hB (Nat.le_refl _))
      have HB := Lib.hid (HB.out.trans (hB.mono HB.out.size))
      clear hB
      go_wp2_with fail
      refine (S2.out _ _ _ _ _ I3.out I4.out).mono ?_
      rintro e w7 ⟨rfl, hB⟩
      have I1 := Lib.hid (I1.out.below hB (Nat.le_refl _))
      have I2 := Lib.hid (I2.out.below hB (Nat.le_refl _))
      have I3 := Lib.hid (I3.out.below hB (Nat.le_refl _))
      have I4 := Lib.hid (I4.out.below hB (Nat.le_refl _))
      have HB := Lib.hid (HB.out.trans (hB.mono HB.out.size))
      clear hB
      go_wp2_with fail
      refine (HK.out _ ).mono ?_
      rintro e w8 ⟨rfl, hB⟩
      have I1 := Lib.hid (I1.out.below hB (Nat.le_refl _))
      have I2 := Lib.hid (I2.out.below hB (Nat.le_refl _))
      have I3 := Lib.hid (I3.out.below hB (Nat.le_refl _))
      have I4 := Lib.hid (I4.out.below hB (Nat.le_refl _))
      have HB := Lib.hid (HB.out.trans (hB.mono HB.out.size))
      clear hB
      go_wp2_with fail
      go_ret
      exact ⟨rfl, HB.out⟩
  · rw [hl] at HL
    clear ht hc hml hl hr hcr
    go_enter Try.func3, Try.ntmps3
    go_wp2_with fail
    refine (HL.out _ HT.out).mono ?_
    rintro e w0 ⟨rfl, rfl⟩
    go_wp2_with fail
    refine (HK.out _ ).mono ?_
    rintro e w1 ⟨rfl, hB⟩
    have HB := Lib.hid hB
    clear hB
    go_wp2_with fail
    go_ret
    exact ⟨rfl, HB.out⟩

end Go.Proofs.Ytmigkbimdjiigaa
