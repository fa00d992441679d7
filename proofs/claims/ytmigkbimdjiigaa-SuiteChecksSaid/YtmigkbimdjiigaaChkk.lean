/- SuiteChecks: the walk. -/
import Derived.Test.YtmigkbimdjiigaaSuR
import Derived.Test.YtmigkbimdjiigaaSvC
import Derived.Test.YtmigkbimdjiigaaSuS
set_option linter.unusedVariables false
set_option linter.unusedSimpArgs false
namespace Go.Proofs.Ytmigkbimdjiigaa
open Go.RowKit Tinker

set_option maxRecDepth 100000 in
set_option maxHeartbeats 8000000 in
theorem suiteChecks_walk (a : Option Addr) (ca : Nat) (t : List (List Int)) (b : Option Addr) (cb : Nat) (rows : List Int) (w : World) (ht : RowsAt w a t) (hc : a = none → ca = 0) (hml : t.length ≤ maxLen) (hr : IntsAt w b rows) (hcr : b = none → cb = 0) :
    Calls Try.prog 4 #[.slice a t.length ca, .slice b rows.length cb] w fun e w' => e = .returned (.bool true) ∧ Below w.heap.size w w' := by
  have HK := Lib.hid (fun w => sane8_true w)
  have HL := Lib.hid (fun w ht => long8_any a ca t w ht hml)
  have HT := Lib.hid ht
  have HR := Lib.hid hr
  cases hl : lng8 t
  · obtain ⟨hl50, hm0⟩ := lng8_no hl
    have hm : ∀ x ∈ t, x.length ≤ 1000 := fun x hx => by have := hm0 x hx; omega
    rw [hl] at HL
    by_cases hrl : 50 < rows.length
    · have hrl2 : decide ((50 : Int) < (rows.length : Int)) = true := by simp; omega
      have hrl3 : decide (50 < rows.length) = true := decide_eq_true hrl
      clear ht hc hml hl hm0 hr hcr hm hrl
      go_enter Try.func4, Try.ntmps4
      go_wp2_with fail
      refine (HL.out _ HT.out).mono ?_
      rintro e w0 ⟨rfl, rfl⟩
      go_wp2_with fail
      refine (HK.out _ ).mono ?_
      rintro e w1 ⟨rfl, hB⟩
      have HB := Lib.hid hB
      clear hB
      go_wp2_with fail
      go_ret
      exact ⟨rfl, HB.out⟩
    · have hrl2 : decide ((50 : Int) < (rows.length : Int)) = false := by simp; omega
      have hrl3 : decide (50 < rows.length) = false := decide_eq_false hrl
      have C1 := Lib.hid (fun w h h2 => sCheck_any a b ca cb t rows w h h2 (by omega) hm (by omega))
      have C2 := Lib.hid (fun w h h2 => rCheck8_any a b ca cb t rows w h h2 (by omega) hm (by omega))
      have C3 := Lib.hid (fun w h => sCover_any a ca t w h (by omega) hm)
      have C4 := Lib.hid (fun w h => sEssential_any a ca t w h (by omega) hm)
      have HH := Lib.hid (fun n w hz => lHas8_any b cb rows n w hz (by omega))
      clear ht hc hml hl hm0 hr hcr
      by_cases hz : chkC t rows = 0
      · have hv : vsr t rows = 0 := by
          unfold chkC at hz
          split at hz
          · assumption
          · exact hz
        have hcv : covB (tblM t) (maskM rows) = true := by
          unfold chkC at hz
          rw [if_pos hv] at hz
          split at hz
          · assumption
          · cases hz
        obtain ⟨f1, f2⟩ := chk_facts hv hcv
        have hv1 := (vsr_ok hv).1
        have C3 := C3.out
        have C4 := C4.out
        unfold coverL at C3
        rw [hv1] at C3 C4
        simp only [if_pos] at C3 C4
        have C3 := Lib.hid C3
        have C4 := Lib.hid C4
        have HF1 := Lib.hid f1
        have f2i : decide (((numsK (covM (tblM t))).length : Int) ≤ (rows.length : Int)) = true := by simp; omega
        have f2n : decide ((numsK (covM (tblM t))).length ≤ rows.length) = true := decide_eq_true f2
        have HF2 := Lib.hid f2
        rw [hz] at C1 C2
        have hq2 : (essL (tblM t)).length ≤ 1000 := Nat.le_trans (plcR_len _ _) (by rw [tblM_len]; have := (vsu_ok hv1).1; omega)
        generalize numsK (covM (tblM t)) = q1 at *
        generalize essL (tblM t) = q2 at *
        clear hz hv hcv f1 f2 hv1
        go_enter Try.func4, Try.ntmps4
        go_wp2_with fail
        refine (HL.out _ HT.out).mono ?_
        rintro e w0 ⟨rfl, rfl⟩
        go_wp2_with fail
        refine (C1.out _ HT.out HR.out).mono ?_
        rintro e w1 ⟨rfl, hB⟩
        have HB := Lib.hid hB
        clear hB
        go_wp2_with fail
        refine (C2.out _ (HT.out.below HB.out (Nat.le_refl _)) (HR.out.below HB.out (Nat.le_refl _))).mono ?_
        rintro e w2 ⟨rfl, hB⟩
        have HB := Lib.hid (HB.out.trans (hB.mono HB.out.size))
        clear hB
        go_wp2_with fail
        refine (C3.out _ (HT.out.below HB.out (Nat.le_refl _))).mono ?_
        rintro e w3 ⟨a1, c1, rfl, ho, hB⟩
        have HB := Lib.hid (HB.out.trans (hB.mono HB.out.size))
        have I1 := Lib.hid ((ints_of_own ho).1)
        clear hB ho
        go_wp2_with fail
        refine (C4.out _ (HT.out.below HB.out (Nat.le_refl _))).mono ?_
        rintro e w4 ⟨a2, c2, rfl, ho, hB⟩
        have I1 := Lib.hid (I1.out.below hB (Nat.le_refl _))
        have HB := Lib.hid (HB.out.trans (hB.mono HB.out.size))
        have I2 := Lib.hid ((ints_of_own ho).1)
        clear hB ho
        have HRN := Lib.hid ((HR.out.below HB.out (Nat.le_refl _)))
        go_wp2_with fail
        go_loop [10] (fun i => ∃ k : Nat, k ≤ q2.length ∧ i = .int .i64 k) (fun i => q2.length - (intOf i).toNat)
        case atStart => exact ⟨0, Nat.zero_le _, rfl⟩
        case round =>
          obtain ⟨k, hk, rfl⟩ := hrel
          by_cases hlt : k < q2.length
          · obtain ⟨b2, off2, x, rfl, hlb2, hx, hcx⟩ := I2.out.at_ hlt
            have HHX := Lib.hid (HH.out x _ HRN.out)
            obtain ⟨j, hj⟩ := List.getElem?_of_mem (HF1.out x (mem_of_get hx))
            rw [hasB_yes hj] at HHX
            clear hx hj
            go_wp2_with fail
            refine HHX.out.mono ?_
            rintro e w0 ⟨rfl, rfl⟩
            go_wp2_with fail
            go_round
            case rel => exact ⟨k + 1, by omega, by go_num⟩
            case measure => simp [intOf]; omega
          · have HFL := HF2.out
            go_wp2_with fail
            refine (HK.out _ ).mono ?_
            rintro e w5 ⟨rfl, hB⟩
            have HB := Lib.hid (HB.out.trans (hB.mono HB.out.size))
            clear hB
            go_wp2_with fail
            go_ret
            exact ⟨rfl, HB.out⟩
      · have hz1 : (chkC t rows != 0) = true := by simpa using hz
        have hz2 : (chkC t rows != chkC t rows) = false := by simp
        generalize chkC t rows = c at *
        clear hz
        go_enter Try.func4, Try.ntmps4
        go_wp2_with fail
        refine (HL.out _ HT.out).mono ?_
        rintro e w0 ⟨rfl, rfl⟩
        go_wp2_with fail
        refine (C1.out _ HT.out HR.out).mono ?_
        rintro e w1 ⟨rfl, hB⟩
        have HB := Lib.hid hB
        clear hB
        go_wp2_with fail
        refine (C2.out _ (HT.out.below HB.out (Nat.le_refl _)) (HR.out.below HB.out (Nat.le_refl _))).mono ?_
        rintro e w2 ⟨rfl, hB⟩
        have HB := Lib.hid (HB.out.trans (hB.mono HB.out.size))
        clear hB
        go_wp2_with fail
        refine (HK.out _ ).mono ?_
        rintro e w3 ⟨rfl, hB⟩
        have HB := Lib.hid (HB.out.trans (hB.mono HB.out.size))
        clear hB
        go_wp2_with fail
        go_ret
        exact ⟨rfl, HB.out⟩
  · rw [hl] at HL
    clear ht hc hml hl hr hcr
    go_enter Try.func4, Try.ntmps4
    go_wp2_with fail
    refine (HL.out _ HT.out).mono ?_
    rintro e w0 ⟨rfl, rfl⟩
    go_wp2_with fail
    refine (HK.out _ ).mono ?_
    rintro e w1 ⟨rfl, hB⟩
    have HB := Lib.hid hB
    clear hB
    go_wp2_with fail
    go_ret
    exact ⟨rfl, HB.out⟩

end Go.Proofs.Ytmigkbimdjiigaa
