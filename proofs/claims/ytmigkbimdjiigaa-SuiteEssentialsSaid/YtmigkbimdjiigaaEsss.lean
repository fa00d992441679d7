/- SuiteEssentials: the walk. -/
import Derived.Test.YtmigkbimdjiigaaSuR
import Derived.Test.YtmigkbimdjiigaaSvE
set_option linter.unusedVariables false
set_option linter.unusedSimpArgs false
namespace Go.Proofs.Ytmigkbimdjiigaa
open Go.RowKit Tinker

set_option maxRecDepth 100000 in
set_option maxHeartbeats 8000000 in
theorem suiteEssentials_walk (a : Option Addr) (ca : Nat) (t : List (List Int)) (w : World) (ht : RowsAt w a t) (hc : a = none → ca = 0) (hml : t.length ≤ maxLen) :
    Calls Try.prog 8 #[.slice a t.length ca] w fun e w' => e = .returned (.bool true) ∧ Below w.heap.size w w' := by
  have HK := Lib.hid (fun w => sane8_true w)
  have HL := Lib.hid (fun w ht => long8_any a ca t w ht hml)
  have HT := Lib.hid ht
  cases hl : lng8 t
  · obtain ⟨hl50, hm0⟩ := lng8_no hl
    have hm : ∀ x ∈ t, x.length ≤ 1000 := fun x hx => by have := hm0 x hx; omega
    rw [hl] at HL
    have C1 := Lib.hid (fun w h => sEssential_any a ca t w h (by omega) hm)
    have C2 := Lib.hid (fun w h => rEssential_any a ca t w h (by omega) hm)
    have C3 := Lib.hid (fun w h => sNeedless_any a ca t w h (by omega) hm)
    have C4 := Lib.hid (fun w h => rNeedless_any a ca t w h (by omega) hm)
    have hf : ∀ x ∈ (if vsu t = 0 then essL (tblM t) else []), hasB (if vsu t = 0 then nedL (tblM t) else []) x = false := by
      intro x hx
      by_cases hv : vsu t = 0
      · rw [if_pos hv] at hx ⊢
        rw [Bool.eq_false_iff]
        intro h2
        obtain ⟨y, hy, hyx⟩ := List.any_eq_true.1 h2
        have : y = x := by simpa using hyx
        subst this
        obtain ⟨i, rfl, hi, h3⟩ := plcR_mem.1 hx
        obtain ⟨j, e, hj, h4⟩ := plcR_mem.1 hy
        obtain rfl : i = j := by omega
        exact ess_ned h3 h4 hi
      · rw [if_neg hv] at hx; simp at hx
    have hq1 : (if vsu t = 0 then essL (tblM t) else []).length ≤ 1000 := by
      split
      · exact Nat.le_trans (plcR_len _ _) (by rw [tblM_len]; omega)
      · simp
    have hq2 : (if vsu t = 0 then nedL (tblM t) else []).length ≤ 1000 := by
      split
      · exact Nat.le_trans (plcR_len _ _) (by rw [tblM_len]; omega)
      · simp
    generalize (if vsu t = 0 then essL (tblM t) else []) = q1 at *
    generalize (if vsu t = 0 then nedL (tblM t) else []) = q2 at *
    generalize vsu t = v1 at *
    have e1 : (v1 != v1) = false := by simp
    have S1 := Lib.hid (fun a' b' c' d' w h1 h2 => sameI8_self q1.length a' b' c' d' q1 w rfl h1 h2 hq1)
    have S2 := Lib.hid (fun a' b' c' d' w h1 h2 => sameI8_self q2.length a' b' c' d' q2 w rfl h1 h2 hq2)
    have HH := Lib.hid (fun b' c' n w hz => lHas8_any b' c' q2 n w hz hq2)
    have HF := Lib.hid hf
    clear hm hq2 hf
    clear ht hc hml hl hm0
    go_enter Try.func8, Try.ntmps8
    go_wp2_with fail
    refine (HL.out _ HT.out).mono ?_
    rintro e w0 ⟨rfl, rfl⟩
    go_wp2_with fail
    refine (C1.out _ HT.out).mono ?_
    rintro e w1 ⟨a1, c1, rfl, ho, hB⟩
    have HB := Lib.hid hB
    have I1 := Lib.hid ((ints_of_own ho).1)
    clear hB ho
    go_wp2_with fail
    refine (C2.out _ (HT.out.below HB.out (Nat.le_refl _))).mono ?_
    rintro e w2 ⟨a2, c2, rfl, ho, hB⟩
    have I1 := Lib.hid (I1.out.below hB (Nat.le_refl _))
    have HB := Lib.hid (HB.out.trans (hB.mono HB.out.size))
    have I2 := Lib.hid ((ints_of_own ho).1)
    clear hB ho
    go_wp2_with fail
    refine (C3.out _ (HT.out.below HB.out (Nat.le_refl _))).mono ?_
    rintro e w3 ⟨a3, c3, rfl, ho, hB⟩
    have I1 := Lib.hid (I1.out.below hB (Nat.le_refl _))
    have I2 := Lib.hid (I2.out.below hB (Nat.le_refl _))
    have HB := Lib.hid (HB.out.trans (hB.mono HB.out.size))
    have I3 := Lib.hid ((ints_of_own ho).1)
    clear hB ho
    go_wp2_with fail
    refine (C4.out _ (HT.out.below HB.out (Nat.le_refl _))).mono ?_
    rintro e w4 ⟨a4, c4, rfl, ho, hB⟩
    have I1 := Lib.hid (I1.out.below hB (Nat.le_refl _))
    have I2 := Lib.hid (I2.out.below hB (Nat.le_refl _))
    have I3 := Lib.hid (I3.out.below hB (Nat.le_refl _))
    have HB := Lib.hid (HB.out.trans (hB.mono HB.out.size))
    have I4 := Lib.hid ((ints_of_own ho).1)
    clear hB ho
    go_wp2_with fail
    refine (S1.out _ _ _ _ _ I1.out I2.out).mono ?_
    rintro e w5 ⟨rfl, hB⟩
    have I1 := Lib.hid (I1.out.below hB (Nat.le_refl _))
    have I2 := Lib.hid (I2.out.below hB (Nat.le_refl _))
    have I3 := Lib.hid (I3.out.below hB (Nat.le_refl _))
    have I4 := Lib.hid (I4.out.below hB (Nat.le_refl _))
    have HB := Lib.hid (HB.out.trans (hB.mono HB.out.size))
    clear hB
    go_wp2_with fail
    refine (S2.out _ _ _ _ _ I3.out I4.out).mono ?_
    rintro e w6 ⟨rfl, hB⟩
    have I1 := Lib.hid (I1.out.below hB (Nat.le_refl _))
    have I2 := Lib.hid (I2.out.below hB (Nat.le_refl _))
    have I3 := Lib.hid (I3.out.below hB (Nat.le_refl _))
    have I4 := Lib.hid (I4.out.below hB (Nat.le_refl _))
    have HB := Lib.hid (HB.out.trans (hB.mono HB.out.size))
    clear hB
    go_wp2_with fail
    go_loop [11] (fun i => ∃ k : Nat, k ≤ q1.length ∧ i = .int .i64 k) (fun i => q1.length - (intOf i).toNat)
    case atStart => exact ⟨0, Nat.zero_le _, rfl⟩
    case round =>
      obtain ⟨k, hk, rfl⟩ := hrel
      by_cases hlt : k < q1.length
      · obtain ⟨b2, off2, x, rfl, hlb2, hx, hcx⟩ := I1.out.at_ hlt
        have HHX := Lib.hid (HH.out a3 c3 x _ I3.out)
        rw [HF.out x (mem_of_get hx)] at HHX
        clear hx
        go_wp2_with fail
        refine HHX.out.mono ?_
        rintro e w0 ⟨rfl, rfl⟩
        go_wp2_with fail
        go_round
        case rel => exact ⟨k + 1, by omega, by go_num⟩
        case measure => simp [intOf]; omega
      · have HFL := HF.out
        go_wp2_with fail
        refine (HK.out _ ).mono ?_
        rintro e w7 ⟨rfl, hB⟩
        have HB := Lib.hid (HB.out.trans (hB.mono HB.out.size))
        clear hB
        go_wp2_with fail
        go_ret
        exact ⟨rfl, HB.out⟩
  · rw [hl] at HL
    clear ht hc hml hl
    go_enter Try.func8, Try.ntmps8
    go_wp2_with fail
    refine (HL.out _ HT.out).mono ?_
    rintro e w0 ⟨rfl, rfl⟩
    go_wp2_with fail
    refine (HK.out _ ).mono ?_
    rintro e w1 ⟨rfl, hB⟩
    have HB := Lib.hid hB
    clear hB
    go_wp2_with fail
    go_ret
    exact ⟨rfl, HB.out⟩

end Go.Proofs.Ytmigkbimdjiigaa
