/- SuiteExcludes: the walk. -/
import Derived.Test.YtmigkbimdjiigaaSuR
import Derived.Test.YtmigkbimdjiigaaSvI
set_option linter.unusedVariables false
set_option linter.unusedSimpArgs false
namespace Go.Proofs.Ytmigkbimdjiigaa
open Go.RowKit Tinker

set_option maxRecDepth 100000 in
set_option maxHeartbeats 8000000 in
theorem suiteExcludes_walk (a : Option Addr) (ca : Nat) (t : List (List Int)) (w : World) (ht : RowsAt w a t) (hc : a = none → ca = 0) (hml : t.length ≤ maxLen) :
    Calls Try.prog 7 #[.slice a t.length ca] w fun e w' => e = .returned (.bool true) ∧ Below w.heap.size w w' := by
  have HK := Lib.hid (fun w => sane8_true w)
  have HL := Lib.hid (fun w ht => long8_any a ca t w ht hml)
  have HT := Lib.hid ht
  cases hl : lng8 t
  · obtain ⟨hl50, hm0⟩ := lng8_no hl
    have hm : ∀ x ∈ t, x.length ≤ 1000 := fun x hx => by have := hm0 x hx; omega
    rw [hl] at HL
    have C1 := Lib.hid (fun w h => sExcl_any a ca t w h (by omega) hm)
    have C2 := Lib.hid (fun w h => rExcl8_any a ca t w h (by omega) hm)
    have hq1 : (exclL t).length ≤ 1000 := by
      unfold exclL
      split
      · exact Nat.le_trans (szK_le _) (by omega)
      · simp
    have S1 := Lib.hid (fun a' b' c' d' w h1 h2 => sameI8_self (exclL t).length a' b' c' d' (exclL t) w rfl h1 h2 hq1)
    generalize exclL t = q1 at *
    generalize vsu t = c at *
    have e1 : (c == c) = true := by simp
    clear hm hq1
    clear ht hc hml hl hm0
    go_enter Try.func7, Try.ntmps7
    go_wp2_with fail
    refine (HL.out _ HT.out).mono ?_
    rintro e w0 ⟨rfl, rfl⟩
    go_wp2_with fail
    refine (C1.out _ HT.out).mono ?_
    rintro e w1 ⟨a1, c1, rfl, ho, hB⟩
    have HB := Lib.hid hB
    have I1 := Lib.hid ((ints_of_own ho).1)
    clear hB ho
    go_wp2_with fail
    refine (C2.out _ (HT.out.below HB.out (Nat.le_refl _))).mono ?_
    rintro e w2 ⟨a2, c2, rfl, ho, hB⟩
    have I1 := Lib.hid (I1.out.below hB (Nat.le_refl _))
    have HB := Lib.hid (HB.out.trans (hB.mono HB.out.size))
    have I2 := Lib.hid ((ints_of_own ho).1)
    clear hB ho
    go_wp2_with fail
    refine (S1.out _ _ _ _ _ I1.out I2.out).mono ?_
    rintro e w3 ⟨rfl, hB⟩
    have I1 := Lib.hid (I1.out.below hB (Nat.le_refl _))
    have I2 := Lib.hid (I2.out.below hB (Nat.le_refl _))
    have HB := Lib.hid (HB.out.trans (hB.mono HB.out.size))
    clear hB
    go_wp2_with fail
    refine (HK.out _ ).mono ?_
    rintro e w4 ⟨rfl, hB⟩
    have I1 := Lib.hid (I1.out.below hB (Nat.le_refl _))
    have I2 := Lib.hid (I2.out.below hB (Nat.le_refl _))
    have HB := Lib.hid (HB.out.trans (hB.mono HB.out.size))
    clear hB
    go_wp2_with fail
    go_ret
    exact ⟨rfl, HB.out⟩
  · rw [hl] at HL
    clear ht hc hml hl
    go_enter Try.func7, Try.ntmps7
    go_wp2_with fail
    refine (HL.out _ HT.out).mono ?_
    rintro e w0 ⟨rfl, rfl⟩
    go_wp2_with fail
    refine (HK.out _ ).mono ?_
    rintro e w1 ⟨rfl, hB⟩
    have HB := Lib.hid hB
    clear hB
    go_wp2_with fail
    go_ret
    exact ⟨rfl, HB.out⟩

end Go.Proofs.Ytmigkbimdjiigaa
