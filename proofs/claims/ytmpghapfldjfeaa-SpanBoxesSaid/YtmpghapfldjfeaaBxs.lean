/- SpanBoxes: the walk. -/
import Derived.Test.YtmpghapfldjfeaaSrA
import Derived.Test.YtmpghapfldjfeaaSpM
set_option linter.unusedVariables false
set_option linter.unusedSimpArgs false
namespace Go.Proofs.Ytmpghapfldjfeaa
open Go.RowKit Tinker

set_option maxRecDepth 100000 in
set_option maxHeartbeats 4000000 in
theorem spanBoxes_walk (a : Option Addr) (ca : Nat) (b : List Rg) (a2 : Option Addr) (c2 : Nat) (s : List Int) (w : World) (hb : RangesAt w a b) (hc : a = none → ca = 0) (hs : IntsAt w a2 s) (hd : a2 = none → c2 = 0) :
    Calls Try.prog 3 #[.slice a b.length ca, .slice a2 s.length c2] w fun e w' => e = .returned (.bool true) ∧ Below w.heap.size w w' := by
  clear hc hd
  by_cases h1 : 100 < b.length
  · have e1 : decide ((100 : Int) < (b.length : Int)) = true := decide_eq_true (by omega)
    have HL := Lib.hid (fun w => long6_any a b.length ca w)
    rw [e1] at HL
    clear e1 h1 hb hs
    go_enter Try.func3, Try.ntmps3
    go_wp2_with fail
    refine (HL.out _).mono ?_
    rintro e w1 ⟨rfl, rfl⟩
    go_wp2_with fail
    refine (known6_true _).mono ?_
    rintro e w2 ⟨rfl, hB⟩
    go_wp2_with fail
    go_ret
    exact ⟨rfl, hB⟩
  · have e1 : decide ((100 : Int) < (b.length : Int)) = false := decide_eq_false (by omega)
    have HL := Lib.hid (fun w => long6_any a b.length ca w)
    rw [e1] at HL
    by_cases h2 : 100 < s.length
    · have e2 : decide ((100 : Int) < (s.length : Int)) = true := decide_eq_true (by omega)
      have HG := Lib.hid (fun w => large6_any a2 s.length c2 w)
      rw [e2] at HG
      clear e1 h1 hb hs e2 h2
      go_enter Try.func3, Try.ntmps3
      go_wp2_with fail
      refine (HL.out _).mono ?_
      rintro e w1 ⟨rfl, rfl⟩
      go_wp2_with fail
      refine (HG.out _).mono ?_
      rintro e w1 ⟨rfl, rfl⟩
      go_wp2_with fail
      refine (known6_true _).mono ?_
      rintro e w2 ⟨rfl, hB⟩
      go_wp2_with fail
      go_ret
      exact ⟨rfl, hB⟩
    · have e2 : decide ((100 : Int) < (s.length : Int)) = false := decide_eq_false (by omega)
      have HG := Lib.hid (fun w => large6_any a2 s.length c2 w)
      rw [e2] at HG
      have C1 := Lib.hid (fun w hb hs => sHas_any a a2 ca c2 b s w hb hs (by omega))
      have C2 := Lib.hid (fun w hb hs => rHas6_any a a2 ca c2 b s w hb hs)
      have C3 := Lib.hid (fun w hb => sSize_any a ca b w hb)
      have C4 := Lib.hid (fun w hb => rSize6_any a ca b w hb)
      have C5 := Lib.hid (fun w hb => sValidate_any a ca b w hb)
      have C6 := Lib.hid (fun w hb => rValidate6_any a ca b w hb)
      have HR := Lib.hid hb
      have HS := Lib.hid hs
      generalize fe (vb b) (vs s) = E1 at *
      generalize hasA b s = M at *
      generalize sizeA b = Z at *
      generalize vb b = E2 at *
      have q1 : (E1 == E1) = true := by simp
      have q2 : (M == M) = true := by simp
      have q3 : (Z == Z) = true := by simp
      have q4 : (E2 == E2) = true := by simp
      clear e1 h1 hb hs e2 h2
      go_enter Try.func3, Try.ntmps3
      go_wp2_with fail
      refine (HL.out _).mono ?_
      rintro e w1 ⟨rfl, rfl⟩
      go_wp2_with fail
      refine (HG.out _).mono ?_
      rintro e w1 ⟨rfl, rfl⟩
      go_wp2_with fail
      refine (C1.out _ HR.out HS.out).mono ?_
      rintro e w1 ⟨rfl, hB⟩
      have HB := Lib.hid hB
      clear hB
      go_wp2_with fail
      refine (C2.out _ (HR.out.below HB.out (Nat.le_refl _)) (HS.out.below HB.out (Nat.le_refl _))).mono ?_
      rintro e w2 ⟨rfl, hB⟩
      have HB := Lib.hid (HB.out.trans (hB.mono HB.out.size))
      clear hB
      go_wp2_with fail
      refine (C3.out _ (HR.out.below HB.out (Nat.le_refl _))).mono ?_
      rintro e w3 ⟨rfl, hB⟩
      have HB := Lib.hid (HB.out.trans (hB.mono HB.out.size))
      clear hB
      go_wp2_with fail
      refine (C4.out _ (HR.out.below HB.out (Nat.le_refl _))).mono ?_
      rintro e w4 ⟨rfl, hB⟩
      have HB := Lib.hid (HB.out.trans (hB.mono HB.out.size))
      clear hB
      go_wp2_with fail
      refine (C5.out _ (HR.out.below HB.out (Nat.le_refl _))).mono ?_
      rintro e w5 ⟨rfl, hB⟩
      have HB := Lib.hid (HB.out.trans (hB.mono HB.out.size))
      clear hB
      go_wp2_with fail
      refine (C6.out _ (HR.out.below HB.out (Nat.le_refl _))).mono ?_
      rintro e w6 ⟨rfl, hB⟩
      have HB := Lib.hid (HB.out.trans (hB.mono HB.out.size))
      clear hB
      go_wp2_with fail
      refine (known6_true _).mono ?_
      rintro e w7 ⟨rfl, hB⟩
      have HB := Lib.hid (HB.out.trans (hB.mono HB.out.size))
      clear hB
      go_wp2_with fail
      go_ret
      exact ⟨rfl, HB.out⟩

end Go.Proofs.Ytmpghapfldjfeaa
