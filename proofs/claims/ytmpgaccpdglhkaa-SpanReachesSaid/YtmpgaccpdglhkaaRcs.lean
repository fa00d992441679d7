/- SpanReaches: the walk. -/
import Derived.Test.YtmpgaccpdglhkaaSpM
import Derived.Test.YtmpgaccpdglhkaaSpO
import Derived.Test.YtmpgaccpdglhkaaSrU
import Derived.Test.YtmpgaccpdglhkaaRuns
set_option linter.unusedVariables false
set_option linter.unusedSimpArgs false
namespace Go.Proofs.Ytmpgaccpdglhkaa
open Go.RowKit Tinker
theorem rcA_le (ps : List L) (b : List Rg) (r : Bool) {n : Nat} (h : ps.length ≤ n) : (rcA ps b r).length ≤ n := by
  unfold rcA
  split
  · exact Nat.le_trans (rcL_le ps b r ps.length) h
  · simp

set_option maxRecDepth 100000 in
set_option maxHeartbeats 8000000 in
theorem spanReaches_walk (g : Option Addr) (cg : Nat) (ps : List L) (a2 : Option Addr) (c2 : Nat) (b : List Rg) (w : World) (hp : LinesAt w g ps) (hcg : g = none → cg = 0) (hb : RangesAt w a2 b) (hc : a2 = none → c2 = 0) :
    Calls Try.prog 4 #[.slice g ps.length cg, .slice a2 b.length c2] w fun e w' => e = .returned (.bool true) ∧ Below w.heap.size w w' := by
  clear hc hcg
  by_cases h1 : 100 < ps.length
  · have e1 : decide ((100 : Int) < (ps.length : Int)) = true := decide_eq_true (by omega)
    have HL := Lib.hid (fun w => long_any g ps.length cg w)
    rw [e1] at HL
    clear h1 e1 hp hb
    go_enter Try.func4, Try.ntmps4
    go_wp2_with fail
    refine (HL.out _).mono ?_
    rintro e w0 ⟨rfl, rfl⟩
    go_wp2_with fail
    refine (known6_true _ ).mono ?_
    rintro e w1 ⟨rfl, hB⟩
    have HB := Lib.hid hB
    clear hB
    go_wp2_with fail
    go_ret
    exact ⟨rfl, HB.out⟩
  · have e1 : decide ((100 : Int) < (ps.length : Int)) = false := decide_eq_false (by omega)
    have HL := Lib.hid (fun w => long_any g ps.length cg w)
    rw [e1] at HL
    by_cases h2 : 100 < b.length
    · have e2 : decide ((100 : Int) < (b.length : Int)) = true := decide_eq_true (by omega)
      have HG := Lib.hid (fun w => long6_any a2 b.length c2 w)
      rw [e2] at HG
      clear h1 e1 h2 e2 hp hb
      go_enter Try.func4, Try.ntmps4
      go_wp2_with fail
      refine (HL.out _).mono ?_
      rintro e w0 ⟨rfl, rfl⟩
      go_wp2_with fail
      refine (HG.out _).mono ?_
      rintro e w0 ⟨rfl, rfl⟩
      go_wp2_with fail
      refine (known6_true _ ).mono ?_
      rintro e w1 ⟨rfl, hB⟩
      have HB := Lib.hid hB
      clear hB
      go_wp2_with fail
      go_ret
      exact ⟨rfl, HB.out⟩
    · have e2 : decide ((100 : Int) < (b.length : Int)) = false := decide_eq_false (by omega)
      have HG := Lib.hid (fun w => long6_any a2 b.length c2 w)
      rw [e2] at HG
      have C1 := Lib.hid (fun w h1 h2 => sReached_any g a2 cg c2 ps b w h1 h2)
      have C2 := Lib.hid (fun w h1 h2 => rReached_any g a2 cg c2 ps b w h1 h2)
      have C3 := Lib.hid (fun w h1 h2 => sDead_any g a2 cg c2 ps b w h1 h2)
      have C4 := Lib.hid (fun w h1 h2 => rDead_any g a2 cg c2 ps b w h1 h2)
      have HP := Lib.hid hp
      have HX := Lib.hid hb
      have l1 : (rcA ps b true).length ≤ 100 := rcA_le ps b true (by omega)
      have l2 : (rcA ps b false).length ≤ 100 := rcA_le ps b false (by omega)
      unfold GivesIntsE at C1 C2 C3 C4
      by_cases hz : fe (vp ps) (vb b) = 0
      · have hs : (rcA ps b true).length + (rcA ps b false).length = ps.length := by
          unfold rcA; rw [if_pos hz, if_pos hz]; exact rcL_both ps b ps.length
        rw [hz] at C1 C2 C3 C4
        generalize rcA ps b true = M at *
        generalize rcA ps b false = N at *
        have hs1 : ((M.length : Int) + (N.length : Int) == (ps.length : Int)) = true := by rw [beq_iff_eq]; omega
        clear hz hs e1 e2 h1 h2 hp hb
        go_enter Try.func4, Try.ntmps4
        go_wp2_with fail
        refine (HL.out _).mono ?_
        rintro e w0 ⟨rfl, rfl⟩
        go_wp2_with fail
        refine (HG.out _).mono ?_
        rintro e w0 ⟨rfl, rfl⟩
        go_wp2_with fail
        refine (C1.out _ HP.out HX.out).mono ?_
        rintro e w1 ⟨x0, k0, rfl, ho, hB⟩
        have HB := Lib.hid hB
        have R1 := Lib.hid ((ints_of_own ho).1)
        clear hB ho
        go_wp2_with fail
        refine (C2.out _ (HP.out.below HB.out (Nat.le_refl _)) (HX.out.below HB.out (Nat.le_refl _))).mono ?_
        rintro e w2 ⟨x1, k1, rfl, ho, hB⟩
        have R1 := Lib.hid (R1.out.below hB (Nat.le_refl _))
        have HB := Lib.hid (HB.out.trans (hB.mono HB.out.size))
        have R2 := Lib.hid ((ints_of_own ho).1)
        clear hB ho
        go_wp2_with fail
        refine (C3.out _ (HP.out.below HB.out (Nat.le_refl _)) (HX.out.below HB.out (Nat.le_refl _))).mono ?_
        rintro e w3 ⟨x2, k2, rfl, ho, hB⟩
        have R1 := Lib.hid (R1.out.below hB (Nat.le_refl _))
        have R2 := Lib.hid (R2.out.below hB (Nat.le_refl _))
        have HB := Lib.hid (HB.out.trans (hB.mono HB.out.size))
        have R3 := Lib.hid ((ints_of_own ho).1)
        clear hB ho
        go_wp2_with fail
        refine (C4.out _ (HP.out.below HB.out (Nat.le_refl _)) (HX.out.below HB.out (Nat.le_refl _))).mono ?_
        rintro e w4 ⟨x3, k3, rfl, ho, hB⟩
        have R1 := Lib.hid (R1.out.below hB (Nat.le_refl _))
        have R2 := Lib.hid (R2.out.below hB (Nat.le_refl _))
        have R3 := Lib.hid (R3.out.below hB (Nat.le_refl _))
        have HB := Lib.hid (HB.out.trans (hB.mono HB.out.size))
        have R4 := Lib.hid ((ints_of_own ho).1)
        clear hB ho
        go_wp2_with fail
        refine (same_self M.length _ _ _ _ _ _ rfl R1.out R2.out (by omega)).mono ?_
        rintro e w5 ⟨rfl, hB⟩
        have R1 := Lib.hid (R1.out.below hB (Nat.le_refl _))
        have R2 := Lib.hid (R2.out.below hB (Nat.le_refl _))
        have R3 := Lib.hid (R3.out.below hB (Nat.le_refl _))
        have R4 := Lib.hid (R4.out.below hB (Nat.le_refl _))
        have HB := Lib.hid (HB.out.trans (hB.mono HB.out.size))
        clear hB
        go_wp2_with fail
        refine (same_self N.length _ _ _ _ _ _ rfl R3.out R4.out (by omega)).mono ?_
        rintro e w6 ⟨rfl, hB⟩
        have R1 := Lib.hid (R1.out.below hB (Nat.le_refl _))
        have R2 := Lib.hid (R2.out.below hB (Nat.le_refl _))
        have R3 := Lib.hid (R3.out.below hB (Nat.le_refl _))
        have R4 := Lib.hid (R4.out.below hB (Nat.le_refl _))
        have HB := Lib.hid (HB.out.trans (hB.mono HB.out.size))
        clear hB
        go_wp2_with fail
        refine (known6_true _ ).mono ?_
        rintro e w7 ⟨rfl, hB⟩
        have R1 := Lib.hid (R1.out.below hB (Nat.le_refl _))
        have R2 := Lib.hid (R2.out.below hB (Nat.le_refl _))
        have R3 := Lib.hid (R3.out.below hB (Nat.le_refl _))
        have R4 := Lib.hid (R4.out.below hB (Nat.le_refl _))
        have HB := Lib.hid (HB.out.trans (hB.mono HB.out.size))
        clear hB
        go_wp2_with fail
        go_ret
        exact ⟨rfl, HB.out⟩
      · have hz1 : (fe (vp ps) (vb b) != 0) = true := by simpa using hz
        have hz2 : (fe (vp ps) (vb b) == 0) = false := by simpa using hz
        generalize rcA ps b true = M at *
        generalize rcA ps b false = N at *
        generalize fe (vp ps) (vb b) = E at *
        clear hz e1 e2 h1 h2 hp hb
        go_enter Try.func4, Try.ntmps4
        go_wp2_with fail
        refine (HL.out _).mono ?_
        rintro e w0 ⟨rfl, rfl⟩
        go_wp2_with fail
        refine (HG.out _).mono ?_
        rintro e w0 ⟨rfl, rfl⟩
        go_wp2_with fail
        refine (C1.out _ HP.out HX.out).mono ?_
        rintro e w1 ⟨x0, k0, rfl, ho, hB⟩
        have HB := Lib.hid hB
        have R1 := Lib.hid ((ints_of_own ho).1)
        clear hB ho
        go_wp2_with fail
        refine (C2.out _ (HP.out.below HB.out (Nat.le_refl _)) (HX.out.below HB.out (Nat.le_refl _))).mono ?_
        rintro e w2 ⟨x1, k1, rfl, ho, hB⟩
        have R1 := Lib.hid (R1.out.below hB (Nat.le_refl _))
        have HB := Lib.hid (HB.out.trans (hB.mono HB.out.size))
        have R2 := Lib.hid ((ints_of_own ho).1)
        clear hB ho
        go_wp2_with fail
        refine (C3.out _ (HP.out.below HB.out (Nat.le_refl _)) (HX.out.below HB.out (Nat.le_refl _))).mono ?_
        rintro e w3 ⟨x2, k2, rfl, ho, hB⟩
        have R1 := Lib.hid (R1.out.below hB (Nat.le_refl _))
        have R2 := Lib.hid (R2.out.below hB (Nat.le_refl _))
        have HB := Lib.hid (HB.out.trans (hB.mono HB.out.size))
        have R3 := Lib.hid ((ints_of_own ho).1)
        clear hB ho
        go_wp2_with fail
        refine (C4.out _ (HP.out.below HB.out (Nat.le_refl _)) (HX.out.below HB.out (Nat.le_refl _))).mono ?_
        rintro e w4 ⟨x3, k3, rfl, ho, hB⟩
        have R1 := Lib.hid (R1.out.below hB (Nat.le_refl _))
        have R2 := Lib.hid (R2.out.below hB (Nat.le_refl _))
        have R3 := Lib.hid (R3.out.below hB (Nat.le_refl _))
        have HB := Lib.hid (HB.out.trans (hB.mono HB.out.size))
        have R4 := Lib.hid ((ints_of_own ho).1)
        clear hB ho
        go_wp2_with fail
        refine (same_self M.length _ _ _ _ _ _ rfl R1.out R2.out (by omega)).mono ?_
        rintro e w5 ⟨rfl, hB⟩
        have R1 := Lib.hid (R1.out.below hB (Nat.le_refl _))
        have R2 := Lib.hid (R2.out.below hB (Nat.le_refl _))
        have R3 := Lib.hid (R3.out.below hB (Nat.le_refl _))
        have R4 := Lib.hid (R4.out.below hB (Nat.le_refl _))
        have HB := Lib.hid (HB.out.trans (hB.mono HB.out.size))
        clear hB
        go_wp2_with fail
        refine (same_self N.length _ _ _ _ _ _ rfl R3.out R4.out (by omega)).mono ?_
        rintro e w6 ⟨rfl, hB⟩
        have R1 := Lib.hid (R1.out.below hB (Nat.le_refl _))
        have R2 := Lib.hid (R2.out.below hB (Nat.le_refl _))
        have R3 := Lib.hid (R3.out.below hB (Nat.le_refl _))
        have R4 := Lib.hid (R4.out.below hB (Nat.le_refl _))
        have HB := Lib.hid (HB.out.trans (hB.mono HB.out.size))
        clear hB
        go_wp2_with fail
        refine (known6_true _ ).mono ?_
        rintro e w7 ⟨rfl, hB⟩
        have R1 := Lib.hid (R1.out.below hB (Nat.le_refl _))
        have R2 := Lib.hid (R2.out.below hB (Nat.le_refl _))
        have R3 := Lib.hid (R3.out.below hB (Nat.le_refl _))
        have R4 := Lib.hid (R4.out.below hB (Nat.le_refl _))
        have HB := Lib.hid (HB.out.trans (hB.mono HB.out.size))
        clear hB
        go_wp2_with fail
        go_ret
        exact ⟨rfl, HB.out⟩

end Go.Proofs.Ytmpgaccpdglhkaa
