/- SpanMeets: the walk. -/
import Derived.Test.YtmpghapfldjfeaaSpM
import Derived.Test.YtmpghapfldjfeaaSrE
set_option linter.unusedVariables false
set_option linter.unusedSimpArgs false
namespace Go.Proofs.Ytmpghapfldjfeaa
open Go.RowKit Tinker

set_option maxRecDepth 100000 in
set_option maxHeartbeats 8000000 in
theorem spanMeets_walk (a1 : Option Addr) (c1 : Nat) (a : List Rg) (a2 : Option Addr) (c2 : Nat) (b : List Rg) (a3 : Option Addr) (c3 : Nat) (s : List Int) (w : World) (ha : RangesAt w a1 a) (hc : a1 = none → c1 = 0) (hb : RangesAt w a2 b) (hc2 : a2 = none → c2 = 0) (hs : IntsAt w a3 s) (hd : a3 = none → c3 = 0) :
    Calls Try.prog 5 #[.slice a1 a.length c1, .slice a2 b.length c2, .slice a3 s.length c3] w fun e w' => e = .returned (.bool true) ∧ Below w.heap.size w w' := by
  clear hc hc2 hd
  by_cases h1 : 100 < a.length
  · have e1 : decide ((100 : Int) < (a.length : Int)) = true := decide_eq_true (by omega)
    have HL1 := Lib.hid (fun w => long6_any a1 a.length c1 w)
    rw [e1] at HL1
    clear h1 e1 ha hb hs
    go_enter Try.func5, Try.ntmps5
    go_wp2_with fail
    refine (HL1.out _).mono ?_
    rintro e w0 ⟨rfl, rfl⟩
    go_wp2_with fail
    refine (known6_true _ ).mono ?_
    rintro e w1 ⟨rfl, hB⟩
    have HB := Lib.hid hB
    clear hB
    go_wp2_with fail
    go_ret
    exact ⟨rfl, HB.out⟩
  · have e1 : decide ((100 : Int) < (a.length : Int)) = false := decide_eq_false (by omega)
    have HL1 := Lib.hid (fun w => long6_any a1 a.length c1 w)
    rw [e1] at HL1
    by_cases h2 : 100 < b.length
    · have e2 : decide ((100 : Int) < (b.length : Int)) = true := decide_eq_true (by omega)
      have HL2 := Lib.hid (fun w => long6_any a2 b.length c2 w)
      rw [e2] at HL2
      clear h1 e1 h2 e2 ha hb hs
      go_enter Try.func5, Try.ntmps5
      go_wp2_with fail
      refine (HL1.out _).mono ?_
      rintro e w0 ⟨rfl, rfl⟩
      go_wp2_with fail
      refine (HL2.out _).mono ?_
      rintro e w0 ⟨rfl, rfl⟩
      go_wp2_with fail
      refine (known6_true _ ).mono ?_
      rintro e w1 ⟨rfl, hB⟩
      have HB := Lib.hid hB
      clear hB
      go_wp2_with fail
      go_ret
      exact ⟨rfl, HB.out⟩
    · have e2 : decide ((100 : Int) < (b.length : Int)) = false := decide_eq_false (by omega)
      have HL2 := Lib.hid (fun w => long6_any a2 b.length c2 w)
      rw [e2] at HL2
      by_cases h3 : 100 < s.length
      · have e3 : decide ((100 : Int) < (s.length : Int)) = true := decide_eq_true (by omega)
        have HG := Lib.hid (fun w => large6_any a3 s.length c3 w)
        rw [e3] at HG
        clear h1 e1 h2 e2 h3 e3 ha hb hs
        go_enter Try.func5, Try.ntmps5
        go_wp2_with fail
        refine (HL1.out _).mono ?_
        rintro e w0 ⟨rfl, rfl⟩
        go_wp2_with fail
        refine (HL2.out _).mono ?_
        rintro e w0 ⟨rfl, rfl⟩
        go_wp2_with fail
        refine (HG.out _).mono ?_
        rintro e w0 ⟨rfl, rfl⟩
        go_wp2_with fail
        refine (known6_true _ ).mono ?_
        rintro e w1 ⟨rfl, hB⟩
        have HB := Lib.hid hB
        clear hB
        go_wp2_with fail
        go_ret
        exact ⟨rfl, HB.out⟩
      · have e3 : decide ((100 : Int) < (s.length : Int)) = false := decide_eq_false (by omega)
        have HG := Lib.hid (fun w => large6_any a3 s.length c3 w)
        rw [e3] at HG
        have C1 := Lib.hid (fun w h1 h2 => sMeet_any a1 a2 c1 c2 a b w h1 h2)
        have C2 := Lib.hid (fun w h1 h2 => rMeet6_any a1 a2 c1 c2 a b w h1 h2)
        have C3 := Lib.hid (fun w h1 h2 => sHas_any a1 a3 c1 c3 a s w h1 h2 (by omega))
        have C4 := Lib.hid (fun w h1 h2 => sHas_any a2 a3 c2 c3 b s w h1 h2 (by omega))
        have HA := Lib.hid ha
        have HX := Lib.hid hb
        have HS := Lib.hid hs
        unfold GivesRgB at C1 C2
        have hrS : s.length ≤ 100 := by omega
        have hml : (meetM a b).length ≤ 4 := by
          by_cases hq : fe (vb a) (vb b) = 0
          · have h4 := (vb_ok (fe_zero hq).1).l4
            have k4 := (vb_ok (fe_zero hq).2).l4
            unfold meetM
            split
            · rw [meetB_l h4 k4]; omega
            · simp
          · unfold meetM; rw [decide_eq_false hq]; simp
        by_cases hz : vb a = 0 ∧ vb b = 0 ∧ vs s = 0
        · obtain ⟨z1, z2, z3⟩ := hz
          have ok1 := vb_ok z1
          have ok2 := vb_ok z2
          have E1 : fe (vb a) (vb b) = 0 := by rw [z1, z2]; rfl
          have E2 : fe (vb a) (vs s) = 0 := by rw [z1, z3]; rfl
          have E3 : fe (vb b) (vs s) = 0 := by rw [z2, z3]; rfl
          have p1 : hasA a s = memB a s := by unfold hasA; rw [if_pos E2]
          have p2 : hasA b s = memB b s := by unfold hasA; rw [if_pos E3]
          rw [p1, E2] at C3
          rw [p2, E3] at C4
          rw [E1] at C1 C2
          cases hap : apB a b
          · have q1 : meetM a b = meetB a b := by unfold meetM; rw [E1, hap]; rfl
            have q2 : meetK a b = true := by unfold meetK; rw [E1, hap]; rfl
            have okm := meet_ok ok1 ok2 hap
            have C5 := Lib.hid (fun x k w h1 h2 => sHas_any x a3 k c3 (meetB a b) s w h1 h2 (by omega))
            rw [show hasA (meetB a b) s = (memB a s && memB b s) by unfold hasA; rw [vb_ok' okm, z3]; exact meet_mem ok1.l4 ok2.l4, vb_ok' okm, z3, okm.l4] at C5
            rw [q1, q2, okm.l4] at C1 C2
            have HLM := Lib.hid okm.l4
            have hz0 : fe 0 0 = 0 := rfl
            rw [hz0] at C5
            generalize meetB a b = bm at *
            generalize memB a s = P at *
            generalize memB b s = Q at *
            clear z1 z2 z3 ok1 ok2 E1 E2 E3 p1 p2 hap q1 q2 okm hml e1 e2 e3 h1 h2 h3 ha hb hs
            cases P
            · cases Q
              · go_enter Try.func5, Try.ntmps5
                go_wp2_with fail
                refine (HL1.out _).mono ?_
                rintro e w0 ⟨rfl, rfl⟩
                go_wp2_with fail
                refine (HL2.out _).mono ?_
                rintro e w0 ⟨rfl, rfl⟩
                go_wp2_with fail
                refine (HG.out _).mono ?_
                rintro e w0 ⟨rfl, rfl⟩
                go_wp2_with fail
                refine (C1.out _ HA.out HX.out).mono ?_
                rintro e w1 ⟨x1, k1, rfl, ho, hB⟩
                have HB := Lib.hid hB
                have R1 := Lib.hid ((ranges_of_own ho).1)
                clear hB ho
                go_wp2_with fail
                refine (C2.out _ (HA.out.below HB.out (Nat.le_refl _)) (HX.out.below HB.out (Nat.le_refl _))).mono ?_
                rintro e w2 ⟨x2, k2, rfl, ho, hB⟩
                have R1 := Lib.hid (R1.out.below hB (Nat.le_refl _))
                have HB := Lib.hid (HB.out.trans (hB.mono HB.out.size))
                have R2 := Lib.hid ((ranges_of_own ho).1)
                clear hB ho
                go_wp2_with fail
                refine (sameG_self 4 _ _ _ _ _ _ HLM.out R1.out R2.out (by omega)).mono ?_
                rintro e w3 ⟨rfl, hB⟩
                have R1 := Lib.hid (R1.out.below hB (Nat.le_refl _))
                have R2 := Lib.hid (R2.out.below hB (Nat.le_refl _))
                have HB := Lib.hid (HB.out.trans (hB.mono HB.out.size))
                clear hB
                go_wp2_with fail
                refine (C3.out _ (HA.out.below HB.out (Nat.le_refl _)) (HS.out.below HB.out (Nat.le_refl _))).mono ?_
                rintro e w4 ⟨rfl, hB⟩
                have R1 := Lib.hid (R1.out.below hB (Nat.le_refl _))
                have R2 := Lib.hid (R2.out.below hB (Nat.le_refl _))
                have HB := Lib.hid (HB.out.trans (hB.mono HB.out.size))
                clear hB
                go_wp2_with fail
                refine (C4.out _ (HX.out.below HB.out (Nat.le_refl _)) (HS.out.below HB.out (Nat.le_refl _))).mono ?_
                rintro e w5 ⟨rfl, hB⟩
                have R1 := Lib.hid (R1.out.below hB (Nat.le_refl _))
                have R2 := Lib.hid (R2.out.below hB (Nat.le_refl _))
                have HB := Lib.hid (HB.out.trans (hB.mono HB.out.size))
                clear hB
                go_wp2_with fail
                refine (C5.out _ _ _ R1.out (HS.out.below HB.out (Nat.le_refl _))).mono ?_
                rintro e w6 ⟨rfl, hB⟩
                have R1 := Lib.hid (R1.out.below hB (Nat.le_refl _))
                have R2 := Lib.hid (R2.out.below hB (Nat.le_refl _))
                have HB := Lib.hid (HB.out.trans (hB.mono HB.out.size))
                clear hB
                go_wp2_with fail
                refine (known6_true _ ).mono ?_
                rintro e w7 ⟨rfl, hB⟩
                have R1 := Lib.hid (R1.out.below hB (Nat.le_refl _))
                have R2 := Lib.hid (R2.out.below hB (Nat.le_refl _))
                have HB := Lib.hid (HB.out.trans (hB.mono HB.out.size))
                clear hB
                go_wp2_with fail
                go_ret
                exact ⟨rfl, HB.out⟩
              · go_enter Try.func5, Try.ntmps5
                go_wp2_with fail
                refine (HL1.out _).mono ?_
                rintro e w0 ⟨rfl, rfl⟩
                go_wp2_with fail
                refine (HL2.out _).mono ?_
                rintro e w0 ⟨rfl, rfl⟩
                go_wp2_with fail
                refine (HG.out _).mono ?_
                rintro e w0 ⟨rfl, rfl⟩
                go_wp2_with fail
                refine (C1.out _ HA.out HX.out).mono ?_
                rintro e w1 ⟨x1, k1, rfl, ho, hB⟩
                have HB := Lib.hid hB
                have R1 := Lib.hid ((ranges_of_own ho).1)
                clear hB ho
                go_wp2_with fail
                refine (C2.out _ (HA.out.below HB.out (Nat.le_refl _)) (HX.out.below HB.out (Nat.le_refl _))).mono ?_
                rintro e w2 ⟨x2, k2, rfl, ho, hB⟩
                have R1 := Lib.hid (R1.out.below hB (Nat.le_refl _))
                have HB := Lib.hid (HB.out.trans (hB.mono HB.out.size))
                have R2 := Lib.hid ((ranges_of_own ho).1)
                clear hB ho
                go_wp2_with fail
                refine (sameG_self 4 _ _ _ _ _ _ HLM.out R1.out R2.out (by omega)).mono ?_
                rintro e w3 ⟨rfl, hB⟩
                have R1 := Lib.hid (R1.out.below hB (Nat.le_refl _))
                have R2 := Lib.hid (R2.out.below hB (Nat.le_refl _))
                have HB := Lib.hid (HB.out.trans (hB.mono HB.out.size))
                clear hB
                go_wp2_with fail
                refine (C3.out _ (HA.out.below HB.out (Nat.le_refl _)) (HS.out.below HB.out (Nat.le_refl _))).mono ?_
                rintro e w4 ⟨rfl, hB⟩
                have R1 := Lib.hid (R1.out.below hB (Nat.le_refl _))
                have R2 := Lib.hid (R2.out.below hB (Nat.le_refl _))
                have HB := Lib.hid (HB.out.trans (hB.mono HB.out.size))
                clear hB
                go_wp2_with fail
                refine (C4.out _ (HX.out.below HB.out (Nat.le_refl _)) (HS.out.below HB.out (Nat.le_refl _))).mono ?_
                rintro e w5 ⟨rfl, hB⟩
                have R1 := Lib.hid (R1.out.below hB (Nat.le_refl _))
                have R2 := Lib.hid (R2.out.below hB (Nat.le_refl _))
                have HB := Lib.hid (HB.out.trans (hB.mono HB.out.size))
                clear hB
                go_wp2_with fail
                refine (C5.out _ _ _ R1.out (HS.out.below HB.out (Nat.le_refl _))).mono ?_
                rintro e w6 ⟨rfl, hB⟩
                have R1 := Lib.hid (R1.out.below hB (Nat.le_refl _))
                have R2 := Lib.hid (R2.out.below hB (Nat.le_refl _))
                have HB := Lib.hid (HB.out.trans (hB.mono HB.out.size))
                clear hB
                go_wp2_with fail
                refine (known6_true _ ).mono ?_
                rintro e w7 ⟨rfl, hB⟩
                have R1 := Lib.hid (R1.out.below hB (Nat.le_refl _))
                have R2 := Lib.hid (R2.out.below hB (Nat.le_refl _))
                have HB := Lib.hid (HB.out.trans (hB.mono HB.out.size))
                clear hB
                go_wp2_with fail
                go_ret
                exact ⟨rfl, HB.out⟩
            · cases Q
              · go_enter Try.func5, Try.ntmps5
                go_wp2_with fail
                refine (HL1.out _).mono ?_
                rintro e w0 ⟨rfl, rfl⟩
                go_wp2_with fail
                refine (HL2.out _).mono ?_
                rintro e w0 ⟨rfl, rfl⟩
                go_wp2_with fail
                refine (HG.out _).mono ?_
                rintro e w0 ⟨rfl, rfl⟩
                go_wp2_with fail
                refine (C1.out _ HA.out HX.out).mono ?_
                rintro e w1 ⟨x1, k1, rfl, ho, hB⟩
                have HB := Lib.hid hB
                have R1 := Lib.hid ((ranges_of_own ho).1)
                clear hB ho
                go_wp2_with fail
                refine (C2.out _ (HA.out.below HB.out (Nat.le_refl _)) (HX.out.below HB.out (Nat.le_refl _))).mono ?_
                rintro e w2 ⟨x2, k2, rfl, ho, hB⟩
                have R1 := Lib.hid (R1.out.below hB (Nat.le_refl _))
                have HB := Lib.hid (HB.out.trans (hB.mono HB.out.size))
                have R2 := Lib.hid ((ranges_of_own ho).1)
                clear hB ho
                go_wp2_with fail
                refine (sameG_self 4 _ _ _ _ _ _ HLM.out R1.out R2.out (by omega)).mono ?_
                rintro e w3 ⟨rfl, hB⟩
                have R1 := Lib.hid (R1.out.below hB (Nat.le_refl _))
                have R2 := Lib.hid (R2.out.below hB (Nat.le_refl _))
                have HB := Lib.hid (HB.out.trans (hB.mono HB.out.size))
                clear hB
                go_wp2_with fail
                refine (C3.out _ (HA.out.below HB.out (Nat.le_refl _)) (HS.out.below HB.out (Nat.le_refl _))).mono ?_
                rintro e w4 ⟨rfl, hB⟩
                have R1 := Lib.hid (R1.out.below hB (Nat.le_refl _))
                have R2 := Lib.hid (R2.out.below hB (Nat.le_refl _))
                have HB := Lib.hid (HB.out.trans (hB.mono HB.out.size))
                clear hB
                go_wp2_with fail
                refine (C4.out _ (HX.out.below HB.out (Nat.le_refl _)) (HS.out.below HB.out (Nat.le_refl _))).mono ?_
                rintro e w5 ⟨rfl, hB⟩
                have R1 := Lib.hid (R1.out.below hB (Nat.le_refl _))
                have R2 := Lib.hid (R2.out.below hB (Nat.le_refl _))
                have HB := Lib.hid (HB.out.trans (hB.mono HB.out.size))
                clear hB
                go_wp2_with fail
                refine (C5.out _ _ _ R1.out (HS.out.below HB.out (Nat.le_refl _))).mono ?_
                rintro e w6 ⟨rfl, hB⟩
                have R1 := Lib.hid (R1.out.below hB (Nat.le_refl _))
                have R2 := Lib.hid (R2.out.below hB (Nat.le_refl _))
                have HB := Lib.hid (HB.out.trans (hB.mono HB.out.size))
                clear hB
                go_wp2_with fail
                refine (known6_true _ ).mono ?_
                rintro e w7 ⟨rfl, hB⟩
                have R1 := Lib.hid (R1.out.below hB (Nat.le_refl _))
                have R2 := Lib.hid (R2.out.below hB (Nat.le_refl _))
                have HB := Lib.hid (HB.out.trans (hB.mono HB.out.size))
                clear hB
                go_wp2_with fail
                go_ret
                exact ⟨rfl, HB.out⟩
              · go_enter Try.func5, Try.ntmps5
                go_wp2_with fail
                refine (HL1.out _).mono ?_
                rintro e w0 ⟨rfl, rfl⟩
                go_wp2_with fail
                refine (HL2.out _).mono ?_
                rintro e w0 ⟨rfl, rfl⟩
                go_wp2_with fail
                refine (HG.out _).mono ?_
                rintro e w0 ⟨rfl, rfl⟩
                go_wp2_with fail
                refine (C1.out _ HA.out HX.out).mono ?_
                rintro e w1 ⟨x1, k1, rfl, ho, hB⟩
                have HB := Lib.hid hB
                have R1 := Lib.hid ((ranges_of_own ho).1)
                clear hB ho
                go_wp2_with fail
                refine (C2.out _ (HA.out.below HB.out (Nat.le_refl _)) (HX.out.below HB.out (Nat.le_refl _))).mono ?_
                rintro e w2 ⟨x2, k2, rfl, ho, hB⟩
                have R1 := Lib.hid (R1.out.below hB (Nat.le_refl _))
                have HB := Lib.hid (HB.out.trans (hB.mono HB.out.size))
                have R2 := Lib.hid ((ranges_of_own ho).1)
                clear hB ho
                go_wp2_with fail
                refine (sameG_self 4 _ _ _ _ _ _ HLM.out R1.out R2.out (by omega)).mono ?_
                rintro e w3 ⟨rfl, hB⟩
                have R1 := Lib.hid (R1.out.below hB (Nat.le_refl _))
                have R2 := Lib.hid (R2.out.below hB (Nat.le_refl _))
                have HB := Lib.hid (HB.out.trans (hB.mono HB.out.size))
                clear hB
                go_wp2_with fail
                refine (C3.out _ (HA.out.below HB.out (Nat.le_refl _)) (HS.out.below HB.out (Nat.le_refl _))).mono ?_
                rintro e w4 ⟨rfl, hB⟩
                have R1 := Lib.hid (R1.out.below hB (Nat.le_refl _))
                have R2 := Lib.hid (R2.out.below hB (Nat.le_refl _))
                have HB := Lib.hid (HB.out.trans (hB.mono HB.out.size))
                clear hB
                go_wp2_with fail
                refine (C4.out _ (HX.out.below HB.out (Nat.le_refl _)) (HS.out.below HB.out (Nat.le_refl _))).mono ?_
                rintro e w5 ⟨rfl, hB⟩
                have R1 := Lib.hid (R1.out.below hB (Nat.le_refl _))
                have R2 := Lib.hid (R2.out.below hB (Nat.le_refl _))
                have HB := Lib.hid (HB.out.trans (hB.mono HB.out.size))
                clear hB
                go_wp2_with fail
                refine (C5.out _ _ _ R1.out (HS.out.below HB.out (Nat.le_refl _))).mono ?_
                rintro e w6 ⟨rfl, hB⟩
                have R1 := Lib.hid (R1.out.below hB (Nat.le_refl _))
                have R2 := Lib.hid (R2.out.below hB (Nat.le_refl _))
                have HB := Lib.hid (HB.out.trans (hB.mono HB.out.size))
                clear hB
                go_wp2_with fail
                refine (known6_true _ ).mono ?_
                rintro e w7 ⟨rfl, hB⟩
                have R1 := Lib.hid (R1.out.below hB (Nat.le_refl _))
                have R2 := Lib.hid (R2.out.below hB (Nat.le_refl _))
                have HB := Lib.hid (HB.out.trans (hB.mono HB.out.size))
                clear hB
                go_wp2_with fail
                go_ret
                exact ⟨rfl, HB.out⟩
          · have q1 : meetM a b = [] := by unfold meetM; rw [E1, hap]; rfl
            have q2 : meetK a b = false := by unfold meetK; rw [E1, hap]; rfl
            have hno := meet_none (s := s) ok1.l4 ok2.l4 hap
            rw [q1, q2] at C1 C2
            have HLM : Hid (([] : List Rg).length = 0) := Lib.hid rfl
            generalize memB a s = P at *
            generalize memB b s = Q at *
            clear z1 z2 z3 ok1 ok2 E1 E2 E3 p1 p2 hap q1 q2 hml e1 e2 e3 h1 h2 h3 ha hb hs
            cases P
            · cases Q
              · go_enter Try.func5, Try.ntmps5
                go_wp2_with fail
                refine (HL1.out _).mono ?_
                rintro e w0 ⟨rfl, rfl⟩
                go_wp2_with fail
                refine (HL2.out _).mono ?_
                rintro e w0 ⟨rfl, rfl⟩
                go_wp2_with fail
                refine (HG.out _).mono ?_
                rintro e w0 ⟨rfl, rfl⟩
                go_wp2_with fail
                refine (C1.out _ HA.out HX.out).mono ?_
                rintro e w1 ⟨x1, k1, rfl, ho, hB⟩
                have HB := Lib.hid hB
                have R1 := Lib.hid ((ranges_of_own ho).1)
                clear hB ho
                go_wp2_with fail
                refine (C2.out _ (HA.out.below HB.out (Nat.le_refl _)) (HX.out.below HB.out (Nat.le_refl _))).mono ?_
                rintro e w2 ⟨x2, k2, rfl, ho, hB⟩
                have R1 := Lib.hid (R1.out.below hB (Nat.le_refl _))
                have HB := Lib.hid (HB.out.trans (hB.mono HB.out.size))
                have R2 := Lib.hid ((ranges_of_own ho).1)
                clear hB ho
                go_wp2_with fail
                refine (sameG_self 0 _ _ _ _ _ _ HLM.out R1.out R2.out (by omega)).mono ?_
                rintro e w3 ⟨rfl, hB⟩
                have R1 := Lib.hid (R1.out.below hB (Nat.le_refl _))
                have R2 := Lib.hid (R2.out.below hB (Nat.le_refl _))
                have HB := Lib.hid (HB.out.trans (hB.mono HB.out.size))
                clear hB
                go_wp2_with fail
                refine (C3.out _ (HA.out.below HB.out (Nat.le_refl _)) (HS.out.below HB.out (Nat.le_refl _))).mono ?_
                rintro e w4 ⟨rfl, hB⟩
                have R1 := Lib.hid (R1.out.below hB (Nat.le_refl _))
                have R2 := Lib.hid (R2.out.below hB (Nat.le_refl _))
                have HB := Lib.hid (HB.out.trans (hB.mono HB.out.size))
                clear hB
                go_wp2_with fail
                refine (C4.out _ (HX.out.below HB.out (Nat.le_refl _)) (HS.out.below HB.out (Nat.le_refl _))).mono ?_
                rintro e w5 ⟨rfl, hB⟩
                have R1 := Lib.hid (R1.out.below hB (Nat.le_refl _))
                have R2 := Lib.hid (R2.out.below hB (Nat.le_refl _))
                have HB := Lib.hid (HB.out.trans (hB.mono HB.out.size))
                clear hB
                go_wp2_with fail
                refine (known6_true _ ).mono ?_
                rintro e w6 ⟨rfl, hB⟩
                have R1 := Lib.hid (R1.out.below hB (Nat.le_refl _))
                have R2 := Lib.hid (R2.out.below hB (Nat.le_refl _))
                have HB := Lib.hid (HB.out.trans (hB.mono HB.out.size))
                clear hB
                go_wp2_with fail
                go_ret
                exact ⟨rfl, HB.out⟩
              · go_enter Try.func5, Try.ntmps5
                go_wp2_with fail
                refine (HL1.out _).mono ?_
                rintro e w0 ⟨rfl, rfl⟩
                go_wp2_with fail
                refine (HL2.out _).mono ?_
                rintro e w0 ⟨rfl, rfl⟩
                go_wp2_with fail
                refine (HG.out _).mono ?_
                rintro e w0 ⟨rfl, rfl⟩
                go_wp2_with fail
                refine (C1.out _ HA.out HX.out).mono ?_
                rintro e w1 ⟨x1, k1, rfl, ho, hB⟩
                have HB := Lib.hid hB
                have R1 := Lib.hid ((ranges_of_own ho).1)
                clear hB ho
                go_wp2_with fail
                refine (C2.out _ (HA.out.below HB.out (Nat.le_refl _)) (HX.out.below HB.out (Nat.le_refl _))).mono ?_
                rintro e w2 ⟨x2, k2, rfl, ho, hB⟩
                have R1 := Lib.hid (R1.out.below hB (Nat.le_refl _))
                have HB := Lib.hid (HB.out.trans (hB.mono HB.out.size))
                have R2 := Lib.hid ((ranges_of_own ho).1)
                clear hB ho
                go_wp2_with fail
                refine (sameG_self 0 _ _ _ _ _ _ HLM.out R1.out R2.out (by omega)).mono ?_
                rintro e w3 ⟨rfl, hB⟩
                have R1 := Lib.hid (R1.out.below hB (Nat.le_refl _))
                have R2 := Lib.hid (R2.out.below hB (Nat.le_refl _))
                have HB := Lib.hid (HB.out.trans (hB.mono HB.out.size))
                clear hB
                go_wp2_with fail
                refine (C3.out _ (HA.out.below HB.out (Nat.le_refl _)) (HS.out.below HB.out (Nat.le_refl _))).mono ?_
                rintro e w4 ⟨rfl, hB⟩
                have R1 := Lib.hid (R1.out.below hB (Nat.le_refl _))
                have R2 := Lib.hid (R2.out.below hB (Nat.le_refl _))
                have HB := Lib.hid (HB.out.trans (hB.mono HB.out.size))
                clear hB
                go_wp2_with fail
                refine (C4.out _ (HX.out.below HB.out (Nat.le_refl _)) (HS.out.below HB.out (Nat.le_refl _))).mono ?_
                rintro e w5 ⟨rfl, hB⟩
                have R1 := Lib.hid (R1.out.below hB (Nat.le_refl _))
                have R2 := Lib.hid (R2.out.below hB (Nat.le_refl _))
                have HB := Lib.hid (HB.out.trans (hB.mono HB.out.size))
                clear hB
                go_wp2_with fail
                refine (known6_true _ ).mono ?_
                rintro e w6 ⟨rfl, hB⟩
                have R1 := Lib.hid (R1.out.below hB (Nat.le_refl _))
                have R2 := Lib.hid (R2.out.below hB (Nat.le_refl _))
                have HB := Lib.hid (HB.out.trans (hB.mono HB.out.size))
                clear hB
                go_wp2_with fail
                go_ret
                exact ⟨rfl, HB.out⟩
            · cases Q
              · go_enter Try.func5, Try.ntmps5
                go_wp2_with fail
                refine (HL1.out _).mono ?_
                rintro e w0 ⟨rfl, rfl⟩
                go_wp2_with fail
                refine (HL2.out _).mono ?_
                rintro e w0 ⟨rfl, rfl⟩
                go_wp2_with fail
                refine (HG.out _).mono ?_
                rintro e w0 ⟨rfl, rfl⟩
                go_wp2_with fail
                refine (C1.out _ HA.out HX.out).mono ?_
                rintro e w1 ⟨x1, k1, rfl, ho, hB⟩
                have HB := Lib.hid hB
                have R1 := Lib.hid ((ranges_of_own ho).1)
                clear hB ho
                go_wp2_with fail
                refine (C2.out _ (HA.out.below HB.out (Nat.le_refl _)) (HX.out.below HB.out (Nat.le_refl _))).mono ?_
                rintro e w2 ⟨x2, k2, rfl, ho, hB⟩
                have R1 := Lib.hid (R1.out.below hB (Nat.le_refl _))
                have HB := Lib.hid (HB.out.trans (hB.mono HB.out.size))
                have R2 := Lib.hid ((ranges_of_own ho).1)
                clear hB ho
                go_wp2_with fail
                refine (sameG_self 0 _ _ _ _ _ _ HLM.out R1.out R2.out (by omega)).mono ?_
                rintro e w3 ⟨rfl, hB⟩
                have R1 := Lib.hid (R1.out.below hB (Nat.le_refl _))
                have R2 := Lib.hid (R2.out.below hB (Nat.le_refl _))
                have HB := Lib.hid (HB.out.trans (hB.mono HB.out.size))
                clear hB
                go_wp2_with fail
                refine (C3.out _ (HA.out.below HB.out (Nat.le_refl _)) (HS.out.below HB.out (Nat.le_refl _))).mono ?_
                rintro e w4 ⟨rfl, hB⟩
                have R1 := Lib.hid (R1.out.below hB (Nat.le_refl _))
                have R2 := Lib.hid (R2.out.below hB (Nat.le_refl _))
                have HB := Lib.hid (HB.out.trans (hB.mono HB.out.size))
                clear hB
                go_wp2_with fail
                refine (C4.out _ (HX.out.below HB.out (Nat.le_refl _)) (HS.out.below HB.out (Nat.le_refl _))).mono ?_
                rintro e w5 ⟨rfl, hB⟩
                have R1 := Lib.hid (R1.out.below hB (Nat.le_refl _))
                have R2 := Lib.hid (R2.out.below hB (Nat.le_refl _))
                have HB := Lib.hid (HB.out.trans (hB.mono HB.out.size))
                clear hB
                go_wp2_with fail
                refine (known6_true _ ).mono ?_
                rintro e w6 ⟨rfl, hB⟩
                have R1 := Lib.hid (R1.out.below hB (Nat.le_refl _))
                have R2 := Lib.hid (R2.out.below hB (Nat.le_refl _))
                have HB := Lib.hid (HB.out.trans (hB.mono HB.out.size))
                clear hB
                go_wp2_with fail
                go_ret
                exact ⟨rfl, HB.out⟩
              · cases hno
        · rcases Bool.eq_false_or_eq_true (fe (vb a) (vb b) != 0) with n1 | n1
          · have n1' : (fe (vb a) (vb b) == 0) = false := by simpa using n1
            have n3 : (fe (vb a) (vb b) != fe (vb a) (vb b)) = false := by simp
            have nk : (meetK a b != meetK a b) = false := by simp
            generalize meetM a b = bm at *
            generalize meetK a b = K at *
            have HLM : Hid (bm.length = bm.length) := Lib.hid rfl
            generalize fe (vb a) (vb b) = E1 at *
            generalize fe (vb a) (vs s) = E2 at *
            generalize fe (vb b) (vs s) = E3 at *
            generalize hasA a s = M at *
            generalize hasA b s = M2 at *
            clear hz e1 e2 e3 h1 h2 h3 ha hb hs
            go_enter Try.func5, Try.ntmps5
            go_wp2_with fail
            refine (HL1.out _).mono ?_
            rintro e w0 ⟨rfl, rfl⟩
            go_wp2_with fail
            refine (HL2.out _).mono ?_
            rintro e w0 ⟨rfl, rfl⟩
            go_wp2_with fail
            refine (HG.out _).mono ?_
            rintro e w0 ⟨rfl, rfl⟩
            go_wp2_with fail
            refine (C1.out _ HA.out HX.out).mono ?_
            rintro e w1 ⟨x1, k1, rfl, ho, hB⟩
            have HB := Lib.hid hB
            have R1 := Lib.hid ((ranges_of_own ho).1)
            clear hB ho
            go_wp2_with fail
            refine (C2.out _ (HA.out.below HB.out (Nat.le_refl _)) (HX.out.below HB.out (Nat.le_refl _))).mono ?_
            rintro e w2 ⟨x2, k2, rfl, ho, hB⟩
            have R1 := Lib.hid (R1.out.below hB (Nat.le_refl _))
            have HB := Lib.hid (HB.out.trans (hB.mono HB.out.size))
            have R2 := Lib.hid ((ranges_of_own ho).1)
            clear hB ho
            go_wp2_with fail
            refine (sameG_self bm.length _ _ _ _ _ _ rfl R1.out R2.out (by omega)).mono ?_
            rintro e w3 ⟨rfl, hB⟩
            have R1 := Lib.hid (R1.out.below hB (Nat.le_refl _))
            have R2 := Lib.hid (R2.out.below hB (Nat.le_refl _))
            have HB := Lib.hid (HB.out.trans (hB.mono HB.out.size))
            clear hB
            go_wp2_with fail
            refine (C3.out _ (HA.out.below HB.out (Nat.le_refl _)) (HS.out.below HB.out (Nat.le_refl _))).mono ?_
            rintro e w4 ⟨rfl, hB⟩
            have R1 := Lib.hid (R1.out.below hB (Nat.le_refl _))
            have R2 := Lib.hid (R2.out.below hB (Nat.le_refl _))
            have HB := Lib.hid (HB.out.trans (hB.mono HB.out.size))
            clear hB
            go_wp2_with fail
            refine (C4.out _ (HX.out.below HB.out (Nat.le_refl _)) (HS.out.below HB.out (Nat.le_refl _))).mono ?_
            rintro e w5 ⟨rfl, hB⟩
            have R1 := Lib.hid (R1.out.below hB (Nat.le_refl _))
            have R2 := Lib.hid (R2.out.below hB (Nat.le_refl _))
            have HB := Lib.hid (HB.out.trans (hB.mono HB.out.size))
            clear hB
            go_wp2_with fail
            refine (known6_true _ ).mono ?_
            rintro e w6 ⟨rfl, hB⟩
            have R1 := Lib.hid (R1.out.below hB (Nat.le_refl _))
            have R2 := Lib.hid (R2.out.below hB (Nat.le_refl _))
            have HB := Lib.hid (HB.out.trans (hB.mono HB.out.size))
            clear hB
            go_wp2_with fail
            go_ret
            exact ⟨rfl, HB.out⟩
          · have m1 : fe (vb a) (vb b) = 0 := by simpa using n1
            obtain ⟨z1, z2⟩ := fe_zero m1
            have n2 : (fe (vb a) (vs s) != 0) = true := by
              simp only [bne_iff_ne, ne_eq]; exact fun h => hz ⟨z1, z2, (fe_zero h).2⟩
            have n2' : (fe (vb a) (vs s) == 0) = false := by simpa using n2
            have nk : (meetK a b != meetK a b) = false := by simp
            generalize meetM a b = bm at *
            generalize meetK a b = K at *
            have HLM : Hid (bm.length = bm.length) := Lib.hid rfl
            rw [m1] at C1 C2
            generalize fe (vb a) (vs s) = E2 at *
            generalize fe (vb b) (vs s) = E3 at *
            generalize hasA a s = M at *
            generalize hasA b s = M2 at *
            clear hz m1 n1 z1 z2 e1 e2 e3 h1 h2 h3 ha hb hs
            go_enter Try.func5, Try.ntmps5
            go_wp2_with fail
            refine (HL1.out _).mono ?_
            rintro e w0 ⟨rfl, rfl⟩
            go_wp2_with fail
            refine (HL2.out _).mono ?_
            rintro e w0 ⟨rfl, rfl⟩
            go_wp2_with fail
            refine (HG.out _).mono ?_
            rintro e w0 ⟨rfl, rfl⟩
            go_wp2_with fail
            refine (C1.out _ HA.out HX.out).mono ?_
            rintro e w1 ⟨x1, k1, rfl, ho, hB⟩
            have HB := Lib.hid hB
            have R1 := Lib.hid ((ranges_of_own ho).1)
            clear hB ho
            go_wp2_with fail
            refine (C2.out _ (HA.out.below HB.out (Nat.le_refl _)) (HX.out.below HB.out (Nat.le_refl _))).mono ?_
            rintro e w2 ⟨x2, k2, rfl, ho, hB⟩
            have R1 := Lib.hid (R1.out.below hB (Nat.le_refl _))
            have HB := Lib.hid (HB.out.trans (hB.mono HB.out.size))
            have R2 := Lib.hid ((ranges_of_own ho).1)
            clear hB ho
            go_wp2_with fail
            refine (sameG_self bm.length _ _ _ _ _ _ rfl R1.out R2.out (by omega)).mono ?_
            rintro e w3 ⟨rfl, hB⟩
            have R1 := Lib.hid (R1.out.below hB (Nat.le_refl _))
            have R2 := Lib.hid (R2.out.below hB (Nat.le_refl _))
            have HB := Lib.hid (HB.out.trans (hB.mono HB.out.size))
            clear hB
            go_wp2_with fail
            refine (C3.out _ (HA.out.below HB.out (Nat.le_refl _)) (HS.out.below HB.out (Nat.le_refl _))).mono ?_
            rintro e w4 ⟨rfl, hB⟩
            have R1 := Lib.hid (R1.out.below hB (Nat.le_refl _))
            have R2 := Lib.hid (R2.out.below hB (Nat.le_refl _))
            have HB := Lib.hid (HB.out.trans (hB.mono HB.out.size))
            clear hB
            go_wp2_with fail
            refine (C4.out _ (HX.out.below HB.out (Nat.le_refl _)) (HS.out.below HB.out (Nat.le_refl _))).mono ?_
            rintro e w5 ⟨rfl, hB⟩
            have R1 := Lib.hid (R1.out.below hB (Nat.le_refl _))
            have R2 := Lib.hid (R2.out.below hB (Nat.le_refl _))
            have HB := Lib.hid (HB.out.trans (hB.mono HB.out.size))
            clear hB
            go_wp2_with fail
            refine (known6_true _ ).mono ?_
            rintro e w6 ⟨rfl, hB⟩
            have R1 := Lib.hid (R1.out.below hB (Nat.le_refl _))
            have R2 := Lib.hid (R2.out.below hB (Nat.le_refl _))
            have HB := Lib.hid (HB.out.trans (hB.mono HB.out.size))
            clear hB
            go_wp2_with fail
            go_ret
            exact ⟨rfl, HB.out⟩

end Go.Proofs.Ytmpghapfldjfeaa
