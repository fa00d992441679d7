/- SpanHalves: the walk. -/
import Derived.Test.YtmpghapfldjfeaaSpM
import Derived.Test.YtmpghapfldjfeaaSrD
set_option linter.unusedVariables false
set_option linter.unusedSimpArgs false
namespace Go.Proofs.Ytmpghapfldjfeaa
open Go.RowKit Tinker

set_option maxRecDepth 100000 in
set_option maxHeartbeats 8000000 in
theorem spanHalves_walk (a : Option Addr) (ca : Nat) (b : List Rg) (r : Int) (a2 : Option Addr) (c2 : Nat) (s : List Int) (w : World) (hb : RangesAt w a b) (hc : a = none → ca = 0) (hs : IntsAt w a2 s) (hd : a2 = none → c2 = 0) :
    Calls Try.prog 14 #[.slice a b.length ca, .int .i64 r, .slice a2 s.length c2] w fun e w' => e = .returned (.bool true) ∧ Below w.heap.size w w' := by
  clear hd
  by_cases h1 : 100 < b.length
  · have e1 : decide ((100 : Int) < (b.length : Int)) = true := decide_eq_true (by omega)
    have HL := Lib.hid (fun w => long6_any a b.length ca w)
    rw [e1] at HL
    clear h1 e1 hb hs hc
    go_enter Try.func14, Try.ntmps14
    go_wp2_with fail
    refine (HL.out _).mono ?_
    rintro e w0 ⟨rfl, rfl⟩
    go_wp2_with fail
    refine (known6_true _ ).mono ?_
    rintro e w1 ⟨rfl, hB⟩
    have HB := Lib.hid hB
    clear hB
    go_wp2_with fail
    go_ret
    exact ⟨rfl, HB.out⟩
  · have e1 : decide ((100 : Int) < (b.length : Int)) = false := decide_eq_false (by omega)
    have HL := Lib.hid (fun w => long6_any a b.length ca w)
    rw [e1] at HL
    by_cases h2 : 100 < s.length
    · have e2 : decide ((100 : Int) < (s.length : Int)) = true := decide_eq_true (by omega)
      have HG := Lib.hid (fun w => large6_any a2 s.length c2 w)
      rw [e2] at HG
      clear h1 e1 h2 e2 hb hs hc
      go_enter Try.func14, Try.ntmps14
      go_wp2_with fail
      refine (HL.out _).mono ?_
      rintro e w0 ⟨rfl, rfl⟩
      go_wp2_with fail
      refine (HG.out _).mono ?_
      rintro e w0 ⟨rfl, rfl⟩
      go_wp2_with fail
      refine (known6_true _ ).mono ?_
      rintro e w1 ⟨rfl, hB⟩
      have HB := Lib.hid hB
      clear hB
      go_wp2_with fail
      go_ret
      exact ⟨rfl, HB.out⟩
    · have e2 : decide ((100 : Int) < (s.length : Int)) = false := decide_eq_false (by omega)
      have HG := Lib.hid (fun w => large6_any a2 s.length c2 w)
      rw [e2] at HG
      have C1 := Lib.hid (fun w h => sHalves_any a ca b r w h)
      have C2 := Lib.hid (fun w h => rHalves_any a ca b r w h hc)
      have C3 := Lib.hid (fun w h1 h2 => sHas_any a a2 ca c2 b s w h1 h2 (by omega))
      have HA := Lib.hid hb
      have HS := Lib.hid hs
      unfold GivesRg2 at C1 C2
      have hrS : (s.length ≤ 100) := by omega
      by_cases hz : hvC b r = 0 ∧ fe (vb b) (vs s) = 0
      · obtain ⟨z1, z2⟩ := hz
        obtain ⟨z3, z4⟩ := fe_zero z2
        have hreg : isReg r = true ∧ (gAt b r).hi - (gAt b r).lo ≠ 0 := by
          unfold hvC at z1
          rw [z3] at z1
          cases hr : isReg r
          · rw [hr] at z1; simp [fe] at z1
          · rw [hr] at z1
            refine ⟨rfl, fun h => ?_⟩
            rw [if_pos (show fe 0 (if (true : Bool) = true then 0 else 1) = 0 from rfl), if_pos h] at z1
            exact absurd z1 (by decide)
        obtain ⟨hr, hne⟩ := hreg
        obtain ⟨r0, r3⟩ := isReg_iff.1 hr
        have hok := vb_ok z3
        have hne' : (gAt b r).lo ≠ (gAt b r).hi := fun h => hne (by omega)
        obtain ⟨ok1, ok2⟩ := halves_ok hok r0 r3 hne'
        obtain ⟨m1, m2⟩ := halves_mem (s := s) hok r0 r3
        have e3 : hasA b s = (memB (loH b r) s || memB (hiH b r) s) := by unfold hasA; rw [if_pos z2]; exact m1
        have eL : hvL b r = loH b r := by unfold hvL; rw [if_pos z1]
        have eH : hvH b r = hiH b r := by unfold hvH; rw [if_pos z1]
        have C4 := Lib.hid (fun x k w h1 h2 => sHas_any x a2 k c2 (loH b r) s w h1 h2 (by omega))
        have C5 := Lib.hid (fun x k w h1 h2 => sHas_any x a2 k c2 (hiH b r) s w h1 h2 (by omega))
        rw [show hasA (loH b r) s = memB (loH b r) s by unfold hasA; rw [vb_ok' ok1, z4]; rfl, vb_ok' ok1, z4, ok1.l4] at C4
        rw [show hasA (hiH b r) s = memB (hiH b r) s by unfold hasA; rw [vb_ok' ok2, z4]; rfl, vb_ok' ok2, z4, ok2.l4] at C5
        rw [z1, eL, eH, ok1.l4, ok2.l4] at C1 C2
        rw [e3, z2] at C3
        have HLx := Lib.hid ok1.l4
        have HLy := Lib.hid ok2.l4
        generalize loH b r = bl at *
        generalize hiH b r = bh at *
        generalize memB bl s = P at *
        generalize memB bh s = Q at *
        clear z1 z2 z3 z4 hr hne r0 r3 hok hne' ok1 ok2 m1 e3 eL eH e1 e2 h1 h2 hb hs hc
        have hz0 : fe 0 0 = 0 := rfl
        rw [hz0] at C4 C5
        cases P
        · cases Q
          · go_enter Try.func14, Try.ntmps14
            go_wp2_with fail
            refine (HL.out _).mono ?_
            rintro e w0 ⟨rfl, rfl⟩
            go_wp2_with fail
            refine (HG.out _).mono ?_
            rintro e w0 ⟨rfl, rfl⟩
            go_wp2_with fail
            refine (C1.out _ HA.out).mono ?_
            rintro e w1 ⟨x1, y1, k1, j1, rfl, r1, r2, hB⟩
            have HB := Lib.hid hB
            have R1 := Lib.hid (r1)
            have R2 := Lib.hid (r2)
            clear hB r1 r2
            go_wp2_with fail
            refine (C2.out _ (HA.out.below HB.out (Nat.le_refl _))).mono ?_
            rintro e w2 ⟨x2, y2, k2, j2, rfl, r1, r2, hB⟩
            have R1 := Lib.hid (R1.out.below hB (Nat.le_refl _))
            have R2 := Lib.hid (R2.out.below hB (Nat.le_refl _))
            have HB := Lib.hid (HB.out.trans (hB.mono HB.out.size))
            have R3 := Lib.hid (r1)
            have R4 := Lib.hid (r2)
            clear hB r1 r2
            go_wp2_with fail
            refine (sameG_self 4 _ _ _ _ _ _ HLx.out R1.out R3.out (by omega)).mono ?_
            rintro e w3 ⟨rfl, hB⟩
            have R1 := Lib.hid (R1.out.below hB (Nat.le_refl _))
            have R2 := Lib.hid (R2.out.below hB (Nat.le_refl _))
            have R3 := Lib.hid (R3.out.below hB (Nat.le_refl _))
            have R4 := Lib.hid (R4.out.below hB (Nat.le_refl _))
            have HB := Lib.hid (HB.out.trans (hB.mono HB.out.size))
            clear hB
            go_wp2_with fail
            refine (sameG_self 4 _ _ _ _ _ _ HLy.out R2.out R4.out (by omega)).mono ?_
            rintro e w4 ⟨rfl, hB⟩
            have R1 := Lib.hid (R1.out.below hB (Nat.le_refl _))
            have R2 := Lib.hid (R2.out.below hB (Nat.le_refl _))
            have R3 := Lib.hid (R3.out.below hB (Nat.le_refl _))
            have R4 := Lib.hid (R4.out.below hB (Nat.le_refl _))
            have HB := Lib.hid (HB.out.trans (hB.mono HB.out.size))
            clear hB
            go_wp2_with fail
            refine (C3.out _ (HA.out.below HB.out (Nat.le_refl _)) (HS.out.below HB.out (Nat.le_refl _))).mono ?_
            rintro e w5 ⟨rfl, hB⟩
            have R1 := Lib.hid (R1.out.below hB (Nat.le_refl _))
            have R2 := Lib.hid (R2.out.below hB (Nat.le_refl _))
            have R3 := Lib.hid (R3.out.below hB (Nat.le_refl _))
            have R4 := Lib.hid (R4.out.below hB (Nat.le_refl _))
            have HB := Lib.hid (HB.out.trans (hB.mono HB.out.size))
            clear hB
            go_wp2_with fail
            refine (C4.out _ _ _ R1.out (HS.out.below HB.out (Nat.le_refl _))).mono ?_
            rintro e w6 ⟨rfl, hB⟩
            have R1 := Lib.hid (R1.out.below hB (Nat.le_refl _))
            have R2 := Lib.hid (R2.out.below hB (Nat.le_refl _))
            have R3 := Lib.hid (R3.out.below hB (Nat.le_refl _))
            have R4 := Lib.hid (R4.out.below hB (Nat.le_refl _))
            have HB := Lib.hid (HB.out.trans (hB.mono HB.out.size))
            clear hB
            go_wp2_with fail
            refine (C5.out _ _ _ R2.out (HS.out.below HB.out (Nat.le_refl _))).mono ?_
            rintro e w7 ⟨rfl, hB⟩
            have R1 := Lib.hid (R1.out.below hB (Nat.le_refl _))
            have R2 := Lib.hid (R2.out.below hB (Nat.le_refl _))
            have R3 := Lib.hid (R3.out.below hB (Nat.le_refl _))
            have R4 := Lib.hid (R4.out.below hB (Nat.le_refl _))
            have HB := Lib.hid (HB.out.trans (hB.mono HB.out.size))
            clear hB
            go_wp2_with fail
            refine (known6_true _ ).mono ?_
            rintro e w8 ⟨rfl, hB⟩
            have R1 := Lib.hid (R1.out.below hB (Nat.le_refl _))
            have R2 := Lib.hid (R2.out.below hB (Nat.le_refl _))
            have R3 := Lib.hid (R3.out.below hB (Nat.le_refl _))
            have R4 := Lib.hid (R4.out.below hB (Nat.le_refl _))
            have HB := Lib.hid (HB.out.trans (hB.mono HB.out.size))
            clear hB
            go_wp2_with fail
            go_ret
            exact ⟨rfl, HB.out⟩
          · go_enter Try.func14, Try.ntmps14
            go_wp2_with fail
            refine (HL.out _).mono ?_
            rintro e w0 ⟨rfl, rfl⟩
            go_wp2_with fail
            refine (HG.out _).mono ?_
            rintro e w0 ⟨rfl, rfl⟩
            go_wp2_with fail
            refine (C1.out _ HA.out).mono ?_
            rintro e w1 ⟨x1, y1, k1, j1, rfl, r1, r2, hB⟩
            have HB := Lib.hid hB
            have R1 := Lib.hid (r1)
            have R2 := Lib.hid (r2)
            clear hB r1 r2
            go_wp2_with fail
            refine (C2.out _ (HA.out.below HB.out (Nat.le_refl _))).mono ?_
            rintro e w2 ⟨x2, y2, k2, j2, rfl, r1, r2, hB⟩
            have R1 := Lib.hid (R1.out.below hB (Nat.le_refl _))
            have R2 := Lib.hid (R2.out.below hB (Nat.le_refl _))
            have HB := Lib.hid (HB.out.trans (hB.mono HB.out.size))
            have R3 := Lib.hid (r1)
            have R4 := Lib.hid (r2)
            clear hB r1 r2
            go_wp2_with fail
            refine (sameG_self 4 _ _ _ _ _ _ HLx.out R1.out R3.out (by omega)).mono ?_
            rintro e w3 ⟨rfl, hB⟩
            have R1 := Lib.hid (R1.out.below hB (Nat.le_refl _))
            have R2 := Lib.hid (R2.out.below hB (Nat.le_refl _))
            have R3 := Lib.hid (R3.out.below hB (Nat.le_refl _))
            have R4 := Lib.hid (R4.out.below hB (Nat.le_refl _))
            have HB := Lib.hid (HB.out.trans (hB.mono HB.out.size))
            clear hB
            go_wp2_with fail
            refine (sameG_self 4 _ _ _ _ _ _ HLy.out R2.out R4.out (by omega)).mono ?_
            rintro e w4 ⟨rfl, hB⟩
            have R1 := Lib.hid (R1.out.below hB (Nat.le_refl _))
            have R2 := Lib.hid (R2.out.below hB (Nat.le_refl _))
            have R3 := Lib.hid (R3.out.below hB (Nat.le_refl _))
            have R4 := Lib.hid (R4.out.below hB (Nat.le_refl _))
            have HB := Lib.hid (HB.out.trans (hB.mono HB.out.size))
            clear hB
            go_wp2_with fail
            refine (C3.out _ (HA.out.below HB.out (Nat.le_refl _)) (HS.out.below HB.out (Nat.le_refl _))).mono ?_
            rintro e w5 ⟨rfl, hB⟩
            have R1 := Lib.hid (R1.out.below hB (Nat.le_refl _))
            have R2 := Lib.hid (R2.out.below hB (Nat.le_refl _))
            have R3 := Lib.hid (R3.out.below hB (Nat.le_refl _))
            have R4 := Lib.hid (R4.out.below hB (Nat.le_refl _))
            have HB := Lib.hid (HB.out.trans (hB.mono HB.out.size))
            clear hB
            go_wp2_with fail
            refine (C4.out _ _ _ R1.out (HS.out.below HB.out (Nat.le_refl _))).mono ?_
            rintro e w6 ⟨rfl, hB⟩
            have R1 := Lib.hid (R1.out.below hB (Nat.le_refl _))
            have R2 := Lib.hid (R2.out.below hB (Nat.le_refl _))
            have R3 := Lib.hid (R3.out.below hB (Nat.le_refl _))
            have R4 := Lib.hid (R4.out.below hB (Nat.le_refl _))
            have HB := Lib.hid (HB.out.trans (hB.mono HB.out.size))
            clear hB
            go_wp2_with fail
            refine (C5.out _ _ _ R2.out (HS.out.below HB.out (Nat.le_refl _))).mono ?_
            rintro e w7 ⟨rfl, hB⟩
            have R1 := Lib.hid (R1.out.below hB (Nat.le_refl _))
            have R2 := Lib.hid (R2.out.below hB (Nat.le_refl _))
            have R3 := Lib.hid (R3.out.below hB (Nat.le_refl _))
            have R4 := Lib.hid (R4.out.below hB (Nat.le_refl _))
            have HB := Lib.hid (HB.out.trans (hB.mono HB.out.size))
            clear hB
            go_wp2_with fail
            refine (known6_true _ ).mono ?_
            rintro e w8 ⟨rfl, hB⟩
            have R1 := Lib.hid (R1.out.below hB (Nat.le_refl _))
            have R2 := Lib.hid (R2.out.below hB (Nat.le_refl _))
            have R3 := Lib.hid (R3.out.below hB (Nat.le_refl _))
            have R4 := Lib.hid (R4.out.below hB (Nat.le_refl _))
            have HB := Lib.hid (HB.out.trans (hB.mono HB.out.size))
            clear hB
            go_wp2_with fail
            go_ret
            exact ⟨rfl, HB.out⟩
        · cases Q
          · go_enter Try.func14, Try.ntmps14
            go_wp2_with fail
            refine (HL.out _).mono ?_
            rintro e w0 ⟨rfl, rfl⟩
            go_wp2_with fail
            refine (HG.out _).mono ?_
            rintro e w0 ⟨rfl, rfl⟩
            go_wp2_with fail
            refine (C1.out _ HA.out).mono ?_
            rintro e w1 ⟨x1, y1, k1, j1, rfl, r1, r2, hB⟩
            have HB := Lib.hid hB
            have R1 := Lib.hid (r1)
            have R2 := Lib.hid (r2)
            clear hB r1 r2
            go_wp2_with fail
            refine (C2.out _ (HA.out.below HB.out (Nat.le_refl _))).mono ?_
            rintro e w2 ⟨x2, y2, k2, j2, rfl, r1, r2, hB⟩
            have R1 := Lib.hid (R1.out.below hB (Nat.le_refl _))
            have R2 := Lib.hid (R2.out.below hB (Nat.le_refl _))
            have HB := Lib.hid (HB.out.trans (hB.mono HB.out.size))
            have R3 := Lib.hid (r1)
            have R4 := Lib.hid (r2)
            clear hB r1 r2
            go_wp2_with fail
            refine (sameG_self 4 _ _ _ _ _ _ HLx.out R1.out R3.out (by omega)).mono ?_
            rintro e w3 ⟨rfl, hB⟩
            have R1 := Lib.hid (R1.out.below hB (Nat.le_refl _))
            have R2 := Lib.hid (R2.out.below hB (Nat.le_refl _))
            have R3 := Lib.hid (R3.out.below hB (Nat.le_refl _))
            have R4 := Lib.hid (R4.out.below hB (Nat.le_refl _))
            have HB := Lib.hid (HB.out.trans (hB.mono HB.out.size))
            clear hB
            go_wp2_with fail
            refine (sameG_self 4 _ _ _ _ _ _ HLy.out R2.out R4.out (by omega)).mono ?_
            rintro e w4 ⟨rfl, hB⟩
            have R1 := Lib.hid (R1.out.below hB (Nat.le_refl _))
            have R2 := Lib.hid (R2.out.below hB (Nat.le_refl _))
            have R3 := Lib.hid (R3.out.below hB (Nat.le_refl _))
            have R4 := Lib.hid (R4.out.below hB (Nat.le_refl _))
            have HB := Lib.hid (HB.out.trans (hB.mono HB.out.size))
            clear hB
            go_wp2_with fail
            refine (C3.out _ (HA.out.below HB.out (Nat.le_refl _)) (HS.out.below HB.out (Nat.le_refl _))).mono ?_
            rintro e w5 ⟨rfl, hB⟩
            have R1 := Lib.hid (R1.out.below hB (Nat.le_refl _))
            have R2 := Lib.hid (R2.out.below hB (Nat.le_refl _))
            have R3 := Lib.hid (R3.out.below hB (Nat.le_refl _))
            have R4 := Lib.hid (R4.out.below hB (Nat.le_refl _))
            have HB := Lib.hid (HB.out.trans (hB.mono HB.out.size))
            clear hB
            go_wp2_with fail
            refine (C4.out _ _ _ R1.out (HS.out.below HB.out (Nat.le_refl _))).mono ?_
            rintro e w6 ⟨rfl, hB⟩
            have R1 := Lib.hid (R1.out.below hB (Nat.le_refl _))
            have R2 := Lib.hid (R2.out.below hB (Nat.le_refl _))
            have R3 := Lib.hid (R3.out.below hB (Nat.le_refl _))
            have R4 := Lib.hid (R4.out.below hB (Nat.le_refl _))
            have HB := Lib.hid (HB.out.trans (hB.mono HB.out.size))
            clear hB
            go_wp2_with fail
            refine (C5.out _ _ _ R2.out (HS.out.below HB.out (Nat.le_refl _))).mono ?_
            rintro e w7 ⟨rfl, hB⟩
            have R1 := Lib.hid (R1.out.below hB (Nat.le_refl _))
            have R2 := Lib.hid (R2.out.below hB (Nat.le_refl _))
            have R3 := Lib.hid (R3.out.below hB (Nat.le_refl _))
            have R4 := Lib.hid (R4.out.below hB (Nat.le_refl _))
            have HB := Lib.hid (HB.out.trans (hB.mono HB.out.size))
            clear hB
            go_wp2_with fail
            refine (known6_true _ ).mono ?_
            rintro e w8 ⟨rfl, hB⟩
            have R1 := Lib.hid (R1.out.below hB (Nat.le_refl _))
            have R2 := Lib.hid (R2.out.below hB (Nat.le_refl _))
            have R3 := Lib.hid (R3.out.below hB (Nat.le_refl _))
            have R4 := Lib.hid (R4.out.below hB (Nat.le_refl _))
            have HB := Lib.hid (HB.out.trans (hB.mono HB.out.size))
            clear hB
            go_wp2_with fail
            go_ret
            exact ⟨rfl, HB.out⟩
          · cases m2
      · rcases Bool.eq_false_or_eq_true (hvC b r != 0) with n1 | n1
        · have n1' : (hvC b r == 0) = false := by simpa using n1
          have n3 : (hvC b r != hvC b r) = false := by simp
          have l12 : (hvL b r).length ≤ 4 ∧ (hvH b r).length ≤ 4 := by
            by_cases hq : hvC b r = 0
            · have hvb : vb b = 0 := by
                rcases vb_cases b with h | h
                · exact h
                · unfold hvC fe at hq; rw [h] at hq; simp at hq
              have := (vb_ok hvb).l4
              unfold hvL hvH loH hiH
              rw [if_pos hq, if_pos hq, List.length_set, List.length_set]; omega
            · unfold hvL hvH; rw [if_neg hq, if_neg hq]; exact ⟨by simp, by simp⟩
          obtain ⟨l1, l2⟩ := l12
          generalize hLL : hvL b r = bl at *
          generalize hHH : hvH b r = bh at *
          clear hLL hHH
          have HLx : Hid (bl.length = bl.length) := Lib.hid rfl
          have HLy : Hid (bh.length = bh.length) := Lib.hid rfl
          generalize hvC b r = E1 at *
          generalize fe (vb b) (vs s) = E2 at *
          generalize hasA b s = M at *
          clear hz e1 e2 h1 h2 hb hs hc
          go_enter Try.func14, Try.ntmps14
          go_wp2_with fail
          refine (HL.out _).mono ?_
          rintro e w0 ⟨rfl, rfl⟩
          go_wp2_with fail
          refine (HG.out _).mono ?_
          rintro e w0 ⟨rfl, rfl⟩
          go_wp2_with fail
          refine (C1.out _ HA.out).mono ?_
          rintro e w1 ⟨x1, y1, k1, j1, rfl, r1, r2, hB⟩
          have HB := Lib.hid hB
          have R1 := Lib.hid (r1)
          have R2 := Lib.hid (r2)
          clear hB r1 r2
          go_wp2_with fail
          refine (C2.out _ (HA.out.below HB.out (Nat.le_refl _))).mono ?_
          rintro e w2 ⟨x2, y2, k2, j2, rfl, r1, r2, hB⟩
          have R1 := Lib.hid (R1.out.below hB (Nat.le_refl _))
          have R2 := Lib.hid (R2.out.below hB (Nat.le_refl _))
          have HB := Lib.hid (HB.out.trans (hB.mono HB.out.size))
          have R3 := Lib.hid (r1)
          have R4 := Lib.hid (r2)
          clear hB r1 r2
          go_wp2_with fail
          refine (sameG_self bl.length _ _ _ _ _ _ rfl R1.out R3.out (by omega)).mono ?_
          rintro e w3 ⟨rfl, hB⟩
          have R1 := Lib.hid (R1.out.below hB (Nat.le_refl _))
          have R2 := Lib.hid (R2.out.below hB (Nat.le_refl _))
          have R3 := Lib.hid (R3.out.below hB (Nat.le_refl _))
          have R4 := Lib.hid (R4.out.below hB (Nat.le_refl _))
          have HB := Lib.hid (HB.out.trans (hB.mono HB.out.size))
          clear hB
          go_wp2_with fail
          refine (sameG_self bh.length _ _ _ _ _ _ rfl R2.out R4.out (by omega)).mono ?_
          rintro e w4 ⟨rfl, hB⟩
          have R1 := Lib.hid (R1.out.below hB (Nat.le_refl _))
          have R2 := Lib.hid (R2.out.below hB (Nat.le_refl _))
          have R3 := Lib.hid (R3.out.below hB (Nat.le_refl _))
          have R4 := Lib.hid (R4.out.below hB (Nat.le_refl _))
          have HB := Lib.hid (HB.out.trans (hB.mono HB.out.size))
          clear hB
          go_wp2_with fail
          refine (C3.out _ (HA.out.below HB.out (Nat.le_refl _)) (HS.out.below HB.out (Nat.le_refl _))).mono ?_
          rintro e w5 ⟨rfl, hB⟩
          have R1 := Lib.hid (R1.out.below hB (Nat.le_refl _))
          have R2 := Lib.hid (R2.out.below hB (Nat.le_refl _))
          have R3 := Lib.hid (R3.out.below hB (Nat.le_refl _))
          have R4 := Lib.hid (R4.out.below hB (Nat.le_refl _))
          have HB := Lib.hid (HB.out.trans (hB.mono HB.out.size))
          clear hB
          go_wp2_with fail
          refine (known6_true _ ).mono ?_
          rintro e w6 ⟨rfl, hB⟩
          have R1 := Lib.hid (R1.out.below hB (Nat.le_refl _))
          have R2 := Lib.hid (R2.out.below hB (Nat.le_refl _))
          have R3 := Lib.hid (R3.out.below hB (Nat.le_refl _))
          have R4 := Lib.hid (R4.out.below hB (Nat.le_refl _))
          have HB := Lib.hid (HB.out.trans (hB.mono HB.out.size))
          clear hB
          go_wp2_with fail
          go_ret
          exact ⟨rfl, HB.out⟩
        · have m1 : hvC b r = 0 := by simpa using n1
          have n2 : (fe (vb b) (vs s) != 0) = true := by
            simp only [bne_iff_ne, ne_eq]; exact fun h => hz ⟨m1, h⟩
          have n2' : (fe (vb b) (vs s) == 0) = false := by simpa using n2
          have l12 : (hvL b r).length ≤ 4 ∧ (hvH b r).length ≤ 4 := by
            by_cases hq : hvC b r = 0
            · have hvb : vb b = 0 := by
                rcases vb_cases b with h | h
                · exact h
                · unfold hvC fe at hq; rw [h] at hq; simp at hq
              have := (vb_ok hvb).l4
              unfold hvL hvH loH hiH
              rw [if_pos hq, if_pos hq, List.length_set, List.length_set]; omega
            · unfold hvL hvH; rw [if_neg hq, if_neg hq]; exact ⟨by simp, by simp⟩
          obtain ⟨l1, l2⟩ := l12
          generalize hLL : hvL b r = bl at *
          generalize hHH : hvH b r = bh at *
          clear hLL hHH
          have HLx : Hid (bl.length = bl.length) := Lib.hid rfl
          have HLy : Hid (bh.length = bh.length) := Lib.hid rfl
          rw [m1] at C1 C2
          generalize fe (vb b) (vs s) = E2 at *
          generalize hasA b s = M at *
          clear hz m1 n1 e1 e2 h1 h2 hb hs hc
          go_enter Try.func14, Try.ntmps14
          go_wp2_with fail
          refine (HL.out _).mono ?_
          rintro e w0 ⟨rfl, rfl⟩
          go_wp2_with fail
          refine (HG.out _).mono ?_
          rintro e w0 ⟨rfl, rfl⟩
          go_wp2_with fail
          refine (C1.out _ HA.out).mono ?_
          rintro e w1 ⟨x1, y1, k1, j1, rfl, r1, r2, hB⟩
          have HB := Lib.hid hB
          have R1 := Lib.hid (r1)
          have R2 := Lib.hid (r2)
          clear hB r1 r2
          go_wp2_with fail
          refine (C2.out _ (HA.out.below HB.out (Nat.le_refl _))).mono ?_
          rintro e w2 ⟨x2, y2, k2, j2, rfl, r1, r2, hB⟩
          have R1 := Lib.hid (R1.out.below hB (Nat.le_refl _))
          have R2 := Lib.hid (R2.out.below hB (Nat.le_refl _))
          have HB := Lib.hid (HB.out.trans (hB.mono HB.out.size))
          have R3 := Lib.hid (r1)
          have R4 := Lib.hid (r2)
          clear hB r1 r2
          go_wp2_with fail
          refine (sameG_self bl.length _ _ _ _ _ _ rfl R1.out R3.out (by omega)).mono ?_
          rintro e w3 ⟨rfl, hB⟩
          have R1 := Lib.hid (R1.out.below hB (Nat.le_refl _))
          have R2 := Lib.hid (R2.out.below hB (Nat.le_refl _))
          have R3 := Lib.hid (R3.out.below hB (Nat.le_refl _))
          have R4 := Lib.hid (R4.out.below hB (Nat.le_refl _))
          have HB := Lib.hid (HB.out.trans (hB.mono HB.out.size))
          clear hB
          go_wp2_with fail
          refine (sameG_self bh.length _ _ _ _ _ _ rfl R2.out R4.out (by omega)).mono ?_
          rintro e w4 ⟨rfl, hB⟩
          have R1 := Lib.hid (R1.out.below hB (Nat.le_refl _))
          have R2 := Lib.hid (R2.out.below hB (Nat.le_refl _))
          have R3 := Lib.hid (R3.out.below hB (Nat.le_refl _))
          have R4 := Lib.hid (R4.out.below hB (Nat.le_refl _))
          have HB := Lib.hid (HB.out.trans (hB.mono HB.out.size))
          clear hB
          go_wp2_with fail
          refine (C3.out _ (HA.out.below HB.out (Nat.le_refl _)) (HS.out.below HB.out (Nat.le_refl _))).mono ?_
          rintro e w5 ⟨rfl, hB⟩
          have R1 := Lib.hid (R1.out.below hB (Nat.le_refl _))
          have R2 := Lib.hid (R2.out.below hB (Nat.le_refl _))
          have R3 := Lib.hid (R3.out.below hB (Nat.le_refl _))
          have R4 := Lib.hid (R4.out.below hB (Nat.le_refl _))
          have HB := Lib.hid (HB.out.trans (hB.mono HB.out.size))
          clear hB
          go_wp2_with fail
          refine (known6_true _ ).mono ?_
          rintro e w6 ⟨rfl, hB⟩
          have R1 := Lib.hid (R1.out.below hB (Nat.le_refl _))
          have R2 := Lib.hid (R2.out.below hB (Nat.le_refl _))
          have R3 := Lib.hid (R3.out.below hB (Nat.le_refl _))
          have R4 := Lib.hid (R4.out.below hB (Nat.le_refl _))
          have HB := Lib.hid (HB.out.trans (hB.mono HB.out.size))
          clear hB
          go_wp2_with fail
          go_ret
          exact ⟨rfl, HB.out⟩

end Go.Proofs.Ytmpghapfldjfeaa
