/- SpanGrows: the walk. -/
import Derived.Test.YtmpghapfldjfeaaSpM
import Derived.Test.YtmpghapfldjfeaaSrA
set_option linter.unusedVariables false
set_option linter.unusedSimpArgs false
namespace Go.Proofs.Ytmpghapfldjfeaa
open Go.RowKit Tinker

set_option maxRecDepth 100000 in
set_option maxHeartbeats 8000000 in
theorem spanGrows_walk (g : Option Addr) (cg : Nat) (ps : List L) (a1 : Option Addr) (c1 : Nat) (a : List Rg) (a2 : Option Addr) (c2 : Nat) (b : List Rg) (w : World) (hp : LinesAt w g ps) (hcg : g = none → cg = 0) (ha : RangesAt w a1 a) (hc : a1 = none → c1 = 0) (hb : RangesAt w a2 b) (hd : a2 = none → c2 = 0) :
    Calls Try.prog 11 #[.slice g ps.length cg, .slice a1 a.length c1, .slice a2 b.length c2] w fun e w' => e = .returned (.bool true) ∧ Below w.heap.size w w' := by
  clear hc hd hcg
  by_cases h1 : 100 < ps.length
  · have e1 : decide ((100 : Int) < (ps.length : Int)) = true := decide_eq_true (by omega)
    have HL := Lib.hid (fun w => long_any g ps.length cg w)
    rw [e1] at HL
    clear h1 e1 hp ha hb
    go_enter Try.func11, Try.ntmps11
    go_wp2_with fail
    refine (HL.out _).mono ?_
    rintro e w0 ⟨rfl, rfl⟩
    go_wp2_with fail
    refine (known6_true _ ).mono ?_
    rintro e w1 ⟨rfl, hB⟩
    have HB := Lib.hid hB
    clear hB
    go_wp2_with fail
    go_ret
    exact ⟨rfl, HB.out⟩
  · have e1 : decide ((100 : Int) < (ps.length : Int)) = false := decide_eq_false (by omega)
    have HL := Lib.hid (fun w => long_any g ps.length cg w)
    rw [e1] at HL
    by_cases h2 : 100 < a.length
    · have e2 : decide ((100 : Int) < (a.length : Int)) = true := decide_eq_true (by omega)
      have HG1 := Lib.hid (fun w => long6_any a1 a.length c1 w)
      rw [e2] at HG1
      clear h1 e1 h2 e2 hp ha hb
      go_enter Try.func11, Try.ntmps11
      go_wp2_with fail
      refine (HL.out _).mono ?_
      rintro e w0 ⟨rfl, rfl⟩
      go_wp2_with fail
      refine (HG1.out _).mono ?_
      rintro e w0 ⟨rfl, rfl⟩
      go_wp2_with fail
      refine (known6_true _ ).mono ?_
      rintro e w1 ⟨rfl, hB⟩
      have HB := Lib.hid hB
      clear hB
      go_wp2_with fail
      go_ret
      exact ⟨rfl, HB.out⟩
    · have e2 : decide ((100 : Int) < (a.length : Int)) = false := decide_eq_false (by omega)
      have HG1 := Lib.hid (fun w => long6_any a1 a.length c1 w)
      rw [e2] at HG1
      by_cases h3 : 100 < b.length
      · have e3 : decide ((100 : Int) < (b.length : Int)) = true := decide_eq_true (by omega)
        have HG2 := Lib.hid (fun w => long6_any a2 b.length c2 w)
        rw [e3] at HG2
        clear h1 e1 h2 e2 h3 e3 hp ha hb
        go_enter Try.func11, Try.ntmps11
        go_wp2_with fail
        refine (HL.out _).mono ?_
        rintro e w0 ⟨rfl, rfl⟩
        go_wp2_with fail
        refine (HG1.out _).mono ?_
        rintro e w0 ⟨rfl, rfl⟩
        go_wp2_with fail
        refine (HG2.out _).mono ?_
        rintro e w0 ⟨rfl, rfl⟩
        go_wp2_with fail
        refine (known6_true _ ).mono ?_
        rintro e w1 ⟨rfl, hB⟩
        have HB := Lib.hid hB
        clear hB
        go_wp2_with fail
        go_ret
        exact ⟨rfl, HB.out⟩
      · have e3 : decide ((100 : Int) < (b.length : Int)) = false := decide_eq_false (by omega)
        have HG2 := Lib.hid (fun w => long6_any a2 b.length c2 w)
        rw [e3] at HG2
        have C1 := Lib.hid (fun w h1 h2 => sWithin_any a1 a2 c1 c2 a b w h1 h2)
        have C2 := Lib.hid (fun w h1 h2 => sAfter_any g a1 cg c1 ps a w h1 h2)
        have C3 := Lib.hid (fun w h1 h2 => sAfter_any g a2 cg c2 ps b w h1 h2)
        have HP := Lib.hid hp
        have HA := Lib.hid ha
        have HBX := Lib.hid hb
        by_cases hz : fe (vb a) (vb b) = 0 ∧ fe (vp ps) (vb a) = 0 ∧ withA a b = true
        · obtain ⟨z1, z2, z3⟩ := hz
          obtain ⟨va, vbz⟩ := fe_zero z1
          obtain ⟨vpz, _⟩ := fe_zero z2
          have z4 : fe (vp ps) (vb b) = 0 := by rw [vpz, vbz]; rfl
          have hsub : subB a b = true := by unfold withA at z3; rw [if_pos z1] at z3; exact z3
          have hv := (vp_ok vpz).2
          have ha' := vb_ok va
          have hb' := vb_ok vbz
          have hoa := end_ok hv ha'
          have hob := end_ok hv hb'
          have hmono := end_mono hv ha' hb' hsub
          have qa : afA ps a = endB ps a := by unfold afA; rw [if_pos z2]
          have qb : afA ps b = endB ps b := by unfold afA; rw [if_pos z4]
          have C4 := Lib.hid (fun x1 x2 k1 k2 w h1 h2 => sWithin_any x1 x2 k1 k2 (endB ps a) (endB ps b) w h1 h2)
          have w1 : withA (endB ps a) (endB ps b) = true := by unfold withA; rw [vb_ok' hoa, vb_ok' hob]; exact hmono
          rw [w1, vb_ok' hoa, vb_ok' hob] at C4
          have l1 := hoa.l4
          have l2 := hob.l4
          rw [l1, l2] at C4
          rw [z3, z1] at C1
          rw [qa, z2] at C2
          rw [qb, z4] at C3
          unfold GivesRgE at C2 C3
          rw [l1] at C2
          rw [l2] at C3
          generalize endB ps a = ya at *
          generalize endB ps b = yb at *
          clear z1 z2 z3 z4 va vbz vpz hsub hv ha' hb' hoa hob hmono qa qb w1 l1 l2 e1 e2 e3 h1 h2 h3 hp ha hb
          go_enter Try.func11, Try.ntmps11
          go_wp2_with fail
          refine (HL.out _).mono ?_
          rintro e w0 ⟨rfl, rfl⟩
          go_wp2_with fail
          refine (HG1.out _).mono ?_
          rintro e w0 ⟨rfl, rfl⟩
          go_wp2_with fail
          refine (HG2.out _).mono ?_
          rintro e w0 ⟨rfl, rfl⟩
          go_wp2_with fail
          refine (C1.out _ HA.out HBX.out).mono ?_
          rintro e w1 ⟨rfl, hB⟩
          have HB := Lib.hid hB
          clear hB
          go_wp2_with fail
          refine (C2.out _ (HP.out.below HB.out (Nat.le_refl _)) (HA.out.below HB.out (Nat.le_refl _))).mono ?_
          rintro e w2 ⟨x1, k1, rfl, ho, hB⟩
          have HB := Lib.hid (HB.out.trans (hB.mono HB.out.size))
          have R1 := Lib.hid ((ranges_of_own ho).1)
          clear hB ho
          go_wp2_with fail
          refine (C3.out _ (HP.out.below HB.out (Nat.le_refl _)) (HBX.out.below HB.out (Nat.le_refl _))).mono ?_
          rintro e w3 ⟨x2, k2, rfl, ho, hB⟩
          have R1 := Lib.hid (R1.out.below hB (Nat.le_refl _))
          have HB := Lib.hid (HB.out.trans (hB.mono HB.out.size))
          have R2 := Lib.hid ((ranges_of_own ho).1)
          clear hB ho
          go_wp2_with fail
          refine (C4.out _ _ _ _ _ R1.out R2.out).mono ?_
          rintro e w4 ⟨rfl, hB⟩
          have R1 := Lib.hid (R1.out.below hB (Nat.le_refl _))
          have R2 := Lib.hid (R2.out.below hB (Nat.le_refl _))
          have HB := Lib.hid (HB.out.trans (hB.mono HB.out.size))
          clear hB
          go_wp2_with fail
          refine (known6_true _ ).mono ?_
          rintro e w5 ⟨rfl, hB⟩
          have R1 := Lib.hid (R1.out.below hB (Nat.le_refl _))
          have R2 := Lib.hid (R2.out.below hB (Nat.le_refl _))
          have HB := Lib.hid (HB.out.trans (hB.mono HB.out.size))
          clear hB
          go_wp2_with fail
          go_ret
          exact ⟨rfl, HB.out⟩
        · have C1' := C1
          rcases Bool.eq_false_or_eq_true (fe (vb a) (vb b) != 0) with n1 | n1
          · have n1' : (fe (vb a) (vb b) == 0) = false := by simpa using n1
            generalize fe (vb a) (vb b) = E1 at *
            generalize fe (vp ps) (vb a) = E2 at *
            generalize fe (vp ps) (vb b) = E3 at *
            generalize withA a b = M at *
            clear hz e1 e2 e3 h1 h2 h3 hp ha hb C1'
            go_enter Try.func11, Try.ntmps11
            go_wp2_with fail
            refine (HL.out _).mono ?_
            rintro e w0 ⟨rfl, rfl⟩
            go_wp2_with fail
            refine (HG1.out _).mono ?_
            rintro e w0 ⟨rfl, rfl⟩
            go_wp2_with fail
            refine (HG2.out _).mono ?_
            rintro e w0 ⟨rfl, rfl⟩
            go_wp2_with fail
            refine (C1.out _ HA.out HBX.out).mono ?_
            rintro e w1 ⟨rfl, hB⟩
            have HB := Lib.hid hB
            clear hB
            go_wp2_with fail
            refine (C2.out _ (HP.out.below HB.out (Nat.le_refl _)) (HA.out.below HB.out (Nat.le_refl _))).mono ?_
            rintro e w2 ⟨x1, k1, rfl, ho, hB⟩
            have HB := Lib.hid (HB.out.trans (hB.mono HB.out.size))
            have R1 := Lib.hid ((ranges_of_own ho).1)
            clear hB ho
            go_wp2_with fail
            refine (C3.out _ (HP.out.below HB.out (Nat.le_refl _)) (HBX.out.below HB.out (Nat.le_refl _))).mono ?_
            rintro e w3 ⟨x2, k2, rfl, ho, hB⟩
            have R1 := Lib.hid (R1.out.below hB (Nat.le_refl _))
            have HB := Lib.hid (HB.out.trans (hB.mono HB.out.size))
            have R2 := Lib.hid ((ranges_of_own ho).1)
            clear hB ho
            go_wp2_with fail
            refine (known6_true _ ).mono ?_
            rintro e w4 ⟨rfl, hB⟩
            have R1 := Lib.hid (R1.out.below hB (Nat.le_refl _))
            have R2 := Lib.hid (R2.out.below hB (Nat.le_refl _))
            have HB := Lib.hid (HB.out.trans (hB.mono HB.out.size))
            clear hB
            go_wp2_with fail
            go_ret
            exact ⟨rfl, HB.out⟩
          · have m1 : fe (vb a) (vb b) = 0 := by simpa using n1
            obtain ⟨va, vbz⟩ := fe_zero m1
            rcases Bool.eq_false_or_eq_true (fe (vp ps) (vb a) != 0) with n2 | n2
            · have n2' : (fe (vp ps) (vb a) == 0) = false := by simpa using n2
              rw [m1] at C1
              generalize fe (vp ps) (vb a) = E2 at *
              generalize fe (vp ps) (vb b) = E3 at *
              generalize withA a b = M at *
              clear hz e1 e2 e3 h1 h2 h3 hp ha hb C1' n1 m1 va vbz
              go_enter Try.func11, Try.ntmps11
              go_wp2_with fail
              refine (HL.out _).mono ?_
              rintro e w0 ⟨rfl, rfl⟩
              go_wp2_with fail
              refine (HG1.out _).mono ?_
              rintro e w0 ⟨rfl, rfl⟩
              go_wp2_with fail
              refine (HG2.out _).mono ?_
              rintro e w0 ⟨rfl, rfl⟩
              go_wp2_with fail
              refine (C1.out _ HA.out HBX.out).mono ?_
              rintro e w1 ⟨rfl, hB⟩
              have HB := Lib.hid hB
              clear hB
              go_wp2_with fail
              refine (C2.out _ (HP.out.below HB.out (Nat.le_refl _)) (HA.out.below HB.out (Nat.le_refl _))).mono ?_
              rintro e w2 ⟨x1, k1, rfl, ho, hB⟩
              have HB := Lib.hid (HB.out.trans (hB.mono HB.out.size))
              have R1 := Lib.hid ((ranges_of_own ho).1)
              clear hB ho
              go_wp2_with fail
              refine (C3.out _ (HP.out.below HB.out (Nat.le_refl _)) (HBX.out.below HB.out (Nat.le_refl _))).mono ?_
              rintro e w3 ⟨x2, k2, rfl, ho, hB⟩
              have R1 := Lib.hid (R1.out.below hB (Nat.le_refl _))
              have HB := Lib.hid (HB.out.trans (hB.mono HB.out.size))
              have R2 := Lib.hid ((ranges_of_own ho).1)
              clear hB ho
              go_wp2_with fail
              refine (known6_true _ ).mono ?_
              rintro e w4 ⟨rfl, hB⟩
              have R1 := Lib.hid (R1.out.below hB (Nat.le_refl _))
              have R2 := Lib.hid (R2.out.below hB (Nat.le_refl _))
              have HB := Lib.hid (HB.out.trans (hB.mono HB.out.size))
              clear hB
              go_wp2_with fail
              go_ret
              exact ⟨rfl, HB.out⟩
            · have m2 : fe (vp ps) (vb a) = 0 := by simpa using n2
              have m3 : fe (vp ps) (vb b) = 0 := by rw [(fe_zero m2).1, vbz]; rfl
              have m4 : withA a b = false := by
                cases hw : withA a b
                · rfl
                · exact absurd ⟨m1, m2, hw⟩ hz
              rw [m1, m4] at C1
              rw [m2] at C2
              rw [m3] at C3
              clear hz e1 e2 e3 h1 h2 h3 hp ha hb C1' n1 m1 va vbz n2 m2 m3 m4
              go_enter Try.func11, Try.ntmps11
              go_wp2_with fail
              refine (HL.out _).mono ?_
              rintro e w0 ⟨rfl, rfl⟩
              go_wp2_with fail
              refine (HG1.out _).mono ?_
              rintro e w0 ⟨rfl, rfl⟩
              go_wp2_with fail
              refine (HG2.out _).mono ?_
              rintro e w0 ⟨rfl, rfl⟩
              go_wp2_with fail
              refine (C1.out _ HA.out HBX.out).mono ?_
              rintro e w1 ⟨rfl, hB⟩
              have HB := Lib.hid hB
              clear hB
              go_wp2_with fail
              refine (C2.out _ (HP.out.below HB.out (Nat.le_refl _)) (HA.out.below HB.out (Nat.le_refl _))).mono ?_
              rintro e w2 ⟨x1, k1, rfl, ho, hB⟩
              have HB := Lib.hid (HB.out.trans (hB.mono HB.out.size))
              have R1 := Lib.hid ((ranges_of_own ho).1)
              clear hB ho
              go_wp2_with fail
              refine (C3.out _ (HP.out.below HB.out (Nat.le_refl _)) (HBX.out.below HB.out (Nat.le_refl _))).mono ?_
              rintro e w3 ⟨x2, k2, rfl, ho, hB⟩
              have R1 := Lib.hid (R1.out.below hB (Nat.le_refl _))
              have HB := Lib.hid (HB.out.trans (hB.mono HB.out.size))
              have R2 := Lib.hid ((ranges_of_own ho).1)
              clear hB ho
              go_wp2_with fail
              refine (known6_true _ ).mono ?_
              rintro e w4 ⟨rfl, hB⟩
              have R1 := Lib.hid (R1.out.below hB (Nat.le_refl _))
              have R2 := Lib.hid (R2.out.below hB (Nat.le_refl _))
              have HB := Lib.hid (HB.out.trans (hB.mono HB.out.size))
              clear hB
              go_wp2_with fail
              go_ret
              exact ⟨rfl, HB.out⟩

end Go.Proofs.Ytmpghapfldjfeaa
