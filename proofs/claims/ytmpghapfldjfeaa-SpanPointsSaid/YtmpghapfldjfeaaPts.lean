/- SpanPoints: the walk. -/
import Derived.Test.YtmpghapfldjfeaaSpM
import Derived.Test.YtmpghapfldjfeaaSrF
import Derived.Test.YtmpghapfldjfeaaRunC
set_option linter.unusedVariables false
set_option linter.unusedSimpArgs false
namespace Go.Proofs.Ytmpghapfldjfeaa
open Go.RowKit Tinker

set_option maxRecDepth 100000 in
set_option maxHeartbeats 8000000 in
theorem spanPoints_walk (g : Option Addr) (cg : Nat) (ps : List L) (a2 : Option Addr) (c2 : Nat) (s : List Int) (w : World) (hp : LinesAt w g ps) (hc : g = none → cg = 0) (hs : IntsAt w a2 s) (hd : a2 = none → c2 = 0) :
    Calls Try.prog 6 #[.slice g ps.length cg, .slice a2 s.length c2] w fun e w' => e = .returned (.bool true) ∧ Below w.heap.size w w' := by
  clear hc hd
  by_cases h1 : 100 < ps.length
  · have e1 : decide ((100 : Int) < (ps.length : Int)) = true := decide_eq_true (by omega)
    have HL := Lib.hid (fun w => long_any g ps.length cg w)
    rw [e1] at HL
    clear h1 e1 hp hs
    go_enter Try.func6, Try.ntmps6
    go_wp2_with fail
    refine (HL.out _).mono ?_
    rintro e w0 ⟨rfl, rfl⟩
    go_wp2_with fail
    refine (known6_true _ ).mono ?_
    rintro e w1 ⟨rfl, hB⟩
    have HB := Lib.hid hB
    clear hB
    go_wp2_with fail
    go_ret
    exact ⟨rfl, HB.out⟩
  · have e1 : decide ((100 : Int) < (ps.length : Int)) = false := decide_eq_false (by omega)
    have HL := Lib.hid (fun w => long_any g ps.length cg w)
    rw [e1] at HL
    by_cases h2 : 100 < s.length
    · have e2 : decide ((100 : Int) < (s.length : Int)) = true := decide_eq_true (by omega)
      have HG := Lib.hid (fun w => large6_any a2 s.length c2 w)
      rw [e2] at HG
      clear h1 e1 h2 e2 hp hs
      go_enter Try.func6, Try.ntmps6
      go_wp2_with fail
      refine (HL.out _).mono ?_
      rintro e w0 ⟨rfl, rfl⟩
      go_wp2_with fail
      refine (HG.out _).mono ?_
      rintro e w0 ⟨rfl, rfl⟩
      go_wp2_with fail
      refine (known6_true _ ).mono ?_
      rintro e w1 ⟨rfl, hB⟩
      have HB := Lib.hid hB
      clear hB
      go_wp2_with fail
      go_ret
      exact ⟨rfl, HB.out⟩
    · have e2 : decide ((100 : Int) < (s.length : Int)) = false := decide_eq_false (by omega)
      have HG := Lib.hid (fun w => large6_any a2 s.length c2 w)
      rw [e2] at HG
      have C1 := Lib.hid (fun w h1 => sPoint_any a2 c2 s w h1 (by omega))
      have C2 := Lib.hid (fun w h1 => rPoint6_any a2 c2 s w h1)
      have C3 := Lib.hid (fun w h1 h2 => run_any g a2 cg c2 ps s w h1 h2 (by omega))
      have HP := Lib.hid hp
      have HS := Lib.hid hs
      unfold GivesRgE at C1 C2
      unfold GivesIntsE at C3
      have hpl : (pointA s).length ≤ 100 := by
        unfold pointA
        split
        · rw [ptB_len]; omega
        · simp
      have HPL := Lib.hid hpl
      by_cases hz : vr ps s = 0
      · obtain ⟨vpz, vsz⟩ := vr_ok hz
        have hv := (vp_ok vpz).2
        have hso := vs_ok vsz
        have hRo := runE_ok hz
        have qp : pointA s = ptB s := by unfold pointA; rw [if_pos vsz]
        have vb1 : vb (ptB s) = 0 := vb_ok' (okB_pt hso)
        have z4 : fe (vp ps) (vb (ptB s)) = 0 := by rw [vpz, vb1]; rfl
        have qa : afA ps (ptB s) = ptB (runE ps s) := by unfold afA; rw [if_pos z4]; exact end_pt hv hso
        have qr : runL ps s = runE ps s := by unfold runL; rw [if_pos hz]
        have vs2 : vs (runE ps s) = 0 := vs_ok' hRo.1 hRo.2
        have qo : pointA (runE ps s) = ptB (runE ps s) := by unfold pointA; rw [if_pos vs2]
        have C4 := Lib.hid (fun x1 k1 w h1 h2 => sAfter_any g x1 cg k1 ps (ptB s) w h1 h2)
        have C5 := Lib.hid (fun x k w h1 => sPoint_any x k (runE ps s) w h1 (by rw [hRo.1]; omega))
        unfold GivesRgE at C4 C5
        rw [qa, z4] at C4
        rw [qo, vs2] at C5
        rw [hz, qr, hRo.1] at C3
        have l1 : (ptB s).length = 4 := by rw [ptB_len]; exact hso.1
        have l2 : (ptB (runE ps s)).length = 4 := by rw [ptB_len]; exact hRo.1
        rw [qp, vsz, l1] at C1 C2
        rw [l1, l2] at C4
        rw [hRo.1, l2] at C5
        have HLx := Lib.hid l1
        have HLy := Lib.hid l2
        have HPL : Hid (4 ≤ 100) := Lib.hid (by decide)
        generalize ptB (runE ps s) = bo at *
        generalize ptB s = bi at *
        generalize runE ps s = RE at *
        clear hz vpz vsz hv hso hRo qp vb1 z4 qa qr vs2 qo l1 l2 e1 e2 h1 h2 hp hs hpl
        go_enter Try.func6, Try.ntmps6
        go_wp2_with fail
        refine (HL.out _).mono ?_
        rintro e w0 ⟨rfl, rfl⟩
        go_wp2_with fail
        refine (HG.out _).mono ?_
        rintro e w0 ⟨rfl, rfl⟩
        go_wp2_with fail
        refine (C1.out _ HS.out).mono ?_
        rintro e w1 ⟨x1, k1, rfl, ho, hB⟩
        have HB := Lib.hid hB
        have R1 := Lib.hid ((ranges_of_own ho).1)
        clear hB ho
        go_wp2_with fail
        refine (C2.out _ (HS.out.below HB.out (Nat.le_refl _))).mono ?_
        rintro e w2 ⟨x2, k2, rfl, ho, hB⟩
        have R1 := Lib.hid (R1.out.below hB (Nat.le_refl _))
        have HB := Lib.hid (HB.out.trans (hB.mono HB.out.size))
        have R2 := Lib.hid ((ranges_of_own ho).1)
        clear hB ho
        go_wp2_with fail
        refine (sameG_self 4 _ _ _ _ _ _ HLx.out R1.out R2.out (by have := HPL.out; omega)).mono ?_
        rintro e w3 ⟨rfl, hB⟩
        have R1 := Lib.hid (R1.out.below hB (Nat.le_refl _))
        have R2 := Lib.hid (R2.out.below hB (Nat.le_refl _))
        have HB := Lib.hid (HB.out.trans (hB.mono HB.out.size))
        clear hB
        go_wp2_with fail
        refine (C3.out _ (HP.out.below HB.out (Nat.le_refl _)) (HS.out.below HB.out (Nat.le_refl _))).mono ?_
        rintro e w4 ⟨x3, k3, rfl, ho, hB⟩
        have R1 := Lib.hid (R1.out.below hB (Nat.le_refl _))
        have R2 := Lib.hid (R2.out.below hB (Nat.le_refl _))
        have HB := Lib.hid (HB.out.trans (hB.mono HB.out.size))
        have R3 := Lib.hid ((ints_of_own ho).1)
        clear hB ho
        go_wp2_with fail
        refine (C4.out _ _ _ (HP.out.below HB.out (Nat.le_refl _)) R1.out).mono ?_
        rintro e w5 ⟨x4, k4, rfl, ho, hB⟩
        have R1 := Lib.hid (R1.out.below hB (Nat.le_refl _))
        have R2 := Lib.hid (R2.out.below hB (Nat.le_refl _))
        have R3 := Lib.hid (R3.out.below hB (Nat.le_refl _))
        have HB := Lib.hid (HB.out.trans (hB.mono HB.out.size))
        have R4 := Lib.hid ((ranges_of_own ho).1)
        clear hB ho
        go_wp2_with fail
        refine (C5.out _ _ _ R3.out).mono ?_
        rintro e w6 ⟨x5, k5, rfl, ho, hB⟩
        have R1 := Lib.hid (R1.out.below hB (Nat.le_refl _))
        have R2 := Lib.hid (R2.out.below hB (Nat.le_refl _))
        have R3 := Lib.hid (R3.out.below hB (Nat.le_refl _))
        have R4 := Lib.hid (R4.out.below hB (Nat.le_refl _))
        have HB := Lib.hid (HB.out.trans (hB.mono HB.out.size))
        have R5 := Lib.hid ((ranges_of_own ho).1)
        clear hB ho
        go_wp2_with fail
        refine (sameG_self 4 _ _ _ _ _ _ HLy.out R4.out R5.out (by omega)).mono ?_
        rintro e w7 ⟨rfl, hB⟩
        have R1 := Lib.hid (R1.out.below hB (Nat.le_refl _))
        have R2 := Lib.hid (R2.out.below hB (Nat.le_refl _))
        have R3 := Lib.hid (R3.out.below hB (Nat.le_refl _))
        have R4 := Lib.hid (R4.out.below hB (Nat.le_refl _))
        have R5 := Lib.hid (R5.out.below hB (Nat.le_refl _))
        have HB := Lib.hid (HB.out.trans (hB.mono HB.out.size))
        clear hB
        go_wp2_with fail
        refine (known6_true _ ).mono ?_
        rintro e w8 ⟨rfl, hB⟩
        have R1 := Lib.hid (R1.out.below hB (Nat.le_refl _))
        have R2 := Lib.hid (R2.out.below hB (Nat.le_refl _))
        have R3 := Lib.hid (R3.out.below hB (Nat.le_refl _))
        have R4 := Lib.hid (R4.out.below hB (Nat.le_refl _))
        have R5 := Lib.hid (R5.out.below hB (Nat.le_refl _))
        have HB := Lib.hid (HB.out.trans (hB.mono HB.out.size))
        clear hB
        go_wp2_with fail
        go_ret
        exact ⟨rfl, HB.out⟩
      · have n1 : (vr ps s != 0) = true := by simpa using hz
        have n2 : (vs s != vs s) = false := by simp
        generalize vr ps s = E1 at *
        generalize vs s = E2 at *
        generalize pointA s = M at *
        clear hz e1 e2 h1 h2 hp hs hpl
        go_enter Try.func6, Try.ntmps6
        go_wp2_with fail
        refine (HL.out _).mono ?_
        rintro e w0 ⟨rfl, rfl⟩
        go_wp2_with fail
        refine (HG.out _).mono ?_
        rintro e w0 ⟨rfl, rfl⟩
        go_wp2_with fail
        refine (C1.out _ HS.out).mono ?_
        rintro e w1 ⟨x1, k1, rfl, ho, hB⟩
        have HB := Lib.hid hB
        have R1 := Lib.hid ((ranges_of_own ho).1)
        clear hB ho
        go_wp2_with fail
        refine (C2.out _ (HS.out.below HB.out (Nat.le_refl _))).mono ?_
        rintro e w2 ⟨x2, k2, rfl, ho, hB⟩
        have R1 := Lib.hid (R1.out.below hB (Nat.le_refl _))
        have HB := Lib.hid (HB.out.trans (hB.mono HB.out.size))
        have R2 := Lib.hid ((ranges_of_own ho).1)
        clear hB ho
        go_wp2_with fail
        refine (sameG_self M.length _ _ _ _ _ _ rfl R1.out R2.out (by have := HPL.out; omega)).mono ?_
        rintro e w3 ⟨rfl, hB⟩
        have R1 := Lib.hid (R1.out.below hB (Nat.le_refl _))
        have R2 := Lib.hid (R2.out.below hB (Nat.le_refl _))
        have HB := Lib.hid (HB.out.trans (hB.mono HB.out.size))
        clear hB
        go_wp2_with fail
        refine (C3.out _ (HP.out.below HB.out (Nat.le_refl _)) (HS.out.below HB.out (Nat.le_refl _))).mono ?_
        rintro e w4 ⟨x3, k3, rfl, ho, hB⟩
        have R1 := Lib.hid (R1.out.below hB (Nat.le_refl _))
        have R2 := Lib.hid (R2.out.below hB (Nat.le_refl _))
        have HB := Lib.hid (HB.out.trans (hB.mono HB.out.size))
        have R3 := Lib.hid ((ints_of_own ho).1)
        clear hB ho
        go_wp2_with fail
        refine (known6_true _ ).mono ?_
        rintro e w5 ⟨rfl, hB⟩
        have R1 := Lib.hid (R1.out.below hB (Nat.le_refl _))
        have R2 := Lib.hid (R2.out.below hB (Nat.le_refl _))
        have R3 := Lib.hid (R3.out.below hB (Nat.le_refl _))
        have HB := Lib.hid (HB.out.trans (hB.mono HB.out.size))
        clear hB
        go_wp2_with fail
        go_ret
        exact ⟨rfl, HB.out⟩

end Go.Proofs.Ytmpghapfldjfeaa
