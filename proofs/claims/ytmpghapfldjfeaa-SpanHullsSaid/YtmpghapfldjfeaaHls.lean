/- SpanHulls: the walk. -/
import Derived.Test.YtmpghapfldjfeaaSpM
import Derived.Test.YtmpghapfldjfeaaSrC
set_option linter.unusedVariables false
set_option linter.unusedSimpArgs false
namespace Go.Proofs.Ytmpghapfldjfeaa
open Go.RowKit Tinker

set_option maxRecDepth 100000 in
set_option maxHeartbeats 8000000 in
theorem spanHulls_walk (a1 : Option Addr) (c1 : Nat) (a : List Rg) (a2 : Option Addr) (c2 : Nat) (b : List Rg) (w : World) (ha : RangesAt w a1 a) (hc : a1 = none → c1 = 0) (hb : RangesAt w a2 b) (hd : a2 = none → c2 = 0) :
    Calls Try.prog 4 #[.slice a1 a.length c1, .slice a2 b.length c2] w fun e w' => e = .returned (.bool true) ∧ Below w.heap.size w w' := by
  clear hd
  by_cases h1 : 100 < a.length
  · have e1 : decide ((100 : Int) < (a.length : Int)) = true := decide_eq_true (by omega)
    have HL1 := Lib.hid (fun w => long6_any a1 a.length c1 w)
    rw [e1] at HL1
    clear h1 e1 ha hb
    go_enter Try.func4, Try.ntmps4
    go_wp2_with fail
    refine (HL1.out _).mono ?_
    rintro e w0 ⟨rfl, rfl⟩
    go_wp2_with fail
    refine (known6_true _ ).mono ?_
    rintro e w1 ⟨rfl, hB⟩
    have HB := Lib.hid hB
    clear hB
    go_wp2_with fail
    go_ret
    exact ⟨rfl, HB.out⟩
  · have e1 : decide ((100 : Int) < (a.length : Int)) = false := decide_eq_false (by omega)
    have HL1 := Lib.hid (fun w => long6_any a1 a.length c1 w)
    rw [e1] at HL1
    by_cases h2 : 100 < b.length
    · have e2 : decide ((100 : Int) < (b.length : Int)) = true := decide_eq_true (by omega)
      have HL2 := Lib.hid (fun w => long6_any a2 b.length c2 w)
      rw [e2] at HL2
      clear h1 e1 h2 e2 ha hb
      go_enter Try.func4, Try.ntmps4
      go_wp2_with fail
      refine (HL1.out _).mono ?_
      rintro e w0 ⟨rfl, rfl⟩
      go_wp2_with fail
      refine (HL2.out _).mono ?_
      rintro e w0 ⟨rfl, rfl⟩
      go_wp2_with fail
      refine (known6_true _ ).mono ?_
      rintro e w1 ⟨rfl, hB⟩
      have HB := Lib.hid hB
      clear hB
      go_wp2_with fail
      go_ret
      exact ⟨rfl, HB.out⟩
    · have e2 : decide ((100 : Int) < (b.length : Int)) = false := decide_eq_false (by omega)
      have HL2 := Lib.hid (fun w => long6_any a2 b.length c2 w)
      rw [e2] at HL2
      have C1 := Lib.hid (fun x k w h1 h2 => sHull_any x a2 k c2 a b w h1 h2)
      have C2 := Lib.hid (fun w h1 h2 => rHull6_any a1 a2 c1 c2 a b w h1 h2)
      have C3 := Lib.hid (fun w h1 h2 => sWithin_any a1 a2 c1 c2 a b w h1 h2)
      have C4 := Lib.hid (fun w h1 h2 => rWithinB_any a1 a2 c1 c2 a b w h1 h2)
      have C5 := Lib.hid (fun x k w h1 h2 => sWithin_any a1 x c1 k a (hullA a b) w h1 h2)
      have C6 := Lib.hid (fun x k w h1 h2 => sWithin_any a2 x c2 k b (hullA a b) w h1 h2)
      have HA := Lib.hid ha
      have HX := Lib.hid hb
      have hla : a.length ≤ 100 := by omega
      unfold GivesRgE at C1 C2
      rcases fe_vb_cases a b with hz | hz
      · obtain ⟨z1, z2⟩ := fe_zero hz
        have ok1 := vb_ok z1
        have ok2 := vb_ok z2
        have okh := okB_hull ok1 ok2
        have hh : hullA a b = hullB a b := by unfold hullA; rw [if_pos hz]
        rw [show withA a (hullA a b) = true by rw [hh]; unfold withA; rw [z1, vb_ok' okh]; exact sub_hull1 ok1.l4 ok2.l4, hh, z1, vb_ok' okh, okh.l4] at C5
        rw [show withA b (hullA a b) = true by rw [hh]; unfold withA; rw [z2, vb_ok' okh]; exact sub_hull2 ok1.l4 ok2.l4, hh, z2, vb_ok' okh, okh.l4] at C6
        rw [hh, hz, okh.l4] at C1 C2
        rw [hz] at C3 C4
        have HLM := Lib.hid okh.l4
        have nm : (withA a b != withA a b) = false := by simp
        generalize hullB a b = hb4 at *
        generalize withA a b = M at *
        clear hz z1 z2 ok1 ok2 okh hh e1 e2 h1 h2 ha hb
        have hz0 : fe 0 0 = 0 := rfl
        rw [hz0] at C5 C6
        obtain ⟨i0, hi, hz0, hz1, hz2⟩ := info_parts info_range
        have hown := World.ownsRow_lit (base := w.heap.size) (e := 39) (size := 2) w #[] 0 (Nat.le_refl _) (by simp [maxLen]) (by simp)
        go_enter Try.func4, Try.ntmps4
        go_wp2_with fail
        refine (HL1.out _).mono ?_
        rintro e w0 ⟨rfl, rfl⟩
        go_wp2_with fail
        refine (HL2.out _).mono ?_
        rintro e w0 ⟨rfl, rfl⟩
        go_wp2_with (at_builtin; (refine wpList_append_rg rfl (.tmp 27) (.tmp 28) rfl w.heap.size _ [] rfl hown _ c1 a rfl (HA.out.below ((Below.refl _ _).alloc (Nat.le_refl _) _) (Nat.le_refl _)) hc (by simp; omega) (by simp) ?_))
        intro v0 wA OW HQ hown0 hgrow
        have HB0 := Lib.hid (hgrow w.heap.size _ ((Below.refl _ w).alloc (Nat.le_refl _) _) (Nat.le_refl _))
        have hOW : a = OW := HQ.out.symm
        subst hOW
        obtain ⟨x0, k0, rfl⟩ := own_slice hown0
        have R0 := Lib.hid (ranges_of_own hown0).1
        have HA1 := Lib.hid (HA.out.below HB0.out (Nat.le_refl _))
        have HX1 := Lib.hid (HX.out.below HB0.out (Nat.le_refl _))
        clear hown0 hgrow hown
        go_wp2_with fail
        refine (C1.out _ _ _ R0.out HX1.out).mono ?_
        rintro e w1 ⟨x1, k1, rfl, ho, hB⟩
        have HBA := Lib.hid hB
        have HO := Lib.hid ho
        have R1 := Lib.hid (ranges_of_own ho).1
        clear hB ho
        go_wp2_with fail
        refine (C2.out _ (HA1.out.below HBA.out (Nat.le_refl _)) (HX1.out.below HBA.out (Nat.le_refl _))).mono ?_
        rintro e w2 ⟨x2, k2, rfl, ho, hB⟩
        have HBA := Lib.hid (HBA.out.trans (hB.mono HBA.out.size))
        have HO := Lib.hid (own_below HO.out hB (Nat.le_refl _))
        have R1 := Lib.hid (R1.out.below hB (Nat.le_refl _))
        have R2 := Lib.hid (ranges_of_own ho).1
        clear ho
        clear hB
        go_wp2_with fail
        refine (C3.out _ (HA1.out.below HBA.out (Nat.le_refl _)) (HX1.out.below HBA.out (Nat.le_refl _))).mono ?_
        rintro e w3 ⟨rfl, hB⟩
        have HBA := Lib.hid (HBA.out.trans (hB.mono HBA.out.size))
        have HO := Lib.hid (own_below HO.out hB (Nat.le_refl _))
        have R1 := Lib.hid (R1.out.below hB (Nat.le_refl _))
        have R2 := Lib.hid (R2.out.below hB (Nat.le_refl _))
        clear hB
        go_wp2_with fail
        refine (C4.out _ (HA1.out.below HBA.out (Nat.le_refl _)) (HX1.out.below HBA.out (Nat.le_refl _))).mono ?_
        rintro e w4 ⟨rfl, hB⟩
        have HBA := Lib.hid (HBA.out.trans (hB.mono HBA.out.size))
        have HO := Lib.hid (own_below HO.out hB (Nat.le_refl _))
        have R1 := Lib.hid (R1.out.below hB (Nat.le_refl _))
        have R2 := Lib.hid (R2.out.below hB (Nat.le_refl _))
        clear hB
        go_wp2_with fail
        refine (sameG_self 4 _ _ _ _ _ _ HLM.out R1.out R2.out (by omega)).mono ?_
        rintro e w5 ⟨rfl, hB⟩
        have HBA := Lib.hid (HBA.out.trans (hB.mono HBA.out.size))
        have HO := Lib.hid (own_below HO.out hB (Nat.le_refl _))
        have R1 := Lib.hid (R1.out.below hB (Nat.le_refl _))
        clear hB
        go_wp2_with fail
        refine (C5.out _ _ _ (HA1.out.below HBA.out (Nat.le_refl _)) R1.out).mono ?_
        rintro e w6 ⟨rfl, hB⟩
        have HBA := Lib.hid (HBA.out.trans (hB.mono HBA.out.size))
        have HO := Lib.hid (own_below HO.out hB (Nat.le_refl _))
        have R1 := Lib.hid (R1.out.below hB (Nat.le_refl _))
        clear hB
        go_wp2_with fail
        refine (C6.out _ _ _ (HX1.out.below HBA.out (Nat.le_refl _)) R1.out).mono ?_
        rintro e w7 ⟨rfl, hB⟩
        have HBA := Lib.hid (HBA.out.trans (hB.mono HBA.out.size))
        have HO := Lib.hid (own_below HO.out hB (Nat.le_refl _))
        have R1 := Lib.hid (R1.out.below hB (Nat.le_refl _))
        clear hB
        go_wp2_with fail
        clear R1 R2
        go_loopw [19] (fun s19 wr => ∃ (k : Nat) (ys : List Rg), k ≤ 4 ∧ s19 = .int .i64 k ∧ wr.ownsRow wA.heap.size 39 2 (.slice x1 4 k1) 4 (gc ys) ∧ Below wA.heap.size wA wr) (fun s19 _ => 4 - (intOf s19).toNat)
        case atStart => exact ⟨0, _, Nat.zero_le _, rfl, HO.out, HBA.out⟩
        case round =>
          clear HO HBA
          obtain ⟨k, ys, hk, rfl, hO, hBr⟩ := hrel
          by_cases hlt : k < 4
          · obtain ⟨g1, rfl⟩ := own_form hO (by omega)
            have hly : ys.length = 4 := by have := hO.1; rw [gc_length] at this; omega
            obtain ⟨y, hy⟩ := get_of_lt (show k < ys.length by omega)
            obtain ⟨p0, p1⟩ := gc_get hy
            have y0 := own_cell hO p0
            have y1 := own_cell hO p1
            have f0 := own_free hO (k * 2)
            have f1 := own_free hO (k * 2 + 1)
            have HO2 := Lib.hid (own_setCell (own_setCell hO (k * 2) (.int .i64 1)) (k * 2 + 1) (.int .i64 0))
            have HST := Lib.hid (show ((gc ys).set (k * 2) (.int .i64 1)).set (k * 2 + 1) (.int .i64 0) = gc (ys.set k ⟨1, 0⟩) from (gc_set ⟨1, 0⟩ (by omega)).symm)
            have HGB := Lib.hid (own_base' hO)
            have HBr := Lib.hid hBr
            clear hO hy p0 p1 hBr hly
            go_wp2_with fail
            go_roundw
            case rel => exact ⟨k + 1, ys.set k ⟨1, 0⟩, by omega, by go_num, by rw [← HST.out]; exact HO2.out, (HBr.out.setCell (p := ⟨_, _, none⟩) HGB.out _).setCell (p := ⟨_, _, none⟩) HGB.out _⟩
            case measure => simp [intOf]; omega
          · have hk' : k = 4 := by omega
            subst hk'
            have HBr := Lib.hid hBr
            clear hBr hO
            go_wp2_with fail
            refine (sameG_self a.length _ _ _ _ _ _ rfl (R0.out.below HBr.out (Nat.le_refl _)) (HA1.out.below HBr.out (Nat.le_refl _)) (by omega)).mono ?_
            rintro e w8 ⟨rfl, hB⟩
            have HB8 := Lib.hid ((HB0.out.trans (HBr.out.mono HB0.out.size)).trans (hB.mono (HB0.out.trans (HBr.out.mono HB0.out.size)).size))
            clear hB
            go_wp2_with fail
            refine (known6_true _).mono ?_
            rintro e w9 ⟨rfl, hB⟩
            have HB9 := Lib.hid (HB8.out.trans (hB.mono HB8.out.size))
            clear hB
            go_wp2_with fail
            go_ret
            exact ⟨rfl, HB9.out⟩
      · have hh : hullA a b = [] := by unfold hullA; rw [hz]; rfl
        rw [hh] at C1 C2 C5 C6
        rw [hz] at C1 C2 C3 C4
        have HLM : Hid (([] : List Rg).length = 0) := Lib.hid rfl
        have nm : (withA a b != withA a b) = false := by simp
        generalize withA a b = M at *
        generalize withA a [] = M1 at *
        generalize withA b [] = M2 at *
        generalize fe (vb a) (vb []) = E1 at *
        generalize fe (vb b) (vb []) = E2 at *
        clear hz hh e1 e2 h1 h2 ha hb
        obtain ⟨i0, hi, hz0, hz1, hz2⟩ := info_parts info_range
        have hown := World.ownsRow_lit (base := w.heap.size) (e := 39) (size := 2) w #[] 0 (Nat.le_refl _) (by simp [maxLen]) (by simp)
        go_enter Try.func4, Try.ntmps4
        go_wp2_with fail
        refine (HL1.out _).mono ?_
        rintro e w0 ⟨rfl, rfl⟩
        go_wp2_with fail
        refine (HL2.out _).mono ?_
        rintro e w0 ⟨rfl, rfl⟩
        go_wp2_with (at_builtin; (refine wpList_append_rg rfl (.tmp 27) (.tmp 28) rfl w.heap.size _ [] rfl hown _ c1 a rfl (HA.out.below ((Below.refl _ _).alloc (Nat.le_refl _) _) (Nat.le_refl _)) hc (by simp; omega) (by simp) ?_))
        intro v0 wA OW HQ hown0 hgrow
        have HB0 := Lib.hid (hgrow w.heap.size _ ((Below.refl _ w).alloc (Nat.le_refl _) _) (Nat.le_refl _))
        have hOW : a = OW := HQ.out.symm
        subst hOW
        obtain ⟨x0, k0, rfl⟩ := own_slice hown0
        have R0 := Lib.hid (ranges_of_own hown0).1
        have HA1 := Lib.hid (HA.out.below HB0.out (Nat.le_refl _))
        have HX1 := Lib.hid (HX.out.below HB0.out (Nat.le_refl _))
        clear hown0 hgrow hown
        go_wp2_with fail
        refine (C1.out _ _ _ R0.out HX1.out).mono ?_
        rintro e w1 ⟨x1, k1, rfl, ho, hB⟩
        have HBA := Lib.hid hB
        have HO := Lib.hid ho
        have R1 := Lib.hid (ranges_of_own ho).1
        clear hB ho
        go_wp2_with fail
        refine (C2.out _ (HA1.out.below HBA.out (Nat.le_refl _)) (HX1.out.below HBA.out (Nat.le_refl _))).mono ?_
        rintro e w2 ⟨x2, k2, rfl, ho, hB⟩
        have HBA := Lib.hid (HBA.out.trans (hB.mono HBA.out.size))
        have HO := Lib.hid (own_below HO.out hB (Nat.le_refl _))
        have R1 := Lib.hid (R1.out.below hB (Nat.le_refl _))
        have R2 := Lib.hid (ranges_of_own ho).1
        clear ho
        clear hB
        go_wp2_with fail
        refine (C3.out _ (HA1.out.below HBA.out (Nat.le_refl _)) (HX1.out.below HBA.out (Nat.le_refl _))).mono ?_
        rintro e w3 ⟨rfl, hB⟩
        have HBA := Lib.hid (HBA.out.trans (hB.mono HBA.out.size))
        have HO := Lib.hid (own_below HO.out hB (Nat.le_refl _))
        have R1 := Lib.hid (R1.out.below hB (Nat.le_refl _))
        have R2 := Lib.hid (R2.out.below hB (Nat.le_refl _))
        clear hB
        go_wp2_with fail
        refine (C4.out _ (HA1.out.below HBA.out (Nat.le_refl _)) (HX1.out.below HBA.out (Nat.le_refl _))).mono ?_
        rintro e w4 ⟨rfl, hB⟩
        have HBA := Lib.hid (HBA.out.trans (hB.mono HBA.out.size))
        have HO := Lib.hid (own_below HO.out hB (Nat.le_refl _))
        have R1 := Lib.hid (R1.out.below hB (Nat.le_refl _))
        have R2 := Lib.hid (R2.out.below hB (Nat.le_refl _))
        clear hB
        go_wp2_with fail
        refine (sameG_self 0 _ _ _ _ _ _ HLM.out R1.out R2.out (by omega)).mono ?_
        rintro e w5 ⟨rfl, hB⟩
        have HBA := Lib.hid (HBA.out.trans (hB.mono HBA.out.size))
        have HO := Lib.hid (own_below HO.out hB (Nat.le_refl _))
        have R1 := Lib.hid (R1.out.below hB (Nat.le_refl _))
        clear hB
        go_wp2_with fail
        refine (C5.out _ _ _ (HA1.out.below HBA.out (Nat.le_refl _)) R1.out).mono ?_
        rintro e w6 ⟨rfl, hB⟩
        have HBA := Lib.hid (HBA.out.trans (hB.mono HBA.out.size))
        have HO := Lib.hid (own_below HO.out hB (Nat.le_refl _))
        have R1 := Lib.hid (R1.out.below hB (Nat.le_refl _))
        clear hB
        go_wp2_with fail
        refine (C6.out _ _ _ (HX1.out.below HBA.out (Nat.le_refl _)) R1.out).mono ?_
        rintro e w7 ⟨rfl, hB⟩
        have HBA := Lib.hid (HBA.out.trans (hB.mono HBA.out.size))
        have HO := Lib.hid (own_below HO.out hB (Nat.le_refl _))
        have R1 := Lib.hid (R1.out.below hB (Nat.le_refl _))
        clear hB
        go_wp2_with fail
        clear R1 R2
        go_loopw [19] (fun s19 wr => ∃ (k : Nat) (ys : List Rg), k ≤ 0 ∧ s19 = .int .i64 k ∧ wr.ownsRow wA.heap.size 39 2 (.slice x1 0 k1) 0 (gc ys) ∧ Below wA.heap.size wA wr) (fun s19 _ => 0 - (intOf s19).toNat)
        case atStart => exact ⟨0, _, Nat.zero_le _, rfl, HO.out, HBA.out⟩
        case round =>
          clear HO HBA
          obtain ⟨k, ys, hk, rfl, hO, hBr⟩ := hrel
          by_cases hlt : k < 0
          · exact absurd hlt (by omega)
          · have hk' : k = 0 := by omega
            subst hk'
            have HBr := Lib.hid hBr
            clear hBr hO
            go_wp2_with fail
            refine (sameG_self a.length _ _ _ _ _ _ rfl (R0.out.below HBr.out (Nat.le_refl _)) (HA1.out.below HBr.out (Nat.le_refl _)) (by omega)).mono ?_
            rintro e w8 ⟨rfl, hB⟩
            have HB8 := Lib.hid ((HB0.out.trans (HBr.out.mono HB0.out.size)).trans (hB.mono (HB0.out.trans (HBr.out.mono HB0.out.size)).size))
            clear hB
            go_wp2_with fail
            refine (known6_true _).mono ?_
            rintro e w9 ⟨rfl, hB⟩
            have HB9 := Lib.hid (HB8.out.trans (hB.mono HB8.out.size))
            clear hB
            go_wp2_with fail
            go_ret
            exact ⟨rfl, HB9.out⟩

end Go.Proofs.Ytmpghapfldjfeaa
