/- PatchDiffers: the walk. -/
import Derived.Test.YtigaklppdlknkaaDi4
import Derived.Test.YtigaklppdlknkaaDoe
set_option linter.unusedVariables false
set_option linter.unusedSimpArgs false
namespace Go.Proofs.Ytigaklppdlknkaa
open Go.RowKit Tinker

theorem dfr_facts {ps qs : List L} (h : dfC ps qs = 0) : vpx ps (dfR ps qs) 0 = 0 ∧ doP ps (dfR ps qs) = qs ∧ clQ ps (dfR ps qs) = dfR ps qs ∧ (dfR ps qs).length ≤ 4 := by
  obtain ⟨h1, h2, h3, h4⟩ := dfC_ok h
  have e : dfR ps qs = dfL ps qs := by unfold dfR; rw [if_pos h]
  have hv := df_vpx h
  rw [e]
  refine ⟨hv, by unfold doP; rw [if_pos hv]; exact do_df h3, ?_, h4⟩
  unfold clQ
  rw [if_pos hv, do_df h3]
theorem dfR_len (ps qs : List L) : (dfR ps qs).length ≤ qs.length := by
  unfold dfR
  split
  · exact dfTo_len ps qs qs.length
  · simp

set_option maxRecDepth 100000 in
set_option maxHeartbeats 4000000 in
theorem patchDiffers_walk (a : Option Addr) (ca : Nat) (ps : List L) (g : Option Addr) (cg : Nat) (qs : List L) (w : World) (hp : LinesAt w a ps) (hc : a = none → ca = 0) (hq : LinesAt w g qs) (hc1 : g = none → cg = 0) :
    Calls Try.prog 6 #[.slice a ps.length ca, .slice g qs.length cg] w fun e w' => e = .returned (.bool true) ∧ Below w.heap.size w w' := by
  clear hc hc1
  have HK := Lib.hid (fun w => sane_true w)
  have HL := Lib.hid (fun w => long4_any a none ps.length 0 ca 0 w)
  have HM := Lib.hid (fun w => long4_any g none qs.length 0 cg 0 w)
  by_cases g1 : 100 < ps.length
  · rw [show (decide (100 < ps.length) || decide (100 < 0)) = true by simp [g1]] at HL
    clear hp hq g1
    go_enter Try.func6, Try.ntmps6
    go_wp2_with fail
    refine (HL.out _).mono ?_
    rintro e w1 ⟨rfl, rfl⟩
    go_wp2_with fail
    refine (HK.out _).mono ?_
    rintro e w2 ⟨rfl, hB⟩
    go_wp2_with fail
    go_ret
    exact ⟨rfl, hB⟩
  rw [show (decide (100 < ps.length) || decide (100 < 0)) = false by simp; omega] at HL
  by_cases g2 : 100 < qs.length
  · rw [show (decide (100 < qs.length) || decide (100 < 0)) = true by simp [g2]] at HM
    clear hp hq g1 g2
    go_enter Try.func6, Try.ntmps6
    go_wp2_with fail
    refine (HL.out _).mono ?_
    rintro e w1 ⟨rfl, rfl⟩
    go_wp2_with fail
    refine (HM.out _).mono ?_
    rintro e w1 ⟨rfl, rfl⟩
    go_wp2_with fail
    refine (HK.out _).mono ?_
    rintro e w2 ⟨rfl, hB⟩
    go_wp2_with fail
    go_ret
    exact ⟨rfl, hB⟩
  rw [show (decide (100 < qs.length) || decide (100 < 0)) = false by simp; omega] at HM
  have hdl := dfR_len ps qs
  have C1 := Lib.hid (fun w h h' => pDiff_any a g ca cg ps qs w h h' (by omega) (by omega))
  have C2 := Lib.hid (fun w h h' => rDiff_any a g ca cg ps qs w h h' (by omega) (by omega))
  have S1 := Lib.hid (fun a' b' c' d' w h1 h2 => sameE_self (dfR ps qs).length a' b' c' d' (dfR ps qs) w rfl h1 h2 (by omega))
  have HP := Lib.hid hp
  have HQ := Lib.hid hq
  by_cases hz : dfC ps qs = 0
  · obtain ⟨f1, f2, f3, f4⟩ := dfr_facts hz
    have C3 := Lib.hid (fun b c w h h' => pDo_any a b ca c ps (dfR ps qs) w h h' (by omega) (by omega))
    have C4 := Lib.hid (fun b c w h h' => pClean_any a b ca c ps (dfR ps qs) w h h' (by omega) (by omega))
    have S2 := Lib.hid (fun a' b' c' d' w h1 h2 => sameL4_self qs.length a' b' c' d' qs w rfl h1 h2 (by omega))
    rw [f1, f2] at C3
    rw [f1, f3] at C4
    rw [hz] at C1 C2
    clear f1 f2 f3 f4 hz g1 g2 hp hq
    generalize dfR ps qs = D at C1 C2 C3 C4 S1 hdl
    go_enter Try.func6, Try.ntmps6
    go_wp2_with fail
    refine (HL.out _).mono ?_
    rintro e w0 ⟨rfl, rfl⟩
    go_wp2_with fail
    refine (HM.out _).mono ?_
    rintro e w0 ⟨rfl, rfl⟩
    go_wp2_with fail
    refine (C1.out _ HP.out HQ.out).mono ?_
    rintro e w1 ⟨a1, c1, rfl, h1, hB1⟩
    have R1 := Lib.hid (edits_of_own h1).1
    have HB1 := Lib.hid hB1
    clear h1 hB1
    go_wp2_with fail
    refine (C2.out _ (HP.out.below HB1.out (Nat.le_refl _)) (HQ.out.below HB1.out (Nat.le_refl _))).mono ?_
    rintro e w2 ⟨a2, c2, rfl, h2, hB2⟩
    have R1 := Lib.hid (R1.out.below hB2 (Nat.le_refl _))
    have R2 := Lib.hid (edits_of_own h2).1
    have HB2 := Lib.hid (HB1.out.trans (hB2.mono HB1.out.size))
    clear h2 hB2
    go_wp2_with fail
    refine (S1.out _ _ _ _ _ R1.out R2.out).mono ?_
    rintro e w3 ⟨rfl, hB3⟩
    have R1 := Lib.hid (R1.out.below hB3 (Nat.le_refl _))
    have HB3 := Lib.hid (HB2.out.trans (hB3.mono HB2.out.size))
    clear hB3 R2
    go_wp2_with fail
    refine (C3.out _ _ _ (HP.out.below HB3.out (Nat.le_refl _)) R1.out).mono ?_
    rintro e w4 ⟨a4, c4, rfl, h4, hB4⟩
    have R1 := Lib.hid (R1.out.below hB4 (Nat.le_refl _))
    have R4 := Lib.hid (lines_of_own h4).1
    have HB4 := Lib.hid (HB3.out.trans (hB4.mono HB3.out.size))
    clear h4 hB4
    go_wp2_with fail
    refine (C4.out _ _ _ (HP.out.below HB4.out (Nat.le_refl _)) R1.out).mono ?_
    rintro e w5 ⟨a5, c5, rfl, h5, hB5⟩
    have R1 := Lib.hid (R1.out.below hB5 (Nat.le_refl _))
    have R4 := Lib.hid (R4.out.below hB5 (Nat.le_refl _))
    have R5 := Lib.hid (edits_of_own h5).1
    have HB5 := Lib.hid (HB4.out.trans (hB5.mono HB4.out.size))
    clear h5 hB5
    go_wp2_with fail
    refine (S2.out _ _ _ _ _ R4.out (HQ.out.below HB5.out (Nat.le_refl _))).mono ?_
    rintro e w7 ⟨rfl, hB7⟩
    have R1 := Lib.hid (R1.out.below hB7 (Nat.le_refl _))
    have R5 := Lib.hid (R5.out.below hB7 (Nat.le_refl _))
    have HB7 := Lib.hid (HB5.out.trans (hB7.mono HB5.out.size))
    clear hB7
    go_wp2_with fail
    refine (S1.out _ _ _ _ _ R5.out R1.out).mono ?_
    rintro e w8 ⟨rfl, hB8⟩
    have HB8 := Lib.hid (HB7.out.trans (hB8.mono HB7.out.size))
    clear hB8
    go_wp2_with fail
    refine (HK.out _).mono ?_
    rintro e w9 ⟨rfl, hB⟩
    go_wp2_with fail
    go_ret
    exact ⟨rfl, HB8.out.trans (hB.mono HB8.out.size)⟩
  · have hz1 : (dfC ps qs != 0) = true := by simpa using hz
    have hz2 : (dfC ps qs == 0) = false := by simpa using hz
    clear hz hp hq g1 g2
    generalize dfR ps qs = r at C1 C2 S1 hdl
    generalize dfC ps qs = c at C1 C2 hz1 hz2
    go_enter Try.func6, Try.ntmps6
    go_wp2_with fail
    refine (HL.out _).mono ?_
    rintro e w0 ⟨rfl, rfl⟩
    go_wp2_with fail
    refine (HM.out _).mono ?_
    rintro e w0 ⟨rfl, rfl⟩
    go_wp2_with fail
    refine (C1.out _ HP.out HQ.out).mono ?_
    rintro e w1 ⟨a1, c1, rfl, h1, hB1⟩
    have R1 := Lib.hid (edits_of_own h1).1
    have HB1 := Lib.hid hB1
    clear h1 hB1
    go_wp2_with fail
    refine (C2.out _ (HP.out.below HB1.out (Nat.le_refl _)) (HQ.out.below HB1.out (Nat.le_refl _))).mono ?_
    rintro e w2 ⟨a2, c2, rfl, h2, hB2⟩
    have R1 := Lib.hid (R1.out.below hB2 (Nat.le_refl _))
    have R2 := Lib.hid (edits_of_own h2).1
    have HB2 := Lib.hid (HB1.out.trans (hB2.mono HB1.out.size))
    clear h2 hB2
    go_wp2_with fail
    refine (S1.out _ _ _ _ _ R1.out R2.out).mono ?_
    rintro e w3 ⟨rfl, hB3⟩
    have HB3 := Lib.hid (HB2.out.trans (hB3.mono HB2.out.size))
    clear hB3 R1 R2
    go_wp2_with fail
    refine (HK.out _).mono ?_
    rintro e w9 ⟨rfl, hB⟩
    go_wp2_with fail
    go_ret
    exact ⟨rfl, HB3.out.trans (hB.mono HB3.out.size)⟩

end Go.Proofs.Ytigaklppdlknkaa
