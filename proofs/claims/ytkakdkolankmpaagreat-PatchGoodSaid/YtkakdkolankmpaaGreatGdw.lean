/- PatchGood: the walk. -/
import Derived.Test.YtkakdkolankmpaaGreatFxR
import Derived.Test.YtkakdkolankmpaaGreatFxW
import Derived.Test.YtkakdkolankmpaaGreatSml
import Derived.Test.YtkakdkolankmpaaGreatMny
import Derived.Test.YtkakdkolankmpaaGreatDoe
set_option linter.unusedVariables false
set_option linter.unusedSimpArgs false
namespace Go.Proofs.YtkakdkolankmpaaGreat
open Go.RowKit Tinker

theorem good_facts {ps : List L} {xs : List E} {ts : List T} (h : gdR ps xs ts = true) : vpx ps xs (vts ts) = 0 ∧ vpt ps ts = 0 ∧ trR false ps xs ts = pL false ps ts ∧ trR true ps xs ts = [] := by
  unfold gdR at h
  split at h
  · rename_i h0
    obtain ⟨h1, h2, h3, h4⟩ := vpx_vpt h0
    obtain ⟨k1, k2⟩ := gd_fixes h1 h
    refine ⟨h0, h1, ?_, ?_⟩
    · unfold trR; rw [if_pos h0, k1]
    · unfold trR; rw [if_pos h0, k2]
  · cases h

set_option maxRecDepth 100000 in
set_option maxHeartbeats 4000000 in
theorem patchGood_walk (a : Option Addr) (ca : Nat) (ps : List L) (g : Option Addr) (cg : Nat) (xs : List E) (h : Option Addr) (ch : Nat) (ts : List T) (w : World) (hp : LinesAt w a ps) (hc : a = none → ca = 0) (hx : EditsAt w g xs) (hc1 : g = none → cg = 0) (hts : TestsAt w h ts) (hc2 : h = none → ch = 0) (ht : ts.length ≤ maxLen) :
    Calls Tryz.prog 4 #[.slice a ps.length ca, .slice g xs.length cg, .slice h ts.length ch] w fun e w' => e = .returned (.bool true) ∧ Below w.heap.size w w' := by
  clear hc1 hc2
  have HK := Lib.hid (fun w => sane_true w)
  have HL := Lib.hid (fun w => long4_any a g ps.length xs.length ca cg w)
  have HM := Lib.hid (fun w h1 => many4_any h ch ts w h1 ht)
  have HP := Lib.hid hp
  have HX := Lib.hid hx
  have HT := Lib.hid hts
  clear hp hx hts
  by_cases g1 : 100 < ps.length ∨ 100 < xs.length
  · rw [show (decide (100 < ps.length) || decide (100 < xs.length)) = true by simpa using g1] at HL
    clear g1 HM HP HX HT
    go_enter Tryz.func4, Tryz.ntmps4
    go_wp2_with fail
    refine (HL.out _).mono ?_
    rintro e we0 ⟨rfl, rfl⟩
    go_wp2_with fail
    refine (HK.out _).mono ?_
    rintro e w1 ⟨rfl, hB1⟩
    have HB1 := Lib.hid hB1
    clear hB1 
    go_wp2_with fail
    go_ret
    exact ⟨rfl, HB1.out⟩
  rw [show (decide (100 < ps.length) || decide (100 < xs.length)) = false by simp; omega] at HL
  cases g2 : manyC ts
  case true =>
    rw [g2] at HM
    clear g1 g2 HP HX
    go_enter Tryz.func4, Tryz.ntmps4
    go_wp2_with fail
    refine (HL.out _).mono ?_
    rintro e we0 ⟨rfl, rfl⟩
    go_wp2_with fail
    refine (HM.out _ HT.out).mono ?_
    rintro e w1 ⟨rfl, hB1⟩
    have HB1 := Lib.hid hB1
    clear hB1 
    go_wp2_with fail
    refine (HK.out _).mono ?_
    rintro e w2 ⟨rfl, hB2⟩
    have HB2 := Lib.hid (HB1.out.trans (hB2.mono HB1.out.size))
    clear hB2 
    go_wp2_with fail
    go_ret
    exact ⟨rfl, HB2.out⟩
  case false =>
    obtain ⟨t50, tml⟩ := manyC_no g2
    rw [g2] at HM
    have hml : ∀ t ∈ ts, t.inn.length ≤ 1000 := fun t h => Nat.le_trans (tml t h) (by decide)
    clear g2 tml
    have C1 := Lib.hid (fun w h1 h2 h3 => pIsGood_any a g h ca cg ch ps xs ts w h1 h2 h3 (by omega) (by omega) hml (by omega))
    have C2 := Lib.hid (fun w h1 h2 h3 => rIsGood_any a g h ca cg ch ps xs ts w h1 h2 h3 hc (by omega))
    have C3 := Lib.hid (fun w h1 h2 h3 => pIsMinimal_any a g h ca cg ch ps xs ts w h1 h2 h3 (by omega) (by omega) hml (by omega))
    have C4 := Lib.hid (fun w h1 h2 h3 => rIsMinimal_any a g h ca cg ch ps xs ts w h1 h2 h3 hc (by omega))
    have C5 := Lib.hid (fun w h1 h2 h3 => pFixes_any a g h ca cg ch ps xs ts w h1 h2 h3 (by omega) (by omega) hml (by omega))
    have C6 := Lib.hid (fun w h1 h2 h3 => pBreaks_any a g h ca cg ch ps xs ts w h1 h2 h3 (by omega) (by omega) hml (by omega))
    have C7 := Lib.hid (fun w h1 h2 => failing_any a h ca ch ps ts w h1 h2 (by omega) hml)
    have hl1 := pL_le false ps ts
    have S1 := Lib.hid (fun a' b' c' d' w h1 h2 => sameI4_self (pL false ps ts).length a' b' c' d' (pL false ps ts) w rfl h1 h2 (by omega))
    clear hc
    cases z1 : gdR ps xs ts
    case true =>
      obtain ⟨t1, t2, t3, t4⟩ := good_facts z1
      rw [z1] at C1 C2
      rw [t3, t1] at C5
      rw [t4, t1] at C6
      rw [t2] at C7
      rw [t1] at C1 C2 C3 C4
      clear t1 t2 t3 t4 z1
      generalize mnR ps xs ts = D at *
      generalize pL false ps ts = P1 at *
      go_enter Tryz.func4, Tryz.ntmps4
      go_wp2_with fail
      refine (HL.out _).mono ?_
      rintro e we0 ⟨rfl, rfl⟩
      go_wp2_with fail
      refine (HM.out _ HT.out).mono ?_
      rintro e w1 ⟨rfl, hB1⟩
      have HB1 := Lib.hid hB1
      clear hB1 
      go_wp2_with fail
      refine (C1.out _ (HP.out.below HB1.out (Nat.le_refl _)) (HX.out.below HB1.out (Nat.le_refl _)) (HT.out.below HB1.out (Nat.le_refl _))).mono ?_
      rintro e w2 ⟨rfl, hB2⟩
      have HB2 := Lib.hid (HB1.out.trans (hB2.mono HB1.out.size))
      clear hB2 
      go_wp2_with fail
      refine (C2.out _ (HP.out.below HB2.out (Nat.le_refl _)) (HX.out.below HB2.out (Nat.le_refl _)) (HT.out.below HB2.out (Nat.le_refl _))).mono ?_
      rintro e w3 ⟨rfl, hB3⟩
      have HB3 := Lib.hid (HB2.out.trans (hB3.mono HB2.out.size))
      clear hB3 
      go_wp2_with fail
      refine (C3.out _ (HP.out.below HB3.out (Nat.le_refl _)) (HX.out.below HB3.out (Nat.le_refl _)) (HT.out.below HB3.out (Nat.le_refl _))).mono ?_
      rintro e w4 ⟨rfl, hB4⟩
      have HB4 := Lib.hid (HB3.out.trans (hB4.mono HB3.out.size))
      clear hB4 
      go_wp2_with fail
      refine (C4.out _ (HP.out.below HB4.out (Nat.le_refl _)) (HX.out.below HB4.out (Nat.le_refl _)) (HT.out.below HB4.out (Nat.le_refl _))).mono ?_
      rintro e w5 ⟨rfl, hB5⟩
      have HB5 := Lib.hid (HB4.out.trans (hB5.mono HB4.out.size))
      clear hB5 
      go_wp2_with fail
      refine (C5.out _ (HP.out.below HB5.out (Nat.le_refl _)) (HX.out.below HB5.out (Nat.le_refl _)) (HT.out.below HB5.out (Nat.le_refl _))).mono ?_
      rintro e w6 ⟨a5, k5, rfl, h5, hB6⟩
      have R5 := Lib.hid ((ints_of_own h5).1)
      have HB6 := Lib.hid (HB5.out.trans (hB6.mono HB5.out.size))
      clear hB6 h5
      go_wp2_with fail
      refine (C6.out _ (HP.out.below HB6.out (Nat.le_refl _)) (HX.out.below HB6.out (Nat.le_refl _)) (HT.out.below HB6.out (Nat.le_refl _))).mono ?_
      rintro e w7 ⟨a6, k6, rfl, h6, hB7⟩
      have R5 := Lib.hid (R5.out.below hB7 (Nat.le_refl _))
      have R6 := Lib.hid ((ints_of_own h6).1)
      have HB7 := Lib.hid (HB6.out.trans (hB7.mono HB6.out.size))
      clear hB7 h6
      go_wp2_with fail
      refine (C7.out _ (HP.out.below HB7.out (Nat.le_refl _)) (HT.out.below HB7.out (Nat.le_refl _))).mono ?_
      rintro e w8 ⟨a7, k7, rfl, h7, hB8⟩
      have R5 := Lib.hid (R5.out.below hB8 (Nat.le_refl _))
      clear R6
      have R7 := Lib.hid ((ints_of_own h7).1)
      have HB8 := Lib.hid (HB7.out.trans (hB8.mono HB7.out.size))
      clear hB8 h7
      go_wp2_with fail
      refine (S1.out _ _ _ _ _ R5.out R7.out).mono ?_
      rintro e w9 ⟨rfl, hB9⟩
      clear R5
      clear R7
      have HB9 := Lib.hid (HB8.out.trans (hB9.mono HB8.out.size))
      clear hB9 
      go_wp2_with fail
      refine (HK.out _).mono ?_
      rintro e w10 ⟨rfl, hB10⟩
      have HB10 := Lib.hid (HB9.out.trans (hB10.mono HB9.out.size))
      clear hB10 
      go_wp2_with fail
      go_ret
      exact ⟨rfl, HB10.out⟩
    case false =>
      rw [z1] at C1 C2
      clear z1 C5 C6 C7 S1
      generalize mnR ps xs ts = D at *
      generalize vpx ps xs (vts ts) = c1 at *
      go_enter Tryz.func4, Tryz.ntmps4
      go_wp2_with fail
      refine (HL.out _).mono ?_
      rintro e we0 ⟨rfl, rfl⟩
      go_wp2_with fail
      refine (HM.out _ HT.out).mono ?_
      rintro e w1 ⟨rfl, hB1⟩
      have HB1 := Lib.hid hB1
      clear hB1 
      go_wp2_with fail
      refine (C1.out _ (HP.out.below HB1.out (Nat.le_refl _)) (HX.out.below HB1.out (Nat.le_refl _)) (HT.out.below HB1.out (Nat.le_refl _))).mono ?_
      rintro e w2 ⟨rfl, hB2⟩
      have HB2 := Lib.hid (HB1.out.trans (hB2.mono HB1.out.size))
      clear hB2 
      go_wp2_with fail
      refine (C2.out _ (HP.out.below HB2.out (Nat.le_refl _)) (HX.out.below HB2.out (Nat.le_refl _)) (HT.out.below HB2.out (Nat.le_refl _))).mono ?_
      rintro e w3 ⟨rfl, hB3⟩
      have HB3 := Lib.hid (HB2.out.trans (hB3.mono HB2.out.size))
      clear hB3 
      go_wp2_with fail
      refine (C3.out _ (HP.out.below HB3.out (Nat.le_refl _)) (HX.out.below HB3.out (Nat.le_refl _)) (HT.out.below HB3.out (Nat.le_refl _))).mono ?_
      rintro e w4 ⟨rfl, hB4⟩
      have HB4 := Lib.hid (HB3.out.trans (hB4.mono HB3.out.size))
      clear hB4 
      go_wp2_with fail
      refine (C4.out _ (HP.out.below HB4.out (Nat.le_refl _)) (HX.out.below HB4.out (Nat.le_refl _)) (HT.out.below HB4.out (Nat.le_refl _))).mono ?_
      rintro e w5 ⟨rfl, hB5⟩
      have HB5 := Lib.hid (HB4.out.trans (hB5.mono HB4.out.size))
      clear hB5 
      go_wp2_with fail
      refine (HK.out _).mono ?_
      rintro e w6 ⟨rfl, hB6⟩
      have HB6 := Lib.hid (HB5.out.trans (hB6.mono HB5.out.size))
      clear hB6 
      go_wp2_with fail
      go_ret
      exact ⟨rfl, HB6.out⟩

end Go.Proofs.YtkakdkolankmpaaGreat
