/- PatchFixes: the walk. -/
import Derived.Test.YtkakdkolankmpaaGreatFxR
import Derived.Test.YtkakdkolankmpaaGreatFxW
import Derived.Test.YtkakdkolankmpaaGreatMny
import Derived.Test.YtkakdkolankmpaaGreatDoe
set_option linter.unusedVariables false
set_option linter.unusedSimpArgs false
namespace Go.Proofs.YtkakdkolankmpaaGreat
open Go.RowKit Tinker

theorem trR_len (b : Bool) (ps : List L) (xs : List E) (ts : List T) : (trR b ps xs ts).length ≤ ts.length := by
  unfold trR
  split
  · exact tr_len _ _ _ _
  · simp
theorem fixes_facts {ps : List L} {xs : List E} {ts : List T} (h : vpx ps xs (vts ts) = 0) : vpx ps xs 0 = 0 ∧ vpt ps ts = 0 ∧ vpt (doP ps xs) ts = 0 ∧ (((pL false (doP ps xs) ts).length : Nat) : Int) = ((pL false ps ts).length : Nat) - ((trR false ps xs ts).length : Nat) + ((trR true ps xs ts).length : Nat) ∧ (pL false (doP ps xs) ts).length ≤ ts.length ∧ (pL false ps ts).length ≤ ts.length ∧ (trR false ps xs ts).length ≤ (pL false ps ts).length := by
  obtain ⟨h1, h2, h3, h4⟩ := vpx_vpt h
  have e : doP ps xs = doL ps xs := by unfold doP; rw [if_pos h4]
  have e1 : ∀ b, trR b ps xs ts = trL b ps (doL ps xs) ts := fun b => by unfold trR; rw [if_pos h]
  rw [e, e1, e1]
  exact ⟨h4, h1, h2, tr_count h1 h2, pL_le _ _ _, pL_le _ _ _, tr_count2 h1 h2⟩

set_option maxRecDepth 100000 in
set_option maxHeartbeats 4000000 in
theorem patchFixes_walk (a : Option Addr) (ca : Nat) (ps : List L) (g : Option Addr) (cg : Nat) (xs : List E) (h : Option Addr) (ch : Nat) (ts : List T) (w : World) (hp : LinesAt w a ps) (hc : a = none → ca = 0) (hx : EditsAt w g xs) (hc1 : g = none → cg = 0) (hts : TestsAt w h ts) (hc2 : h = none → ch = 0) (ht : ts.length ≤ maxLen) :
    Calls Tryz.prog 3 #[.slice a ps.length ca, .slice g xs.length cg, .slice h ts.length ch] w fun e w' => e = .returned (.bool true) ∧ Below w.heap.size w w' := by
  clear hc1 hc2
  have HK := Lib.hid (fun w => sane_true w)
  have HL := Lib.hid (fun w => long4_any a g ps.length xs.length ca cg w)
  have HM := Lib.hid (fun w h1 => many4_any h ch ts w h1 ht)
  have HP := Lib.hid hp
  have HX := Lib.hid hx
  have HT := Lib.hid hts
  clear hp hx hts
  by_cases g1 : 100 < ps.length ∨ 100 < xs.length
  · rw [show (decide (100 < ps.length) || decide (100 < xs.length)) = true by simpa using g1] at HL
    clear g1 HM HP HX HT
    go_enter Tryz.func3, Tryz.ntmps3
    go_wp2_with fail
    refine (HL.out _).mono ?_
    rintro e we0 ⟨rfl, rfl⟩
    go_wp2_with fail
    refine (HK.out _).mono ?_
    rintro e w1 ⟨rfl, hB1⟩
    have HB1 := Lib.hid hB1
    clear hB1 
    go_wp2_with fail
    go_ret
    exact ⟨rfl, HB1.out⟩
  rw [show (decide (100 < ps.length) || decide (100 < xs.length)) = false by simp; omega] at HL
  cases g2 : manyC ts
  case true =>
    rw [g2] at HM
    clear g1 g2 HP HX
    go_enter Tryz.func3, Tryz.ntmps3
    go_wp2_with fail
    refine (HL.out _).mono ?_
    rintro e we0 ⟨rfl, rfl⟩
    go_wp2_with fail
    refine (HM.out _ HT.out).mono ?_
    rintro e w1 ⟨rfl, hB1⟩
    have HB1 := Lib.hid hB1
    clear hB1 
    go_wp2_with fail
    refine (HK.out _).mono ?_
    rintro e w2 ⟨rfl, hB2⟩
    have HB2 := Lib.hid (HB1.out.trans (hB2.mono HB1.out.size))
    clear hB2 
    go_wp2_with fail
    go_ret
    exact ⟨rfl, HB2.out⟩
  case false =>
    obtain ⟨t50, tml⟩ := manyC_no g2
    rw [g2] at HM
    have hml : ∀ t ∈ ts, t.inn.length ≤ 1000 := fun t h => Nat.le_trans (tml t h) (by decide)
    clear g2 tml
    have C1 := Lib.hid (fun w h1 h2 h3 => pFixes_any a g h ca cg ch ps xs ts w h1 h2 h3 (by omega) (by omega) hml (by omega))
    have C2 := Lib.hid (fun w h1 h2 h3 => rFixes_any a g h ca cg ch ps xs ts w h1 h2 h3 hc (by omega))
    have C3 := Lib.hid (fun w h1 h2 h3 => pBreaks_any a g h ca cg ch ps xs ts w h1 h2 h3 (by omega) (by omega) hml (by omega))
    have C4 := Lib.hid (fun w h1 h2 h3 => rBreaks_any a g h ca cg ch ps xs ts w h1 h2 h3 hc (by omega))
    have hl1 := trR_len false ps xs ts
    have hl2 := trR_len true ps xs ts
    have S1 := Lib.hid (fun a' b' c' d' w h1 h2 => sameI4_self (trR false ps xs ts).length a' b' c' d' (trR false ps xs ts) w rfl h1 h2 (by omega))
    have S2 := Lib.hid (fun a' b' c' d' w h1 h2 => sameI4_self (trR true ps xs ts).length a' b' c' d' (trR true ps xs ts) w rfl h1 h2 (by omega))
    have C5 := Lib.hid (fun w h1 h2 => pDo_any a g ca cg ps xs w h1 h2 (by omega) (by omega))
    have C6 := Lib.hid (fun w h1 h2 => failing_any a h ca ch ps ts w h1 h2 (by omega) hml)
    have C7 := Lib.hid (fun b c w h1 h2 => failing_any b h c ch (doP ps xs) ts w h1 h2 (by omega) hml)
    clear hc
    by_cases z1 : vpx ps xs (vts ts) = 0
    · obtain ⟨t1, t2, t3, t4, t5, t6, t7⟩ := fixes_facts z1
      rw [t1] at C5
      rw [t2] at C6
      rw [t3] at C7
      rw [z1] at C1 C2 C3 C4
      clear t1 t2 t3 z1
      generalize trR false ps xs ts = D at *
      generalize trR true ps xs ts = F at *
      generalize pL false ps ts = P1 at *
      generalize pL false (doP ps xs) ts = P2 at *
      generalize doP ps xs = q at *
      go_enter Tryz.func3, Tryz.ntmps3
      go_wp2_with fail
      refine (HL.out _).mono ?_
      rintro e we0 ⟨rfl, rfl⟩
      go_wp2_with fail
      refine (HM.out _ HT.out).mono ?_
      rintro e w1 ⟨rfl, hB1⟩
      have HB1 := Lib.hid hB1
      clear hB1 
      go_wp2_with fail
      refine (C1.out _ (HP.out.below HB1.out (Nat.le_refl _)) (HX.out.below HB1.out (Nat.le_refl _)) (HT.out.below HB1.out (Nat.le_refl _))).mono ?_
      rintro e w2 ⟨a1, k1, rfl, h1, hB2⟩
      have R1 := Lib.hid ((ints_of_own h1).1)
      have HB2 := Lib.hid (HB1.out.trans (hB2.mono HB1.out.size))
      clear hB2 h1
      go_wp2_with fail
      refine (C2.out _ (HP.out.below HB2.out (Nat.le_refl _)) (HX.out.below HB2.out (Nat.le_refl _)) (HT.out.below HB2.out (Nat.le_refl _))).mono ?_
      rintro e w3 ⟨a2, k2, rfl, h2, hB3⟩
      have R1 := Lib.hid (R1.out.below hB3 (Nat.le_refl _))
      have R2 := Lib.hid ((ints_of_own h2).1)
      have HB3 := Lib.hid (HB2.out.trans (hB3.mono HB2.out.size))
      clear hB3 h2
      go_wp2_with fail
      refine (C3.out _ (HP.out.below HB3.out (Nat.le_refl _)) (HX.out.below HB3.out (Nat.le_refl _)) (HT.out.below HB3.out (Nat.le_refl _))).mono ?_
      rintro e w4 ⟨a3, k3, rfl, h3, hB4⟩
      have R1 := Lib.hid (R1.out.below hB4 (Nat.le_refl _))
      have R2 := Lib.hid (R2.out.below hB4 (Nat.le_refl _))
      have R3 := Lib.hid ((ints_of_own h3).1)
      have HB4 := Lib.hid (HB3.out.trans (hB4.mono HB3.out.size))
      clear hB4 h3
      go_wp2_with fail
      refine (C4.out _ (HP.out.below HB4.out (Nat.le_refl _)) (HX.out.below HB4.out (Nat.le_refl _)) (HT.out.below HB4.out (Nat.le_refl _))).mono ?_
      rintro e w5 ⟨a4, k4, rfl, h4, hB5⟩
      have R1 := Lib.hid (R1.out.below hB5 (Nat.le_refl _))
      have R2 := Lib.hid (R2.out.below hB5 (Nat.le_refl _))
      have R3 := Lib.hid (R3.out.below hB5 (Nat.le_refl _))
      have R4 := Lib.hid ((ints_of_own h4).1)
      have HB5 := Lib.hid (HB4.out.trans (hB5.mono HB4.out.size))
      clear hB5 h4
      go_wp2_with fail
      refine (S1.out _ _ _ _ _ R1.out R2.out).mono ?_
      rintro e w6 ⟨rfl, hB6⟩
      clear R1
      clear R2
      have R3 := Lib.hid (R3.out.below hB6 (Nat.le_refl _))
      have R4 := Lib.hid (R4.out.below hB6 (Nat.le_refl _))
      have HB6 := Lib.hid (HB5.out.trans (hB6.mono HB5.out.size))
      clear hB6 
      go_wp2_with fail
      refine (S2.out _ _ _ _ _ R3.out R4.out).mono ?_
      rintro e w7 ⟨rfl, hB7⟩
      clear R3
      clear R4
      have HB7 := Lib.hid (HB6.out.trans (hB7.mono HB6.out.size))
      clear hB7 
      go_wp2_with fail
      refine (C5.out _ (HP.out.below HB7.out (Nat.le_refl _)) (HX.out.below HB7.out (Nat.le_refl _))).mono ?_
      rintro e w8 ⟨a5, k5, rfl, h5, hB8⟩
      have R5 := Lib.hid ((lines_of_own h5).1)
      have HB8 := Lib.hid (HB7.out.trans (hB8.mono HB7.out.size))
      clear hB8 h5
      go_wp2_with fail
      refine (C6.out _ (HP.out.below HB8.out (Nat.le_refl _)) (HT.out.below HB8.out (Nat.le_refl _))).mono ?_
      rintro e w9 ⟨a6, k6, rfl, h6, hB9⟩
      have R5 := Lib.hid (R5.out.below hB9 (Nat.le_refl _))
      have R6 := Lib.hid ((ints_of_own h6).1)
      have HB9 := Lib.hid (HB8.out.trans (hB9.mono HB8.out.size))
      clear hB9 h6
      go_wp2_with fail
      refine (C7.out _ _ _ R5.out (HT.out.below HB9.out (Nat.le_refl _))).mono ?_
      rintro e w10 ⟨a7, k7, rfl, h7, hB10⟩
      clear R5
      clear R6
      have R7 := Lib.hid ((ints_of_own h7).1)
      have HB10 := Lib.hid (HB9.out.trans (hB10.mono HB9.out.size))
      clear hB10 h7
      go_wp2_with fail
      refine (HK.out _).mono ?_
      rintro e w11 ⟨rfl, hB11⟩
      clear R7
      have HB11 := Lib.hid (HB10.out.trans (hB11.mono HB10.out.size))
      clear hB11 
      go_wp2_with fail
      go_ret
      exact ⟨rfl, HB11.out⟩
    · have y1 : (vpx ps xs (vts ts) != 0) = true := by simpa using z1
      clear z1 C5 C6 C7
      generalize trR false ps xs ts = D at *
      generalize trR true ps xs ts = F at *
      generalize vpx ps xs (vts ts) = c1 at *
      go_enter Tryz.func3, Tryz.ntmps3
      go_wp2_with fail
      refine (HL.out _).mono ?_
      rintro e we0 ⟨rfl, rfl⟩
      go_wp2_with fail
      refine (HM.out _ HT.out).mono ?_
      rintro e w1 ⟨rfl, hB1⟩
      have HB1 := Lib.hid hB1
      clear hB1 
      go_wp2_with fail
      refine (C1.out _ (HP.out.below HB1.out (Nat.le_refl _)) (HX.out.below HB1.out (Nat.le_refl _)) (HT.out.below HB1.out (Nat.le_refl _))).mono ?_
      rintro e w2 ⟨a1, k1, rfl, h1, hB2⟩
      have R1 := Lib.hid ((ints_of_own h1).1)
      have HB2 := Lib.hid (HB1.out.trans (hB2.mono HB1.out.size))
      clear hB2 h1
      go_wp2_with fail
      refine (C2.out _ (HP.out.below HB2.out (Nat.le_refl _)) (HX.out.below HB2.out (Nat.le_refl _)) (HT.out.below HB2.out (Nat.le_refl _))).mono ?_
      rintro e w3 ⟨a2, k2, rfl, h2, hB3⟩
      have R1 := Lib.hid (R1.out.below hB3 (Nat.le_refl _))
      have R2 := Lib.hid ((ints_of_own h2).1)
      have HB3 := Lib.hid (HB2.out.trans (hB3.mono HB2.out.size))
      clear hB3 h2
      go_wp2_with fail
      refine (C3.out _ (HP.out.below HB3.out (Nat.le_refl _)) (HX.out.below HB3.out (Nat.le_refl _)) (HT.out.below HB3.out (Nat.le_refl _))).mono ?_
      rintro e w4 ⟨a3, k3, rfl, h3, hB4⟩
      have R1 := Lib.hid (R1.out.below hB4 (Nat.le_refl _))
      have R2 := Lib.hid (R2.out.below hB4 (Nat.le_refl _))
      have R3 := Lib.hid ((ints_of_own h3).1)
      have HB4 := Lib.hid (HB3.out.trans (hB4.mono HB3.out.size))
      clear hB4 h3
      go_wp2_with fail
      refine (C4.out _ (HP.out.below HB4.out (Nat.le_refl _)) (HX.out.below HB4.out (Nat.le_refl _)) (HT.out.below HB4.out (Nat.le_refl _))).mono ?_
      rintro e w5 ⟨a4, k4, rfl, h4, hB5⟩
      have R1 := Lib.hid (R1.out.below hB5 (Nat.le_refl _))
      have R2 := Lib.hid (R2.out.below hB5 (Nat.le_refl _))
      have R3 := Lib.hid (R3.out.below hB5 (Nat.le_refl _))
      have R4 := Lib.hid ((ints_of_own h4).1)
      have HB5 := Lib.hid (HB4.out.trans (hB5.mono HB4.out.size))
      clear hB5 h4
      go_wp2_with fail
      refine (S1.out _ _ _ _ _ R1.out R2.out).mono ?_
      rintro e w6 ⟨rfl, hB6⟩
      clear R1
      clear R2
      have R3 := Lib.hid (R3.out.below hB6 (Nat.le_refl _))
      have R4 := Lib.hid (R4.out.below hB6 (Nat.le_refl _))
      have HB6 := Lib.hid (HB5.out.trans (hB6.mono HB5.out.size))
      clear hB6 
      go_wp2_with fail
      refine (S2.out _ _ _ _ _ R3.out R4.out).mono ?_
      rintro e w7 ⟨rfl, hB7⟩
      clear R3
      clear R4
      have HB7 := Lib.hid (HB6.out.trans (hB7.mono HB6.out.size))
      clear hB7 
      go_wp2_with fail
      refine (HK.out _).mono ?_
      rintro e w8 ⟨rfl, hB8⟩
      have HB8 := Lib.hid (HB7.out.trans (hB8.mono HB7.out.size))
      clear hB8 
      go_wp2_with fail
      go_ret
      exact ⟨rfl, HB8.out⟩

end Go.Proofs.YtkakdkolankmpaaGreat
