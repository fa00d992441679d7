/- SeekCounts: the walk. -/
import Derived.Test.YtjciojoeifekeaaGreatFcB
import Derived.Test.YtjciojoeifekeaaGreatSnr
import Derived.Test.YtjciojoeifekeaaGreatLng
import Derived.Test.YtjciojoeifekeaaGreatSkC
import Derived.Test.YtjciojoeifekeaaGreatMny
set_option linter.unusedVariables false
set_option linter.unusedSimpArgs false
namespace Go.Proofs.YtjciojoeifekeaaGreat
open Go.RowKit Go.Shelf Tinker

theorem fpR_len (ps : List L) (ts : List T) (n : Int) : (fpR ps ts n).length ≤ 1000 := by
  unfold fpR
  split
  · rename_i h
    have h8 := (vp_ok (skC_ok h).1).1
    rw [fp_plc]
    have := plcTo_length (hsL ps ts n) ps.length
    omega
  · simp
theorem cn_fp {ps : List L} {ts : List T} {n : Int} (h : skC ps ts n = 0) : ((fpR ps ts n).length : Int) ≤ cnR ps ts n ∧ (0 < cnR ps ts n ↔ 0 < ((fpR ps ts n).length : Int)) := by
  unfold fpR cnR
  rw [if_pos h, if_pos h, fp_plc]
  obtain ⟨h1, h2⟩ := cnT_plc ps ts n ps.length (Nat.le_refl _)
  omega

set_option maxRecDepth 100000 in
set_option maxHeartbeats 8000000 in
theorem seekCounts_walk (a : Option Addr) (ca : Nat) (ps : List L) (h : Option Addr) (ch : Nat) (ts : List T) (n : Int) (w : World) (hp : LinesAt w a ps) (hts : TestsAt w h ts) (ht : ts.length ≤ maxLen) :
    Calls Tryz.prog 5 #[.slice a ps.length ca, .slice h ts.length ch, .int .i64 n] w fun e w' => e = .returned (.bool true) ∧ Below w.heap.size w w' := by
  have HK := Lib.hid (fun w => same5_any w)
  have HL := Lib.hid (fun w => long5_any a none ps.length 0 ca 0 w)
  have HM := Lib.hid (fun w h1 => many4_any h ch ts w h1 ht)
  have HP := Lib.hid hp
  have HT := Lib.hid hts
  clear hp hts
  by_cases g1 : 100 < ps.length
  · rw [show (decide (100 < ps.length) || decide (100 < 0)) = true by simpa using g1] at HL
    clear g1 HP HT HM
    go_enter Tryz.func5, Tryz.ntmps5
    go_wp2_with fail
    refine (HL.out _).mono ?_
    rintro e we0 ⟨rfl, rfl⟩
    go_wp2_with fail
    refine (HK.out _).mono ?_
    rintro e w9 ⟨rfl, hB⟩
    have HB := Lib.hid (hB)
    clear hB
    go_wp2_with fail
    go_ret
    exact ⟨rfl, HB.out⟩
  rw [show (decide (100 < ps.length) || decide (100 < 0)) = false by simp; omega] at HL
  cases g2 : manyC ts
  case true =>
    rw [g2] at HM
    clear g1 g2
    go_enter Tryz.func5, Tryz.ntmps5
    go_wp2_with fail
    refine (HL.out _).mono ?_
    rintro e we0 ⟨rfl, rfl⟩
    go_wp2_with fail
    refine (HM.out _ HT.out).mono ?_
    rintro e w1 ⟨rfl, hB⟩
    have HP := Lib.hid (HP.out.below hB (Nat.le_refl _))
    have HT := Lib.hid (HT.out.below hB (Nat.le_refl _))
    have HB := Lib.hid hB
    clear hB
    go_wp2_with fail
    refine (HK.out _).mono ?_
    rintro e w9 ⟨rfl, hB⟩
    have HB := Lib.hid (HB.out.trans (hB.mono HB.out.size))
    clear hB
    go_wp2_with fail
    go_ret
    exact ⟨rfl, HB.out⟩
  case false =>
    obtain ⟨t50, tml⟩ := manyC_no g2
    rw [g2] at HM
    have hml : ∀ t ∈ ts, t.inn.length ≤ 1000 := fun t h => Nat.le_trans (tml t h) (by decide)
    have C1 := Lib.hid (fun w h1 h2 => sCount_any a h ca ch ps ts n w h1 h2 (by omega) (by omega) hml)
    have C2 := Lib.hid (fun w h1 h2 => rCount_any a h ca ch ps ts n w h1 h2)
    have C3 := Lib.hid (fun w h1 h2 => sPlaces_any a h ca ch ps ts n w h1 h2 (by omega) (by omega) hml)
    have C4 := Lib.hid (fun w h1 h2 => rPlaces_any a h ca ch ps ts n w h1 h2)
    have HS := Lib.hid (fun a b c d w h1 h2 => sameI4_self (fpR ps ts n).length a b c d (fpR ps ts n) w rfl h1 h2 (by have := fpR_len ps ts n; omega))
    by_cases hz : skC ps ts n = 0
    · obtain ⟨c1, c2⟩ := cn_fp hz
      rw [hz] at C1 C2 C3 C4
      generalize fpR ps ts n = A at *
      generalize cnR ps ts n = N at *
      obtain ⟨b, hb⟩ : ∃ b, decide (0 < N) = b := ⟨_, rfl⟩
      have hb2 : decide (0 < (A.length : Int)) = b := by rw [← hb]; simp only [decide_eq_decide]; exact c2.symm
      have hb4 : decide (0 < A.length) = b := by rw [← hb2]; simp
      have hb3 : decide ((A.length : Int) ≤ N) = true := decide_eq_true c1
      clear hz g1 g2 tml hml t50 c1 c2
      cases b
      · go_enter Tryz.func5, Tryz.ntmps5
        go_wp2_with fail
        refine (HL.out _).mono ?_
        rintro e we0 ⟨rfl, rfl⟩
        go_wp2_with fail
        refine (HM.out _ HT.out).mono ?_
        rintro e w1 ⟨rfl, hB⟩
        have HP := Lib.hid (HP.out.below hB (Nat.le_refl _))
        have HT := Lib.hid (HT.out.below hB (Nat.le_refl _))
        have HB := Lib.hid hB
        clear hB
        go_wp2_with fail
        refine (C1.out _ HP.out HT.out).mono ?_
        rintro e w2 ⟨rfl, hB⟩
        have HP := Lib.hid (HP.out.below hB (Nat.le_refl _))
        have HT := Lib.hid (HT.out.below hB (Nat.le_refl _))
        have HB := Lib.hid (HB.out.trans (hB.mono HB.out.size))
        clear hB
        go_wp2_with fail
        refine (C2.out _ HP.out HT.out).mono ?_
        rintro e w3 ⟨rfl, hB⟩
        have HP := Lib.hid (HP.out.below hB (Nat.le_refl _))
        have HT := Lib.hid (HT.out.below hB (Nat.le_refl _))
        have HB := Lib.hid (HB.out.trans (hB.mono HB.out.size))
        clear hB
        go_wp2_with fail
        refine (C3.out _ HP.out HT.out).mono ?_
        rintro e w4 ⟨a1, k1, rfl, hq, hB⟩
        have HO1 := Lib.hid hq
        clear hq
        have HP := Lib.hid (HP.out.below hB (Nat.le_refl _))
        have HT := Lib.hid (HT.out.below hB (Nat.le_refl _))
        have HB := Lib.hid (HB.out.trans (hB.mono HB.out.size))
        clear hB
        go_wp2_with fail
        refine (C4.out _ HP.out HT.out).mono ?_
        rintro e w5 ⟨a2, k2, rfl, hq, hB⟩
        have HO1 := Lib.hid (own_below HO1.out hB (Nat.le_refl _))
        have HO2 := Lib.hid (ownL_of hq).at_
        have HO1 := Lib.hid (ownL_of HO1.out).at_
        clear hq
        have HP := Lib.hid (HP.out.below hB (Nat.le_refl _))
        have HT := Lib.hid (HT.out.below hB (Nat.le_refl _))
        have HB := Lib.hid (HB.out.trans (hB.mono HB.out.size))
        clear hB
        go_wp2_with fail
        refine (HS.out _ _ _ _ _ HO1.out HO2.out).mono ?_
        rintro e w6 ⟨rfl, hB⟩
        have HB := Lib.hid (HB.out.trans (hB.mono HB.out.size))
        clear hB HO1 HO2
        go_wp2_with fail
        refine (HK.out _).mono ?_
        rintro e w9 ⟨rfl, hB⟩
        have HB := Lib.hid (HB.out.trans (hB.mono HB.out.size))
        clear hB
        go_wp2_with fail
        go_ret
        exact ⟨rfl, HB.out⟩
      · go_enter Tryz.func5, Tryz.ntmps5
        go_wp2_with fail
        refine (HL.out _).mono ?_
        rintro e we0 ⟨rfl, rfl⟩
        go_wp2_with fail
        refine (HM.out _ HT.out).mono ?_
        rintro e w1 ⟨rfl, hB⟩
        have HP := Lib.hid (HP.out.below hB (Nat.le_refl _))
        have HT := Lib.hid (HT.out.below hB (Nat.le_refl _))
        have HB := Lib.hid hB
        clear hB
        go_wp2_with fail
        refine (C1.out _ HP.out HT.out).mono ?_
        rintro e w2 ⟨rfl, hB⟩
        have HP := Lib.hid (HP.out.below hB (Nat.le_refl _))
        have HT := Lib.hid (HT.out.below hB (Nat.le_refl _))
        have HB := Lib.hid (HB.out.trans (hB.mono HB.out.size))
        clear hB
        go_wp2_with fail
        refine (C2.out _ HP.out HT.out).mono ?_
        rintro e w3 ⟨rfl, hB⟩
        have HP := Lib.hid (HP.out.below hB (Nat.le_refl _))
        have HT := Lib.hid (HT.out.below hB (Nat.le_refl _))
        have HB := Lib.hid (HB.out.trans (hB.mono HB.out.size))
        clear hB
        go_wp2_with fail
        refine (C3.out _ HP.out HT.out).mono ?_
        rintro e w4 ⟨a1, k1, rfl, hq, hB⟩
        have HO1 := Lib.hid hq
        clear hq
        have HP := Lib.hid (HP.out.below hB (Nat.le_refl _))
        have HT := Lib.hid (HT.out.below hB (Nat.le_refl _))
        have HB := Lib.hid (HB.out.trans (hB.mono HB.out.size))
        clear hB
        go_wp2_with fail
        refine (C4.out _ HP.out HT.out).mono ?_
        rintro e w5 ⟨a2, k2, rfl, hq, hB⟩
        have HO1 := Lib.hid (own_below HO1.out hB (Nat.le_refl _))
        have HO2 := Lib.hid (ownL_of hq).at_
        have HO1 := Lib.hid (ownL_of HO1.out).at_
        clear hq
        have HP := Lib.hid (HP.out.below hB (Nat.le_refl _))
        have HT := Lib.hid (HT.out.below hB (Nat.le_refl _))
        have HB := Lib.hid (HB.out.trans (hB.mono HB.out.size))
        clear hB
        go_wp2_with fail
        refine (HS.out _ _ _ _ _ HO1.out HO2.out).mono ?_
        rintro e w6 ⟨rfl, hB⟩
        have HB := Lib.hid (HB.out.trans (hB.mono HB.out.size))
        clear hB HO1 HO2
        go_wp2_with fail
        refine (HK.out _).mono ?_
        rintro e w9 ⟨rfl, hB⟩
        have HB := Lib.hid (HB.out.trans (hB.mono HB.out.size))
        clear hB
        go_wp2_with fail
        go_ret
        exact ⟨rfl, HB.out⟩
    · generalize fpR ps ts n = A at *
      generalize cnR ps ts n = N at *
      generalize skC ps ts n = q at *
      have hq1 : (q != 0) = true := by simpa using hz
      have hq2 : (q == q) = true := by simp
      clear hz g1 g2 tml hml t50
      go_enter Tryz.func5, Tryz.ntmps5
      go_wp2_with fail
      refine (HL.out _).mono ?_
      rintro e we0 ⟨rfl, rfl⟩
      go_wp2_with fail
      refine (HM.out _ HT.out).mono ?_
      rintro e w1 ⟨rfl, hB⟩
      have HP := Lib.hid (HP.out.below hB (Nat.le_refl _))
      have HT := Lib.hid (HT.out.below hB (Nat.le_refl _))
      have HB := Lib.hid hB
      clear hB
      go_wp2_with fail
      refine (C1.out _ HP.out HT.out).mono ?_
      rintro e w2 ⟨rfl, hB⟩
      have HP := Lib.hid (HP.out.below hB (Nat.le_refl _))
      have HT := Lib.hid (HT.out.below hB (Nat.le_refl _))
      have HB := Lib.hid (HB.out.trans (hB.mono HB.out.size))
      clear hB
      go_wp2_with fail
      refine (C2.out _ HP.out HT.out).mono ?_
      rintro e w3 ⟨rfl, hB⟩
      have HP := Lib.hid (HP.out.below hB (Nat.le_refl _))
      have HT := Lib.hid (HT.out.below hB (Nat.le_refl _))
      have HB := Lib.hid (HB.out.trans (hB.mono HB.out.size))
      clear hB
      go_wp2_with fail
      refine (C3.out _ HP.out HT.out).mono ?_
      rintro e w4 ⟨a1, k1, rfl, hq, hB⟩
      have HO1 := Lib.hid hq
      clear hq
      have HP := Lib.hid (HP.out.below hB (Nat.le_refl _))
      have HT := Lib.hid (HT.out.below hB (Nat.le_refl _))
      have HB := Lib.hid (HB.out.trans (hB.mono HB.out.size))
      clear hB
      go_wp2_with fail
      refine (C4.out _ HP.out HT.out).mono ?_
      rintro e w5 ⟨a2, k2, rfl, hq, hB⟩
      have HO1 := Lib.hid (own_below HO1.out hB (Nat.le_refl _))
      have HO2 := Lib.hid (ownL_of hq).at_
      have HO1 := Lib.hid (ownL_of HO1.out).at_
      clear hq
      have HP := Lib.hid (HP.out.below hB (Nat.le_refl _))
      have HT := Lib.hid (HT.out.below hB (Nat.le_refl _))
      have HB := Lib.hid (HB.out.trans (hB.mono HB.out.size))
      clear hB
      go_wp2_with fail
      refine (HS.out _ _ _ _ _ HO1.out HO2.out).mono ?_
      rintro e w6 ⟨rfl, hB⟩
      have HB := Lib.hid (HB.out.trans (hB.mono HB.out.size))
      clear hB HO1 HO2
      go_wp2_with fail
      refine (HK.out _).mono ?_
      rintro e w9 ⟨rfl, hB⟩
      have HB := Lib.hid (HB.out.trans (hB.mono HB.out.size))
      clear hB
      go_wp2_with fail
      go_ret
      exact ⟨rfl, HB.out⟩

end Go.Proofs.YtjciojoeifekeaaGreat
