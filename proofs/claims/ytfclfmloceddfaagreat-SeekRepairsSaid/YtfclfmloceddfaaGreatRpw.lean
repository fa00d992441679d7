/- The walk of SeekRepairs. -/
import Derived.Test.YtfclfmloceddfaaGreatDbE
import Derived.Test.YtfclfmloceddfaaGreatRpM
import Derived.Test.YtfclfmloceddfaaGreatDbH
import Derived.Test.YtfclfmloceddfaaGreatSkC
import Derived.Test.YtfclfmloceddfaaGreatLng
import Derived.Test.YtfclfmloceddfaaGreatMny
import Derived.Test.YtfclfmloceddfaaGreatSnr
set_option linter.unusedVariables false
set_option linter.unusedSimpArgs false
namespace Go.Proofs.YtfclfmloceddfaaGreat
open Go.RowKit Go.Shelf Tinker

set_option maxRecDepth 100000 in
set_option maxHeartbeats 8000000 in
theorem seekRepairs_walk (a : Option Addr) (ca : Nat) (ps : List L) (h : Option Addr) (ch : Nat) (ts : List T) (w : World) (hp : LinesAt w a ps) (hts : TestsAt w h ts) (ht : ts.length ≤ maxLen) :
    Calls Tryz.prog 4 #[.slice a ps.length ca, .slice h ts.length ch] w fun e w' => e = .returned (.bool true) ∧ Below w.heap.size w w' := by
  have HK := Lib.hid (fun w => same5_any w)
  have HL := Lib.hid (fun w => long5_any a none ps.length 0 ca 0 w)
  have HM := Lib.hid (fun w h1 => many4_any h ch ts w h1 ht)
  have HP := Lib.hid hp
  have HT := Lib.hid hts
  clear hp hts
  by_cases g1 : 100 < ps.length
  · rw [show (decide (100 < ps.length) || decide (100 < 0)) = true by simpa using g1] at HL
    clear g1 HP HT HM
    go_enter Tryz.func4, Tryz.ntmps4
    go_wp2_with fail
    refine (HL.out _).mono ?_
    rintro e we0 ⟨rfl, rfl⟩
    go_wp2_with fail
    refine (HK.out _).mono ?_
    rintro e w9 ⟨rfl, hB⟩
    have HB := Lib.hid (hB)
    clear hB
    go_wp2_with fail
    go_ret
    exact ⟨rfl, HB.out⟩
  rw [show (decide (100 < ps.length) || decide (100 < 0)) = false by simp; omega] at HL
  cases g2 : manyC ts
  case true =>
    rw [g2] at HM
    clear g1 g2
    go_enter Tryz.func4, Tryz.ntmps4
    go_wp2_with fail
    refine (HL.out _).mono ?_
    rintro e we0 ⟨rfl, rfl⟩
    go_wp2_with fail
    refine (HM.out _ HT.out).mono ?_
    rintro e w1 ⟨rfl, hB⟩
    have HP := Lib.hid (HP.out.below hB (Nat.le_refl _))
    have HT := Lib.hid (HT.out.below hB (Nat.le_refl _))
    have HB := Lib.hid hB
    clear hB
    go_wp2_with fail
    refine (HK.out _).mono ?_
    rintro e w9 ⟨rfl, hB⟩
    have HB := Lib.hid (HB.out.trans (hB.mono HB.out.size))
    clear hB
    go_wp2_with fail
    go_ret
    exact ⟨rfl, HB.out⟩
  case false =>
    obtain ⟨t50, tml⟩ := manyC_no g2
    rw [g2] at HM
    have hml : ∀ t ∈ ts, t.inn.length ≤ 1000 := fun t h => Nat.le_trans (tml t h) (by decide)
    have C1 := Lib.hid (fun w h1 h2 => sRepair_any a h ca ch ps ts w h1 h2 (by omega) (by omega) hml)
    have C2 := Lib.hid (fun w h1 h2 => rRepair_of a h ca ch ps ts w h1 h2 (fun w g1 g2 g3 g4 => rdouble_any a h ca ch ps ts w g1 g2 g3 g4))
    unfold GivesRp at C1 C2
    cases hb : (rpQ ps ts).2.2
    case true =>
      obtain ⟨f1, f2, f3, f4, f5⟩ := rp_facts hb
      have HS := Lib.hid (fun a b c d w h1 h2 => sameE5_self (rpQ ps ts).1.length a b c d (rpQ ps ts).1 w rfl h1 h2 (by omega))
      have HG := Lib.hid (fun g k w h1 h2 h3 => pIsGood_any a g h ca k ch ps (rpQ ps ts).1 ts w h1 h2 h3 (by omega) (by omega) hml (by omega))
      have HN := Lib.hid (fun g k w h1 h2 h3 => pIsMinimal_any a g h ca k ch ps (rpQ ps ts).1 ts w h1 h2 h3 (by omega) (by omega) hml (by omega))
      rw [f2, f3] at HG
      rw [f2, f4] at HN
      rw [hb, f1] at C1 C2
      have e2 : ((rpQ ps ts).2.1 != (rpQ ps ts).2.1) = false := by simp
      generalize (rpQ ps ts).2.1 = n at *
      generalize (rpQ ps ts).1 = DQ at *
      clear hb f1 f2 f3 f4 f5 g1 g2 tml hml t50
      go_enter Tryz.func4, Tryz.ntmps4
      go_wp2_with fail
      refine (HL.out _).mono ?_
      rintro e we0 ⟨rfl, rfl⟩
      go_wp2_with fail
      refine (HM.out _ HT.out).mono ?_
      rintro e w1 ⟨rfl, hB⟩
      have HP := Lib.hid (HP.out.below hB (Nat.le_refl _))
      have HT := Lib.hid (HT.out.below hB (Nat.le_refl _))
      have HB := Lib.hid hB
      clear hB
      go_wp2_with fail
      refine (C1.out _ HP.out HT.out).mono ?_
      rintro e w2 ⟨a1, k1, rfl, hq, hB⟩
      have HE1 := Lib.hid hq
      have HP := Lib.hid (HP.out.below hB (Nat.le_refl _))
      have HT := Lib.hid (HT.out.below hB (Nat.le_refl _))
      have HB := Lib.hid (HB.out.trans (hB.mono HB.out.size))
      clear hq hB
      go_wp2_with fail
      refine (C2.out _ HP.out HT.out).mono ?_
      rintro e w3 ⟨a2, k2, rfl, hq, hB⟩
      have HE2 := Lib.hid hq
      have HE1 := Lib.hid (HE1.out.below hB (Nat.le_refl _))
      have HP := Lib.hid (HP.out.below hB (Nat.le_refl _))
      have HT := Lib.hid (HT.out.below hB (Nat.le_refl _))
      have HB := Lib.hid (HB.out.trans (hB.mono HB.out.size))
      clear hq hB
      go_wp2_with fail
      refine (HS.out _ _ _ _ _ HE1.out HE2.out).mono ?_
      rintro e w4 ⟨rfl, hB⟩
      have HE1 := Lib.hid (HE1.out.below hB (Nat.le_refl _))
      have HP := Lib.hid (HP.out.below hB (Nat.le_refl _))
      have HT := Lib.hid (HT.out.below hB (Nat.le_refl _))
      have HB := Lib.hid (HB.out.trans (hB.mono HB.out.size))
      clear hB HE2
      go_wp2_with fail
      refine (HG.out _ _ _ HP.out HE1.out HT.out).mono ?_
      rintro e w5 ⟨rfl, hB⟩
      have HE1 := Lib.hid (HE1.out.below hB (Nat.le_refl _))
      have HP := Lib.hid (HP.out.below hB (Nat.le_refl _))
      have HT := Lib.hid (HT.out.below hB (Nat.le_refl _))
      have HB := Lib.hid (HB.out.trans (hB.mono HB.out.size))
      clear hB
      go_wp2_with fail
      refine (HN.out _ _ _ HP.out HE1.out HT.out).mono ?_
      rintro e w6 ⟨rfl, hB⟩
      have HB := Lib.hid (HB.out.trans (hB.mono HB.out.size))
      clear hB
      go_wp2_with fail
      refine (HK.out _).mono ?_
      rintro e w9 ⟨rfl, hB⟩
      have HB := Lib.hid (HB.out.trans (hB.mono HB.out.size))
      clear hB
      go_wp2_with fail
      go_ret
      exact ⟨rfl, HB.out⟩
    case false =>
      obtain ⟨f1, f2⟩ := rp_none hb
      have HS := Lib.hid (fun a b c d w h1 h2 => sameE5_self 0 a b c d [] w rfl h1 h2 (by simp))
      have e2 : (skC ps ts 0 != skC ps ts 0) = false := by simp
      rw [hb, f1, f2] at C1 C2
      generalize skC ps ts 0 = q at *
      clear hb f1 f2 g1 g2 tml hml t50
      go_enter Tryz.func4, Tryz.ntmps4
      go_wp2_with fail
      refine (HL.out _).mono ?_
      rintro e we0 ⟨rfl, rfl⟩
      go_wp2_with fail
      refine (HM.out _ HT.out).mono ?_
      rintro e w1 ⟨rfl, hB⟩
      have HP := Lib.hid (HP.out.below hB (Nat.le_refl _))
      have HT := Lib.hid (HT.out.below hB (Nat.le_refl _))
      have HB := Lib.hid hB
      clear hB
      go_wp2_with fail
      refine (C1.out _ HP.out HT.out).mono ?_
      rintro e w2 ⟨a1, k1, rfl, hq, hB⟩
      have HE1 := Lib.hid hq
      have HP := Lib.hid (HP.out.below hB (Nat.le_refl _))
      have HT := Lib.hid (HT.out.below hB (Nat.le_refl _))
      have HB := Lib.hid (HB.out.trans (hB.mono HB.out.size))
      clear hq hB
      go_wp2_with fail
      refine (C2.out _ HP.out HT.out).mono ?_
      rintro e w3 ⟨a2, k2, rfl, hq, hB⟩
      have HE2 := Lib.hid hq
      have HE1 := Lib.hid (HE1.out.below hB (Nat.le_refl _))
      have HP := Lib.hid (HP.out.below hB (Nat.le_refl _))
      have HT := Lib.hid (HT.out.below hB (Nat.le_refl _))
      have HB := Lib.hid (HB.out.trans (hB.mono HB.out.size))
      clear hq hB
      go_wp2_with fail
      refine (HS.out _ _ _ _ _ HE1.out HE2.out).mono ?_
      rintro e w4 ⟨rfl, hB⟩
      have HE1 := Lib.hid (HE1.out.below hB (Nat.le_refl _))
      have HP := Lib.hid (HP.out.below hB (Nat.le_refl _))
      have HT := Lib.hid (HT.out.below hB (Nat.le_refl _))
      have HB := Lib.hid (HB.out.trans (hB.mono HB.out.size))
      clear hB HE2
      go_wp2_with fail
      refine (HK.out _).mono ?_
      rintro e w9 ⟨rfl, hB⟩
      have HB := Lib.hid (HB.out.trans (hB.mono HB.out.size))
      clear hB
      go_wp2_with fail
      go_ret
      exact ⟨rfl, HB.out⟩

end Go.Proofs.YtfclfmloceddfaaGreat
