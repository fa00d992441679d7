/- The walk of SeekDoubles. -/
import Derived.Test.YtfclfmloceddfaaGreatDbD
import Derived.Test.YtfclfmloceddfaaGreatDbH
import Derived.Test.YtfclfmloceddfaaGreatSkC
import Derived.Test.YtfclfmloceddfaaGreatLng
import Derived.Test.YtfclfmloceddfaaGreatMny
import Derived.Test.YtfclfmloceddfaaGreatSnr
set_option linter.unusedVariables false
set_option linter.unusedSimpArgs false
namespace Go.Proofs.YtfclfmloceddfaaGreat
open Go.RowKit Go.Shelf Tinker

theorem db_facts {ps : List L} {ts : List T} (h : dbB ps ts = true) : skC ps ts 0 = 0 ∧ (dbQ ps ts).length = 2 ∧ vpx ps (dbQ ps ts) (vts ts) = 0 ∧ gdR ps (dbQ ps ts) ts = true := by
  unfold dbB at h
  split at h
  · rename_i hz
    obtain ⟨v1, v2, v3, v4⟩ := skC_ok hz
    obtain ⟨o, ho⟩ := Option.isSome_iff_exists.1 h
    obtain ⟨y, s⟩ := o
    have hq : dbQ ps ts = pE y := by
      unfold dbQ dbL
      rw [if_pos hz, ho]
    obtain ⟨b1, b2, b3⟩ := dmX_ok ho
    have v := pE_ok v1 b1
    rw [hq]
    refine ⟨hz, rfl, by rw [v2]; exact v, ?_⟩
    unfold gdR
    rw [v2, if_pos v]
    exact b2
  · cases h
theorem db_none {ps : List L} {ts : List T} (h : dbB ps ts = false) : dbQ ps ts = [] := by
  unfold dbB at h
  unfold dbQ
  split at h
  · rename_i hz
    rw [if_pos hz]
    unfold dbL
    cases hq : dbO ps ts with
    | none => rfl
    | some y => rw [hq] at h; cases h
  · rename_i hz
    rw [if_neg hz]
theorem dbQ_len (ps : List L) (ts : List T) : (dbQ ps ts).length ≤ 2 := by
  cases h : dbB ps ts
  · rw [db_none h]; simp
  · rw [(db_facts h).2.1]; omega

set_option maxRecDepth 100000 in
set_option maxHeartbeats 8000000 in
theorem seekDoubles_walk (a : Option Addr) (ca : Nat) (ps : List L) (h : Option Addr) (ch : Nat) (ts : List T) (w : World) (hp : LinesAt w a ps) (hts : TestsAt w h ts) (ht : ts.length ≤ maxLen) :
    Calls Tryz.prog 3 #[.slice a ps.length ca, .slice h ts.length ch] w fun e w' => e = .returned (.bool true) ∧ Below w.heap.size w w' := by
  have HK := Lib.hid (fun w => same5_any w)
  have HL := Lib.hid (fun w => long5_any a none ps.length 0 ca 0 w)
  have HM := Lib.hid (fun w h1 => many4_any h ch ts w h1 ht)
  have HP := Lib.hid hp
  have HT := Lib.hid hts
  clear hp hts
  by_cases g1 : 100 < ps.length
  · rw [show (decide (100 < ps.length) || decide (100 < 0)) = true by simpa using g1] at HL
    clear g1 HP HT HM
    go_enter Tryz.func3, Tryz.ntmps3
    go_wp2_with fail
    refine (HL.out _).mono ?_
    rintro e we0 ⟨rfl, rfl⟩
    go_wp2_with fail
    refine (HK.out _).mono ?_
    rintro e w9 ⟨rfl, hB⟩
    have HB := Lib.hid (hB)
    clear hB
    go_wp2_with fail
    go_ret
    exact ⟨rfl, HB.out⟩
  rw [show (decide (100 < ps.length) || decide (100 < 0)) = false by simp; omega] at HL
  cases g2 : manyC ts
  case true =>
    rw [g2] at HM
    clear g1 g2
    go_enter Tryz.func3, Tryz.ntmps3
    go_wp2_with fail
    refine (HL.out _).mono ?_
    rintro e we0 ⟨rfl, rfl⟩
    go_wp2_with fail
    refine (HM.out _ HT.out).mono ?_
    rintro e w1 ⟨rfl, hB⟩
    have HP := Lib.hid (HP.out.below hB (Nat.le_refl _))
    have HT := Lib.hid (HT.out.below hB (Nat.le_refl _))
    have HB := Lib.hid hB
    clear hB
    go_wp2_with fail
    refine (HK.out _).mono ?_
    rintro e w9 ⟨rfl, hB⟩
    have HB := Lib.hid (HB.out.trans (hB.mono HB.out.size))
    clear hB
    go_wp2_with fail
    go_ret
    exact ⟨rfl, HB.out⟩
  case false =>
    obtain ⟨t50, tml⟩ := manyC_no g2
    rw [g2] at HM
    have hml : ∀ t ∈ ts, t.inn.length ≤ 1000 := fun t h => Nat.le_trans (tml t h) (by decide)
    have C1 := Lib.hid (fun w h1 h2 => sDouble_any a h ca ch ps ts w h1 h2 (by omega) (by omega) hml)
    have C2 := Lib.hid (fun w h1 h2 => rDouble_of a h ca ch ps ts w h1 h2 (fun w g1 g2 g3 g4 => rdouble_any a h ca ch ps ts w g1 g2 g3 g4))
    have HS := Lib.hid (fun a b c d w h1 h2 => sameE5_self (dbQ ps ts).length a b c d (dbQ ps ts) w rfl h1 h2 (by have := dbQ_len ps ts; omega))
    have HG := Lib.hid (fun g k w h1 h2 h3 => pIsGood_any a g h ca k ch ps (dbQ ps ts) ts w h1 h2 h3 (by have := dbQ_len ps ts; omega) (by omega) hml (by omega))
    cases hb : dbB ps ts
    case true =>
      obtain ⟨f1, f2, f3, f4⟩ := db_facts hb
      rw [f3, f4] at HG
      rw [hb, f1] at C1 C2
      unfold GivesDbE at C1 C2
      rw [f2] at HG HS C1 C2
      generalize dbQ ps ts = DQ at *
      clear hb f1 f2 f3 f4 g1 g2 tml hml t50
      go_enter Tryz.func3, Tryz.ntmps3
      go_wp2_with fail
      refine (HL.out _).mono ?_
      rintro e we0 ⟨rfl, rfl⟩
      go_wp2_with fail
      refine (HM.out _ HT.out).mono ?_
      rintro e w1 ⟨rfl, hB⟩
      have HP := Lib.hid (HP.out.below hB (Nat.le_refl _))
      have HT := Lib.hid (HT.out.below hB (Nat.le_refl _))
      have HB := Lib.hid hB
      clear hB
      go_wp2_with fail
      refine (C1.out _ HP.out HT.out).mono ?_
      rintro e w2 ⟨a1, k1, rfl, hq, hB⟩
      have HE1 := Lib.hid hq
      have HP := Lib.hid (HP.out.below hB (Nat.le_refl _))
      have HT := Lib.hid (HT.out.below hB (Nat.le_refl _))
      have HB := Lib.hid (HB.out.trans (hB.mono HB.out.size))
      clear hq hB
      go_wp2_with fail
      refine (C2.out _ HP.out HT.out).mono ?_
      rintro e w3 ⟨a2, k2, rfl, hq, hB⟩
      have HE2 := Lib.hid hq
      have HE1 := Lib.hid (HE1.out.below hB (Nat.le_refl _))
      have HP := Lib.hid (HP.out.below hB (Nat.le_refl _))
      have HT := Lib.hid (HT.out.below hB (Nat.le_refl _))
      have HB := Lib.hid (HB.out.trans (hB.mono HB.out.size))
      clear hq hB
      go_wp2_with fail
      refine (HS.out _ _ _ _ _ HE1.out HE2.out).mono ?_
      rintro e w4 ⟨rfl, hB⟩
      have HE1 := Lib.hid (HE1.out.below hB (Nat.le_refl _))
      have HP := Lib.hid (HP.out.below hB (Nat.le_refl _))
      have HT := Lib.hid (HT.out.below hB (Nat.le_refl _))
      have HB := Lib.hid (HB.out.trans (hB.mono HB.out.size))
      clear hB HE2
      go_wp2_with fail
      refine (HG.out _ _ _ HP.out HE1.out HT.out).mono ?_
      rintro e w5 ⟨rfl, hB⟩
      have HB := Lib.hid (HB.out.trans (hB.mono HB.out.size))
      clear hB
      go_wp2_with fail
      refine (HK.out _).mono ?_
      rintro e w9 ⟨rfl, hB⟩
      have HB := Lib.hid (HB.out.trans (hB.mono HB.out.size))
      clear hB
      go_wp2_with fail
      go_ret
      exact ⟨rfl, HB.out⟩
    case false =>
      have f1 := db_none hb
      have e2 : (skC ps ts 0 != skC ps ts 0) = false := by simp
      rw [hb] at C1 C2
      unfold GivesDbE at C1 C2
      rw [f1] at HS C1 C2
      generalize skC ps ts 0 = q at *
      clear hb f1 HG g1 g2 tml hml t50
      go_enter Tryz.func3, Tryz.ntmps3
      go_wp2_with fail
      refine (HL.out _).mono ?_
      rintro e we0 ⟨rfl, rfl⟩
      go_wp2_with fail
      refine (HM.out _ HT.out).mono ?_
      rintro e w1 ⟨rfl, hB⟩
      have HP := Lib.hid (HP.out.below hB (Nat.le_refl _))
      have HT := Lib.hid (HT.out.below hB (Nat.le_refl _))
      have HB := Lib.hid hB
      clear hB
      go_wp2_with fail
      refine (C1.out _ HP.out HT.out).mono ?_
      rintro e w2 ⟨a1, k1, rfl, hq, hB⟩
      have HE1 := Lib.hid hq
      have HP := Lib.hid (HP.out.below hB (Nat.le_refl _))
      have HT := Lib.hid (HT.out.below hB (Nat.le_refl _))
      have HB := Lib.hid (HB.out.trans (hB.mono HB.out.size))
      clear hq hB
      go_wp2_with fail
      refine (C2.out _ HP.out HT.out).mono ?_
      rintro e w3 ⟨a2, k2, rfl, hq, hB⟩
      have HE2 := Lib.hid hq
      have HE1 := Lib.hid (HE1.out.below hB (Nat.le_refl _))
      have HP := Lib.hid (HP.out.below hB (Nat.le_refl _))
      have HT := Lib.hid (HT.out.below hB (Nat.le_refl _))
      have HB := Lib.hid (HB.out.trans (hB.mono HB.out.size))
      clear hq hB
      go_wp2_with fail
      refine (HS.out _ _ _ _ _ HE1.out HE2.out).mono ?_
      rintro e w4 ⟨rfl, hB⟩
      have HE1 := Lib.hid (HE1.out.below hB (Nat.le_refl _))
      have HP := Lib.hid (HP.out.below hB (Nat.le_refl _))
      have HT := Lib.hid (HT.out.below hB (Nat.le_refl _))
      have HB := Lib.hid (HB.out.trans (hB.mono HB.out.size))
      clear hB HE2
      go_wp2_with fail
      refine (HK.out _).mono ?_
      rintro e w9 ⟨rfl, hB⟩
      have HB := Lib.hid (HB.out.trans (hB.mono HB.out.size))
      clear hB
      go_wp2_with fail
      go_ret
      exact ⟨rfl, HB.out⟩

end Go.Proofs.YtfclfmloceddfaaGreat
