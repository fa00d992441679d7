/- CodePuts: the walk. -/
import Derived.Test.YtmideaancmpafaaPutB
import Derived.Test.YtmideaancmpafaaKnownT
set_option linter.unusedVariables false
set_option linter.unusedSimpArgs false
namespace Go.Proofs.Ytmideaancmpafaa
open Go.RowKit Tinker

set_option maxRecDepth 100000 in
set_option maxHeartbeats 1000000 in
theorem codePuts_walk (a : Option Addr) (ca : Nat) (ps : List L) (at_ : Int) (l : L) (w : World) (hp : LinesAt w a ps) (hc : a = none → ca = 0) :
    Calls Try.prog 10 #[.slice a ps.length ca, .int .i64 at_, lv l] w fun e w' => e = .returned (.bool true) ∧ Below w.heap.size w w' := by
  unfold lv
  by_cases hL : 100 < ps.length
  · have hd : decide ((100 : Int) < (ps.length : Int)) = true := by simp; omega
    have HL := Lib.hid (fun w => long_any a ps.length ca w)
    rw [hd] at HL
    clear hd hp hc
    go_enter Try.func10, Try.ntmps10
    go_wp2_with (go_at_call 15; refine (HL.out _).mono ?_; rintro e w' ⟨rfl, rfl⟩)
    refine (known_true _).mono ?_
    rintro e w1 ⟨rfl, hB⟩
    go_wp2_with fail
    go_ret
    exact ⟨rfl, ((Below.refl _ _).alloc (Nat.le_refl _) _).trans (hB.mono (by simp))⟩
  · have hd : decide ((100 : Int) < (ps.length : Int)) = false := by simp; omega
    have hm : ps.length ≤ 1000 := by omega
    have HL := Lib.hid (fun w => long_any a ps.length ca w)
    rw [hd] at HL
    have HC := Lib.hid (fun w hp => copy_any a ca ps w hp hc hm)
    have HP := Lib.hid (fun a ca w hp => put_any a ca ps at_ l w hp hm)
    have HQ := Lib.hid (fun w hp => rPut_any a ca ps at_ l w hp hc hm)
    unfold lv at HP HQ
    have hRl := putP_length ps at_ l
    generalize putC ps at_ l = c at HP HQ
    generalize putP ps at_ l = R at HP HQ hRl
    have hI := BoxL.new l w
    have hcc : (c != c) = false := by simp
    clear hd hc
    go_enter Try.func10, Try.ntmps10
    go_wp2_with (go_at_call 15; refine (HL.out _).mono ?_; rintro e w' ⟨rfl, rfl⟩)
    refine (HC.out _ (hp.below hI.below (Nat.le_refl _))).mono ?_
    intro e w1 hG
    obtain ⟨a1, c1, rfl, hown, hB1⟩ := hG
    have hO := (lines_of_own hown).1
    replace hI := hI.low hB1 (.inl rfl)
    have c0 := hI.c0
    have c1' := hI.c1
    have c2 := hI.c2
    have c3 := hI.c3
    have HO := Lib.hid hO
    have hw1 := hI.below.size
    clear hown hB1 hO
    go_wp2_with fail
    refine (HP.out _ _ _ HO.out).mono ?_
    intro e w2 hG
    obtain ⟨a2, cc2, rfl, hown, hB2⟩ := hG
    have HW := Lib.hid hown
    replace hI := hI.low hB2 (.inl rfl)
    clear c0 c1' c2 c3 hown
    have c0 := hI.c0
    have c1' := hI.c1
    have c2 := hI.c2
    have c3 := hI.c3
    go_wp2_with fail
    refine (HQ.out _ (hp.below hI.below (Nat.le_refl _))).mono ?_
    intro e w3 hG
    obtain ⟨a3, cc3, rfl, hown, hB3⟩ := hG
    have HW2 := Lib.hid (own_below HW.out hB3 (Nat.le_refl _))
    have HB2 := Lib.hid (hB2.trans (hB3.mono hB2.size))
    have HR := Lib.hid (lines_of_own hown).1
    have HBs := Lib.hid (hI.low hB3 (.inl rfl)).below
    clear c0 c1' c2 c3 hown hI hB3 hB2 HW
    go_wp2_with fail
    refine (sameL_self R.length _ _ _ _ R _ rfl (lines_of_own HW2.out).1 HR.out (by omega)).mono ?_
    rintro e w4 ⟨rfl, hB4⟩
    have HW3 := Lib.hid (own_below HW2.out hB4 (Nat.le_refl _))
    have HB3 := Lib.hid (HB2.out.trans (hB4.mono HB2.out.size))
    have HBt := Lib.hid (HBs.out.trans (hB4.mono HBs.out.size))
    clear hB4 HW2 HR
    have hsz := HBs.out.size
    go_wp2_with fail
    go_loopw [12] (fun s12 wr => ∃ (k : Nat) (qs : List L), k ≤ R.length ∧ s12 = .int .i64 k ∧ qs.length = R.length ∧ wr.ownsRow w1.heap.size 40 4 (.slice a2 R.length cc2) R.length (lc qs) ∧ Below w1.heap.size w1 wr ∧ Below w.heap.size w wr) (fun s12 _ => R.length - (intOf s12).toNat)
    case atStart => exact ⟨0, R, Nat.zero_le _, rfl, rfl, HW3.out, HB3.out, HBt.out⟩
    case round =>
      obtain ⟨k, qs, hk, rfl, hql, hown, hb1, hb2⟩ := hrel
      by_cases hlt : k < R.length
      · obtain ⟨g, rfl⟩ := own_form hown (by omega)
        have hkq : k < qs.length := by omega
        have HTh := Lib.hid (own_there hown hkq)
        have hg := own_base' hown
        have HO2 := Lib.hid (one_line ⟨-1, 0, 0, 0⟩)
        have HN := Lib.hid (own_setLine hown hkq ⟨-1, 0, 0, 0⟩)
        have HS := Lib.hid hown
        clear hown
        go_wp2_with (refine wpList_store_mid rfl 40 (.tmp 50) (.tmp 49) rfl g (k * 4) #[.int .i64 (-1), .int .i64 0, .int .i64 0, .int .i64 0] rfl rfl HTh.out info_ln HO2.out ?_)
        go_roundw
        case rel =>
          rw [setCells4]
          have h1 : w.heap.size ≤ g := by omega
          exact ⟨k + 1, qs.set k ⟨-1, 0, 0, 0⟩, by omega, by go_num, by rw [List.length_set]; exact hql, HN.out,
            (((hb1.setCell (p := ⟨g, _, none⟩) hg _).setCell (p := ⟨g, _, none⟩) hg _).setCell (p := ⟨g, _, none⟩) hg _).setCell (p := ⟨g, _, none⟩) hg _,
            (((hb2.setCell (p := ⟨g, _, none⟩) h1 _).setCell (p := ⟨g, _, none⟩) h1 _).setCell (p := ⟨g, _, none⟩) h1 _).setCell (p := ⟨g, _, none⟩) h1 _⟩
        case measure => simp [intOf]; omega
      · clear hown
        go_wp2_with fail
        refine (sameL_self ps.length _ _ _ _ ps _ rfl (HO.out.below hb1 (Nat.le_refl _)) (hp.below hb2 (Nat.le_refl _)) hm).mono ?_
        rintro e w5 ⟨rfl, hB5⟩
        have hb3 := hb2.trans (hB5.mono hb2.size)
        go_wp2_with fail
        refine (known_true _).mono ?_
        rintro e w6 ⟨rfl, hB6⟩
        go_wp2_with fail
        go_ret
        exact ⟨rfl, hb3.trans (hB6.mono hb3.size)⟩

end Go.Proofs.Ytmideaancmpafaa
