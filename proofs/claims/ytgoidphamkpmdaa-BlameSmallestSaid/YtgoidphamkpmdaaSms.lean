/- BlameSmallest: the walk. -/
import Derived.Test.YtgoidphamkpmdaaBlI
import Derived.Test.YtgoidphamkpmdaaRfi
set_option linter.unusedVariables false
set_option linter.unusedSimpArgs false
namespace Go.Proofs.Ytgoidphamkpmdaa
open Go.RowKit Tinker

theorem fi_hits {f : List (List Int)} (h : fiB f = true) : hitV f (fiL f) = true ∧ hitC f (fiL f) = 0 := by
  unfold fiB at h
  by_cases hz : vfam f = 0
  · rw [if_pos hz] at h
    have hm : firM (fmM f) ∈ blkM (fmM f) := by
      unfold firM
      refine minM_mem fun e => ?_
      unfold firB at h
      rw [e] at h
      exact absurd h (by decide)
    have hl := firM_lt (fmM f)
    unfold hitV hitC fiL
    rw [if_pos hz, if_pos hz, if_pos hz, setB_nums _ hl, if_pos rfl, if_pos rfl, maskM_nums _ hl]
    exact ⟨(blk_iff.1 hm).2.1, rfl⟩
  · rw [if_neg hz] at h
    exact absurd h (by decide)

set_option maxRecDepth 100000 in
set_option maxHeartbeats 4000000 in
theorem blameSmallest_walk (a : Option Addr) (ca : Nat) (f : List (List Int)) (w : World) (hf : RowsAt w a f) (hc0 : a = none → ca = 0) :
    Calls Try.prog 7 #[.slice a f.length ca] w fun e w' => e = .returned (.bool true) ∧ Below w.heap.size w w' := by
  clear hc0
  have HL := Lib.hid (long3_any a ca f w hf)
  have HK := Lib.hid (fun w => known3_true w)
  cases hl : longF f
  · rw [hl] at HL
    obtain ⟨hm0, hm⟩ := longF_no hl
    have C1 := Lib.hid (fun w hf => Smallest_any a ca f w hf hm)
    have C2 := Lib.hid (fun w hf => rSmallest_any a ca f w hf hm)
    have C3 := Lib.hid (fun w hf => First_any a ca f w hf hm)
    have C4 := Lib.hid (fun w hf => rFirst_any a ca f w hf hm)
    have hX := fiL_len f
    have C5 := Lib.hid (fun b cb w hf hs => Hits_any a b ca cb f (fiL f) w hf hs hm (by omega))
    have S1 := Lib.hid (fun b c cb cc w h1 h2 => same_self (fiL f).length b c cb cc (fiL f) w rfl h1 h2 (by omega))
    have HH := Lib.hid (fun h => fi_hits (f := f) h)
    have HF := Lib.hid hf
    generalize hitV f (fiL f) = V at C5 HH
    generalize hitC f (fiL f) = c at C5 HH
    generalize fiL f = X at C1 C2 C3 C4 C5 S1
    generalize fiB f = B at C1 C2 C3 C4 HH
    generalize vfam f = v at C1 C2 C3 C4
    clear hf hl hm hm0
    cases B
    · clear HH
      go_enter Try.func7, Try.ntmps7
      go_wp2_with fail
      refine HL.out.mono ?_
      rintro e w1 ⟨rfl, rfl⟩
      go_wp2_with fail
      refine (C1.out _ HF.out).mono ?_
      rintro e w1 ⟨rfl, hB1⟩
      have HB1 := Lib.hid hB1
      clear hB1
      go_wp2_with fail
      refine (C2.out _ (HF.out.below HB1.out (Nat.le_refl _))).mono ?_
      rintro e w2 ⟨rfl, hB2⟩
      have HB2 := Lib.hid (HB1.out.trans (hB2.mono HB1.out.size))
      clear hB2
      go_wp2_with fail
      refine (C3.out _ (HF.out.below HB2.out (Nat.le_refl _))).mono ?_
      rintro e w3 ⟨a3, c3, rfl, h3, hB3⟩
      have HB3 := Lib.hid (HB2.out.trans (hB3.mono HB2.out.size))
      have HI3 := Lib.hid h3
      clear hB3 h3
      go_wp2_with fail
      refine (C4.out _ (HF.out.below HB3.out (Nat.le_refl _))).mono ?_
      rintro e w4 ⟨a4, c4, rfl, h4, hB4⟩
      have HI3 := Lib.hid (HI3.out.below hB4 (Nat.le_refl _))
      have HI4 := Lib.hid h4
      have HB4 := Lib.hid (HB3.out.trans (hB4.mono HB3.out.size))
      clear hB4 h4
      go_wp2_with fail
      refine (S1.out _ _ _ _ _ HI3.out HI4.out).mono ?_
      rintro e w5 ⟨rfl, hB5⟩
      have HI3 := Lib.hid (HI3.out.below hB5 (Nat.le_refl _))
      have HB5 := Lib.hid (HB4.out.trans (hB5.mono HB4.out.size))
      clear hB5
      go_wp2_with fail
      refine (C5.out _ _ _ (HF.out.below HB5.out (Nat.le_refl _)) HI3.out).mono ?_
      rintro e w6 ⟨rfl, hB6⟩
      have HB6 := Lib.hid (HB5.out.trans (hB6.mono HB5.out.size))
      clear hB6
      go_wp2_with fail
      refine (HK.out _).mono ?_
      rintro e w7 ⟨rfl, hB⟩
      go_wp2_with fail
      go_ret
      exact ⟨rfl, HB6.out.trans (hB.mono HB6.out.size)⟩
    · obtain ⟨rfl, rfl⟩ := HH.out rfl
      clear HH
      go_enter Try.func7, Try.ntmps7
      go_wp2_with fail
      refine HL.out.mono ?_
      rintro e w1 ⟨rfl, rfl⟩
      go_wp2_with fail
      refine (C1.out _ HF.out).mono ?_
      rintro e w1 ⟨rfl, hB1⟩
      have HB1 := Lib.hid hB1
      clear hB1
      go_wp2_with fail
      refine (C2.out _ (HF.out.below HB1.out (Nat.le_refl _))).mono ?_
      rintro e w2 ⟨rfl, hB2⟩
      have HB2 := Lib.hid (HB1.out.trans (hB2.mono HB1.out.size))
      clear hB2
      go_wp2_with fail
      refine (C3.out _ (HF.out.below HB2.out (Nat.le_refl _))).mono ?_
      rintro e w3 ⟨a3, c3, rfl, h3, hB3⟩
      have HB3 := Lib.hid (HB2.out.trans (hB3.mono HB2.out.size))
      have HI3 := Lib.hid h3
      clear hB3 h3
      go_wp2_with fail
      refine (C4.out _ (HF.out.below HB3.out (Nat.le_refl _))).mono ?_
      rintro e w4 ⟨a4, c4, rfl, h4, hB4⟩
      have HI3 := Lib.hid (HI3.out.below hB4 (Nat.le_refl _))
      have HI4 := Lib.hid h4
      have HB4 := Lib.hid (HB3.out.trans (hB4.mono HB3.out.size))
      clear hB4 h4
      go_wp2_with fail
      refine (S1.out _ _ _ _ _ HI3.out HI4.out).mono ?_
      rintro e w5 ⟨rfl, hB5⟩
      have HI3 := Lib.hid (HI3.out.below hB5 (Nat.le_refl _))
      have HB5 := Lib.hid (HB4.out.trans (hB5.mono HB4.out.size))
      clear hB5
      go_wp2_with fail
      refine (C5.out _ _ _ (HF.out.below HB5.out (Nat.le_refl _)) HI3.out).mono ?_
      rintro e w6 ⟨rfl, hB6⟩
      have HB6 := Lib.hid (HB5.out.trans (hB6.mono HB5.out.size))
      clear hB6
      go_wp2_with fail
      refine (HK.out _).mono ?_
      rintro e w7 ⟨rfl, hB⟩
      go_wp2_with fail
      go_ret
      exact ⟨rfl, HB6.out.trans (hB.mono HB6.out.size)⟩
  · rw [hl] at HL
    clear hf hl
    go_enter Try.func7, Try.ntmps7
    go_wp2_with fail
    refine HL.out.mono ?_
    rintro e w1 ⟨rfl, rfl⟩
    go_wp2_with fail
    refine (HK.out _).mono ?_
    rintro e w2 ⟨rfl, hB⟩
    go_wp2_with fail
    go_ret
    exact ⟨rfl, hB⟩

end Go.Proofs.Ytgoidphamkpmdaa
