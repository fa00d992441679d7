/- BlameHits: the walk. -/
import Derived.Test.YtgoidphamkpmdaaBlI
set_option linter.unusedVariables false
set_option linter.unusedSimpArgs false
namespace Go.Proofs.Ytgoidphamkpmdaa
open Go.RowKit Tinker

set_option maxRecDepth 100000 in
set_option maxHeartbeats 4000000 in
theorem blameHits_walk (a : Option Addr) (ca : Nat) (f : List (List Int)) (b : Option Addr) (cb : Nat) (s : List Int) (w : World) (hf : RowsAt w a f) (hc0 : a = none → ca = 0) (hs : IntsAt w b s) (hc1 : b = none → cb = 0) :
    Calls Try.prog 3 #[.slice a f.length ca, .slice b s.length cb] w fun e w' => e = .returned (.bool true) ∧ Below w.heap.size w w' := by
  clear hc0 hc1
  have HL := Lib.hid (long3_any a ca f w hf)
  have HS := Lib.hid (large3_any b s.length cb w)
  have HK := Lib.hid (fun w => known3_true w)
  cases hl : longF f
  · rw [hl] at HL
    obtain ⟨hm0, hm⟩ := longF_no hl
    by_cases hg : 100 < s.length
    · rw [show decide ((100 : Int) < (s.length : Int)) = true by simp; omega] at HS
      clear hf hs hl hm hm0 hg
      go_enter Try.func3, Try.ntmps3
      go_wp2_with fail
      refine HL.out.mono ?_
      rintro e w1 ⟨rfl, rfl⟩
      go_wp2_with fail
      refine HS.out.mono ?_
      rintro e w1 ⟨rfl, rfl⟩
      go_wp2_with fail
      refine (HK.out _).mono ?_
      rintro e w2 ⟨rfl, hB⟩
      go_wp2_with fail
      go_ret
      exact ⟨rfl, hB⟩
    · rw [show decide ((100 : Int) < (s.length : Int)) = false by simp; omega] at HS
      have C1 := Lib.hid (fun w hf hs => Hits_any a b ca cb f s w hf hs hm (by omega))
      have C2 := Lib.hid (fun w hf hs => rHits_any a b ca cb f s w hf hs hm (by omega))
      have C3 := Lib.hid (fun w hf => validateF_any a ca f w hf hm)
      have C4 := Lib.hid (fun w hf => rValidate3_any a ca f w hf hm)
      have HF := Lib.hid hf
      have HI := Lib.hid hs
      generalize hitV f s = V at C1 C2
      generalize hitC f s = c at C1 C2
      generalize vfam f = v at C3 C4
      clear hf hs hl hm hm0 hg
      go_enter Try.func3, Try.ntmps3
      go_wp2_with fail
      refine HL.out.mono ?_
      rintro e w1 ⟨rfl, rfl⟩
      go_wp2_with fail
      refine HS.out.mono ?_
      rintro e w1 ⟨rfl, rfl⟩
      go_wp2_with fail
      refine (C1.out _ HF.out HI.out).mono ?_
      rintro e w1 ⟨rfl, hB1⟩
      have HB1 := Lib.hid hB1
      clear hB1
      go_wp2_with fail
      refine (C2.out _ (HF.out.below HB1.out (Nat.le_refl _)) (HI.out.below HB1.out (Nat.le_refl _))).mono ?_
      rintro e w2 ⟨rfl, hB2⟩
      have HB2 := Lib.hid (HB1.out.trans (hB2.mono HB1.out.size))
      clear hB2
      go_wp2_with fail
      refine (C3.out _ (HF.out.below HB2.out (Nat.le_refl _))).mono ?_
      rintro e w3 ⟨rfl, hB3⟩
      have HB3 := Lib.hid (HB2.out.trans (hB3.mono HB2.out.size))
      clear hB3
      go_wp2_with fail
      refine (C4.out _ (HF.out.below HB3.out (Nat.le_refl _))).mono ?_
      rintro e w4 ⟨rfl, hB4⟩
      have HB4 := Lib.hid (HB3.out.trans (hB4.mono HB3.out.size))
      clear hB4
      go_wp2_with fail
      refine (HK.out _).mono ?_
      rintro e w5 ⟨rfl, hB⟩
      go_wp2_with fail
      go_ret
      exact ⟨rfl, HB4.out.trans (hB.mono HB4.out.size)⟩
  · rw [hl] at HL
    clear hf hs hl
    go_enter Try.func3, Try.ntmps3
    go_wp2_with fail
    refine HL.out.mono ?_
    rintro e w1 ⟨rfl, rfl⟩
    go_wp2_with fail
    refine (HK.out _).mono ?_
    rintro e w2 ⟨rfl, hB⟩
    go_wp2_with fail
    go_ret
    exact ⟨rfl, hB⟩

end Go.Proofs.Ytgoidphamkpmdaa
