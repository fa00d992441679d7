/- BlameChecks: the walk. -/
import Derived.Test.YtgoidphamkpmdaaBlI
import Derived.Test.YtgoidphamkpmdaaCkb
set_option linter.unusedVariables false
set_option linter.unusedSimpArgs false
namespace Go.Proofs.Ytgoidphamkpmdaa
open Go.RowKit Tinker

set_option maxRecDepth 100000 in
set_option maxHeartbeats 4000000 in
theorem blameChecks_walk (a : Option Addr) (ca : Nat) (f : List (List Int)) (b : Option Addr) (cb : Nat) (g : List (List Int)) (w : World) (hf : RowsAt w a f) (hc0 : a = none → ca = 0) (hg : RowsAt w b g) (hc1 : b = none → cb = 0) :
    Calls Try.prog 5 #[.slice a f.length ca, .slice b g.length cb] w fun e w' => e = .returned (.bool true) ∧ Below w.heap.size w w' := by
  clear hc0 hc1
  have HL := Lib.hid (long3_any a ca f w hf)
  have HL2 := Lib.hid (long3_any b cb g w hg)
  have HK := Lib.hid (fun w => known3_true w)
  cases hl : longF f
  · rw [hl] at HL
    obtain ⟨hm0, hm⟩ := longF_no hl
    cases hl2 : longF g
    · rw [hl2] at HL2
      obtain ⟨hg0, hmg⟩ := longF_no hl2
      have C1 := Lib.hid (fun w hf hg => CheckBlocker_any a b ca cb f g w hf hg hm hmg)
      have C2 := Lib.hid (fun w hf hg => rCheckBlocker_any a b ca cb f g w hf hg hm hmg)
      have HF := Lib.hid hf
      have HG := Lib.hid hg
      generalize cbC f g = c at C1 C2
      clear hf hg hl hl2 hm0 hm hg0 hmg
      go_enter Try.func5, Try.ntmps5
      go_wp2_with fail
      refine HL.out.mono ?_
      rintro e w1 ⟨rfl, rfl⟩
      go_wp2_with fail
      refine HL2.out.mono ?_
      rintro e w1 ⟨rfl, rfl⟩
      go_wp2_with fail
      refine (C1.out _ HF.out HG.out).mono ?_
      rintro e w1 ⟨rfl, hB1⟩
      have HB1 := Lib.hid hB1
      clear hB1
      go_wp2_with fail
      refine (C2.out _ (HF.out.below HB1.out (Nat.le_refl _)) (HG.out.below HB1.out (Nat.le_refl _))).mono ?_
      rintro e w2 ⟨rfl, hB2⟩
      have HB2 := Lib.hid (HB1.out.trans (hB2.mono HB1.out.size))
      clear hB2
      go_wp2_with fail
      refine (HK.out _).mono ?_
      rintro e w3 ⟨rfl, hB⟩
      go_wp2_with fail
      go_ret
      exact ⟨rfl, HB2.out.trans (hB.mono HB2.out.size)⟩
    · rw [hl2] at HL2
      clear hf hg hl hl2 hm0 hm
      go_enter Try.func5, Try.ntmps5
      go_wp2_with fail
      refine HL.out.mono ?_
      rintro e w1 ⟨rfl, rfl⟩
      go_wp2_with fail
      refine HL2.out.mono ?_
      rintro e w1 ⟨rfl, rfl⟩
      go_wp2_with fail
      refine (HK.out _).mono ?_
      rintro e w3 ⟨rfl, hB⟩
      go_wp2_with fail
      go_ret
      exact ⟨rfl, hB⟩
  · rw [hl] at HL
    clear hf hg hl
    go_enter Try.func5, Try.ntmps5
    go_wp2_with fail
    refine HL.out.mono ?_
    rintro e w1 ⟨rfl, rfl⟩
    go_wp2_with fail
    refine (HK.out _).mono ?_
    rintro e w3 ⟨rfl, hB⟩
    go_wp2_with fail
    go_ret
    exact ⟨rfl, hB⟩

end Go.Proofs.Ytgoidphamkpmdaa
