/- BlameWithout: the walk. -/
import Derived.Test.YtgoidphamkpmdaaBlI
import Derived.Test.YtgoidphamkpmdaaWto
set_option linter.unusedVariables false
set_option linter.unusedSimpArgs false
namespace Go.Proofs.Ytgoidphamkpmdaa
open Go.RowKit Tinker

set_option maxRecDepth 100000 in
set_option maxHeartbeats 4000000 in
theorem blameWithout_walk (a : Option Addr) (ca : Nat) (f : List (List Int)) (n : Int) (w : World) (hf : RowsAt w a f) (hc0 : a = none → ca = 0) :
    Calls Try.prog 10 #[.slice a f.length ca, .int .i64 n] w fun e w' => e = .returned (.bool true) ∧ Below w.heap.size w w' := by
  clear hc0
  have HL := Lib.hid (long3_any a ca f w hf)
  have HK := Lib.hid (fun w => known3_true w)
  cases hl : longF f
  · rw [hl] at HL
    obtain ⟨hm0, hm⟩ := longF_no hl
    have C1 := Lib.hid (fun w hf => Without_any a ca f n w hf hm)
    have C2 := Lib.hid (fun w hf => rWithout_any a ca f n w hf hm)
    have hX := wiL_len f n
    have hX2 := fun z h => wiL_small (f := f) (n := n) (z := z) h
    have S1 := Lib.hid (fun a' b' c' d' w h1 h2 => sameLists_self (wiL f n).length a' b' c' d' (wiL f n) w rfl h1 h2 (by omega) (fun z hz => by have := hX2 z hz; omega))
    have HF := Lib.hid hf
    generalize wiL f n = X at C1 C2 S1
    generalize wiC f n = v at C1 C2
    clear hf hl hm hm0 hX hX2
    go_enter Try.func10, Try.ntmps10
    go_wp2_with fail
    refine HL.out.mono ?_
    rintro e w1 ⟨rfl, rfl⟩
    go_wp2_with fail
    refine (C1.out _ HF.out).mono ?_
    rintro e w1 ⟨a1, c1, rfl, h1, hB1⟩
    have R1 := Lib.hid h1.at_
    have HB1 := Lib.hid hB1
    clear h1 hB1
    go_wp2_with fail
    refine (C2.out _ (HF.out.below HB1.out (Nat.le_refl _))).mono ?_
    rintro e w2 ⟨a2, c2, rfl, h2, hB2⟩
    have R1 := Lib.hid (R1.out.below hB2 (Nat.le_refl _))
    have R2 := Lib.hid h2.at_
    have HB2 := Lib.hid (HB1.out.trans (hB2.mono HB1.out.size))
    clear h2 hB2
    go_wp2_with fail
    refine (S1.out _ _ _ _ _ R1.out R2.out).mono ?_
    rintro e w3 ⟨rfl, hB3⟩
    have HB3 := Lib.hid (HB2.out.trans (hB3.mono HB2.out.size))
    clear hB3
    go_wp2_with fail
    refine (HK.out _).mono ?_
    rintro e w4 ⟨rfl, hB⟩
    go_wp2_with fail
    go_ret
    exact ⟨rfl, HB3.out.trans (hB.mono HB3.out.size)⟩
  · rw [hl] at HL
    clear hf hl
    go_enter Try.func10, Try.ntmps10
    go_wp2_with fail
    refine HL.out.mono ?_
    rintro e w1 ⟨rfl, rfl⟩
    go_wp2_with fail
    refine (HK.out _).mono ?_
    rintro e w2 ⟨rfl, hB⟩
    go_wp2_with fail
    go_ret
    exact ⟨rfl, hB⟩

end Go.Proofs.Ytgoidphamkpmdaa
