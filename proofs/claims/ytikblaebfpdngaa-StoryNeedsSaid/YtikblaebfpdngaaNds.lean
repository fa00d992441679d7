/- StoryNeeds: the walk. -/
import Derived.Test.YtikblaebfpdngaaLng7
import Derived.Test.YtikblaebfpdngaaHtL
import Derived.Test.YtikblaebfpdngaaHdD
import Derived.Test.YtikblaebfpdngaaSm4
set_option linter.unusedVariables false
set_option linter.unusedSimpArgs false
namespace Go.Proofs.Ytikblaebfpdngaa
open Go.RowKit Tinker

set_option maxRecDepth 100000 in
set_option maxHeartbeats 8000000 in
theorem storyNeeds_walk (a : Option Addr) (ca : Nat) (ps : List L) (g : Option Addr) (cg : Nat) (h : List (List E)) (n : Int) (w : World) (hp : LinesAt w a ps) (hc : a = none → ca = 0) (hh : RowsEAt w g h) (hc1 : g = none → cg = 0) (hcg : h.length ≤ cg) (hml : h.length ≤ maxLen) :
    Calls Try.prog 4 #[.slice a ps.length ca, .slice g h.length cg, .int .i64 n] w fun e w' => e = .returned (.bool true) ∧ Below w.heap.size w w' := by
  have HK := Lib.hid (fun w => sane7_true w)
  have HL := Lib.hid (fun w hh => long7_any a g ps.length ca cg h w hh hml)
  have HP := Lib.hid hp
  have HH := Lib.hid hh
  cases hl : lng7 ps.length h
  · obtain ⟨hpl0, hhl0, hm0⟩ := lng7_no hl
    have hpl : ps.length ≤ 1000 := by omega
    have hhl : h.length ≤ 1000 := by omega
    have hm : ∀ x ∈ h, x.length ≤ 1000 := fun x hx => by have := hm0 x hx; omega
    rw [hl] at HL
    have C1 := Lib.hid (fun w h1 h2 => stDirect_any a g ca cg ps h n w h1 h2 hpl hhl hm)
    have C2 := Lib.hid (fun w h1 h2 => rDirect_any a g ca cg ps h n w h1 h2 hpl hhl hm)
    have C3 := Lib.hid (fun w h1 h2 => stNeeds_any a g ca cg ps h n w h1 h2 hpl hhl hm)
    have C4 := Lib.hid (fun w h1 h2 => rNeedsA_any a g ca cg ps h n w h1 h2 hpl hhl hm)
    have C5 := Lib.hid (fun w h1 h2 => stNeeded_any a g ca cg ps h n w h1 h2 hpl hhl hm)
    have C6 := Lib.hid (fun w h1 h2 => rNeededA_any a g ca cg ps h n w h1 h2 hpl hhl hm)
    have hq1 : (if vnC ps h n = 0 then ints (dirN h n.toNat) else []).length ≤ 1000 := by
      split
      · rename_i hz
        obtain ⟨_, m, rfl, hml⟩ := vnC_0 hz
        rw [ints_len]
        have := List.length_filter_le (fun d => touH (rpA h d) (rpA h m)) (List.range m)
        rw [List.length_range] at this
        show ((List.range m).filter fun d => touH (rpA h d) (rpA h m)).length ≤ 1000
        omega
      · simp
    have hq2 : (if vnC ps h n = 0 then ints (nedN h n.toNat) else []).length ≤ 1000 := by
      split
      · rw [ints_len]; exact Nat.le_trans (by unfold nedN; have := List.length_filter_le (ndB h n.toNat) (List.range h.length); rwa [List.length_range] at this) hhl
      · simp
    have hq3 : (if vnC ps h n = 0 then ints (nddN h n.toNat) else []).length ≤ 1000 := by
      split
      · rw [ints_len]; exact Nat.le_trans (by unfold nddN; have := List.length_filter_le (fun m => ndB h m n.toNat) (List.range h.length); rwa [List.length_range] at this) hhl
      · simp
    generalize (if vnC ps h n = 0 then ints (dirN h n.toNat) else []) = q1 at *
    generalize (if vnC ps h n = 0 then ints (nedN h n.toNat) else []) = q2 at *
    generalize (if vnC ps h n = 0 then ints (nddN h n.toNat) else []) = q3 at *
    generalize vnC ps h n = c at *
    have e1 : (c != c) = false := by simp
    have e2 : (c == c) = true := by simp
    have S1 := Lib.hid (fun a' b' c' d' w h1 h2 => sameI4_self q1.length a' b' c' d' q1 w rfl h1 h2 hq1)
    have S2 := Lib.hid (fun a' b' c' d' w h1 h2 => sameI4_self q2.length a' b' c' d' q2 w rfl h1 h2 hq2)
    have S3 := Lib.hid (fun a' b' c' d' w h1 h2 => sameI4_self q3.length a' b' c' d' q3 w rfl h1 h2 hq3)
    clear hp hh hc1 hml hl hm0
    go_enter Try.func4, Try.ntmps4
    go_wp2_with fail
    refine (HL.out _ HH.out).mono ?_
    rintro e w0 ⟨rfl, rfl⟩
    go_wp2_with fail
    refine (C1.out _ HP.out HH.out).mono ?_
    rintro e w1 ⟨a1, c1, rfl, ho, hB⟩
    have HB := Lib.hid hB
    have I1 := Lib.hid ((ints_of_own ho).1)
    clear hB ho
    go_wp2_with fail
    refine (C2.out _ (HP.out.below HB.out (Nat.le_refl _)) (HH.out.below HB.out (Nat.le_refl _))).mono ?_
    rintro e w2 ⟨a2, c2, rfl, ho, hB⟩
    have I1 := Lib.hid (I1.out.below hB (Nat.le_refl _))
    have HB := Lib.hid (HB.out.trans (hB.mono HB.out.size))
    have I2 := Lib.hid ((ints_of_own ho).1)
    clear hB ho
    go_wp2_with fail
    refine (C3.out _ (HP.out.below HB.out (Nat.le_refl _)) (HH.out.below HB.out (Nat.le_refl _))).mono ?_
    rintro e w3 ⟨a3, c3, rfl, ho, hB⟩
    have I1 := Lib.hid (I1.out.below hB (Nat.le_refl _))
    have I2 := Lib.hid (I2.out.below hB (Nat.le_refl _))
    have HB := Lib.hid (HB.out.trans (hB.mono HB.out.size))
    have I3 := Lib.hid ((ints_of_own ho).1)
    clear hB ho
    go_wp2_with fail
    refine (C4.out _ (HP.out.below HB.out (Nat.le_refl _)) (HH.out.below HB.out (Nat.le_refl _))).mono ?_
    rintro e w4 ⟨a4, c4, rfl, ho, hB⟩
    have I1 := Lib.hid (I1.out.below hB (Nat.le_refl _))
    have I2 := Lib.hid (I2.out.below hB (Nat.le_refl _))
    have I3 := Lib.hid (I3.out.below hB (Nat.le_refl _))
    have HB := Lib.hid (HB.out.trans (hB.mono HB.out.size))
    have I4 := Lib.hid ((ints_of_own ho).1)
    clear hB ho
    go_wp2_with fail
    refine (C5.out _ (HP.out.below HB.out (Nat.le_refl _)) (HH.out.below HB.out (Nat.le_refl _))).mono ?_
    rintro e w5 ⟨a5, c5, rfl, ho, hB⟩
    have I1 := Lib.hid (I1.out.below hB (Nat.le_refl _))
    have I2 := Lib.hid (I2.out.below hB (Nat.le_refl _))
    have I3 := Lib.hid (I3.out.below hB (Nat.le_refl _))
    have I4 := Lib.hid (I4.out.below hB (Nat.le_refl _))
    have HB := Lib.hid (HB.out.trans (hB.mono HB.out.size))
    have I5 := Lib.hid ((ints_of_own ho).1)
    clear hB ho
    go_wp2_with fail
    refine (C6.out _ (HP.out.below HB.out (Nat.le_refl _)) (HH.out.below HB.out (Nat.le_refl _))).mono ?_
    rintro e w6 ⟨a6, c6, rfl, ho, hB⟩
    have I1 := Lib.hid (I1.out.below hB (Nat.le_refl _))
    have I2 := Lib.hid (I2.out.below hB (Nat.le_refl _))
    have I3 := Lib.hid (I3.out.below hB (Nat.le_refl _))
    have I4 := Lib.hid (I4.out.below hB (Nat.le_refl _))
    have I5 := Lib.hid (I5.out.below hB (Nat.le_refl _))
    have HB := Lib.hid (HB.out.trans (hB.mono HB.out.size))
    have I6 := Lib.hid ((ints_of_own ho).1)
    clear hB ho
    go_wp2_with fail
    refine (S1.out _ _ _ _ _  I1.out I2.out).mono ?_
    rintro e w7 ⟨rfl, hB⟩
    have I1 := Lib.hid (I1.out.below hB (Nat.le_refl _))
    have I2 := Lib.hid (I2.out.below hB (Nat.le_refl _))
    have I3 := Lib.hid (I3.out.below hB (Nat.le_refl _))
    have I4 := Lib.hid (I4.out.below hB (Nat.le_refl _))
    have I5 := Lib.hid (I5.out.below hB (Nat.le_refl _))
    have I6 := Lib.hid (I6.out.below hB (Nat.le_refl _))
    have HB := Lib.hid (HB.out.trans (hB.mono HB.out.size))
    clear hB
    go_wp2_with fail
    refine (S2.out _ _ _ _ _  I3.out I4.out).mono ?_
    rintro e w8 ⟨rfl, hB⟩
    have I1 := Lib.hid (I1.out.below hB (Nat.le_refl _))
    have I2 := Lib.hid (I2.out.below hB (Nat.le_refl _))
    have I3 := Lib.hid (I3.out.below hB (Nat.le_refl _))
    have I4 := Lib.hid (I4.out.below hB (Nat.le_refl _))
    have I5 := Lib.hid (I5.out.below hB (Nat.le_refl _))
    have I6 := Lib.hid (I6.out.below hB (Nat.le_refl _))
    have HB := Lib.hid (HB.out.trans (hB.mono HB.out.size))
    clear hB
    go_wp2_with fail
    refine (S3.out _ _ _ _ _  I5.out I6.out).mono ?_
    rintro e w9 ⟨rfl, hB⟩
    have I1 := Lib.hid (I1.out.below hB (Nat.le_refl _))
    have I2 := Lib.hid (I2.out.below hB (Nat.le_refl _))
    have I3 := Lib.hid (I3.out.below hB (Nat.le_refl _))
    have I4 := Lib.hid (I4.out.below hB (Nat.le_refl _))
    have I5 := Lib.hid (I5.out.below hB (Nat.le_refl _))
    have I6 := Lib.hid (I6.out.below hB (Nat.le_refl _))
    have HB := Lib.hid (HB.out.trans (hB.mono HB.out.size))
    clear hB
    go_wp2_with fail
    refine (HK.out _ ).mono ?_
    rintro e w10 ⟨rfl, hB⟩
    have I1 := Lib.hid (I1.out.below hB (Nat.le_refl _))
    have I2 := Lib.hid (I2.out.below hB (Nat.le_refl _))
    have I3 := Lib.hid (I3.out.below hB (Nat.le_refl _))
    have I4 := Lib.hid (I4.out.below hB (Nat.le_refl _))
    have I5 := Lib.hid (I5.out.below hB (Nat.le_refl _))
    have I6 := Lib.hid (I6.out.below hB (Nat.le_refl _))
    have HB := Lib.hid (HB.out.trans (hB.mono HB.out.size))
    clear hB
    go_wp2_with fail
    go_ret
    exact ⟨rfl, HB.out⟩
  · rw [hl] at HL
    clear hp hh hc hc1 hcg hml hl 
    go_enter Try.func4, Try.ntmps4
    go_wp2_with fail
    refine (HL.out _ HH.out).mono ?_
    rintro e w0 ⟨rfl, rfl⟩
    go_wp2_with fail
    refine (HK.out _ ).mono ?_
    rintro e w1 ⟨rfl, hB⟩
    have HB := Lib.hid hB
    clear hB
    go_wp2_with fail
    go_ret
    exact ⟨rfl, HB.out⟩

end Go.Proofs.Ytikblaebfpdngaa
