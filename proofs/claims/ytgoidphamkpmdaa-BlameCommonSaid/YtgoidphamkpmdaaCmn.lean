/- BlameCommon: the walk. -/
import Derived.Test.YtgoidphamkpmdaaBlI
import Derived.Test.YtgoidphamkpmdaaCom
import Derived.Test.YtgoidphamkpmdaaHas
import Derived.Test.YtgoidphamkpmdaaRuns
set_option linter.unusedVariables false
set_option linter.unusedSimpArgs false
namespace Go.Proofs.Ytgoidphamkpmdaa
open Go.RowKit Tinker

theorem comM_bit_go (ms : List Nat) (i : Nat) : ∀ a : Nat, (ms.foldl (fun m x => m &&& x) a).testBit i = (a.testBit i && ms.all fun x => x.testBit i) := by
  induction ms with
  | nil => intro a; simp
  | cons x r ih => intro a; rw [List.foldl_cons, ih, Nat.testBit_and, List.all_cons, Bool.and_assoc]
theorem comM_bit {ms : List Nat} {i : Nat} (hi : i < 8) : (comM ms).testBit i = ms.all fun x => x.testBit i := by
  unfold comM
  rw [comM_bit_go, show (255 : Nat) = 2 ^ 8 - 1 from rfl, Nat.testBit_two_pow_sub_one]
  simp [hi]
/-- A number alone hits a family exactly if it is in all sets. -/
theorem hit_one {f : List (List Int)} {n : Int} (h : hitC f [n] = 0) : hitV f [n] = hasB (comL f) n := by
  have hz : vfam f = 0 := by
    unfold hitC at h
    split at h
    · assumption
    · exact h
  have hs : setB [n] = true := by
    unfold hitC at h
    rw [if_pos hz] at h
    split at h
    · assumption
    · contradiction
  have hb := setB_btw hs (x := n) (by simp)
  unfold hitV comL
  rw [if_pos hz, if_pos hs, if_pos hz]
  obtain ⟨k, rfl⟩ : ∃ k : Nat, n = k := ⟨n.toNat, by omega⟩
  have hk : k < 8 := by omega
  have hmb : ∀ i, (maskM [(k : Int)]).testBit i = decide (k = i) := fun i => by
    rw [maskM_bit]
    simp
    rw [Bool.eq_iff_iff, beq_iff_eq, decide_eq_true_eq]
  rw [Bool.eq_iff_iff, hitsM_iff]
  constructor
  · intro hh
    have hin : (k : Int) ∈ numsM (comM (fmM f)) := numsM_mem.2 ⟨hk, by
      rw [comM_bit hk, List.all_eq_true]
      intro x hx
      obtain ⟨i, h1, h2⟩ := hh x hx
      rw [hmb, decide_eq_true_eq] at h2
      rw [h2]; exact h1⟩
    simpa [hasB] using hin
  · intro hh x hx
    have hin : (k : Int) ∈ numsM (comM (fmM f)) := by simpa [hasB] using hh
    have := (numsM_mem.1 hin).2
    rw [comM_bit hk, List.all_eq_true] at this
    exact ⟨k, this x hx, by rw [hmb]; simp⟩

set_option maxRecDepth 100000 in
set_option maxHeartbeats 4000000 in
theorem blameCommon_walk (a : Option Addr) (ca : Nat) (f : List (List Int)) (n : Int) (w : World) (hf : RowsAt w a f) (hc0 : a = none → ca = 0) :
    Calls Try.prog 9 #[.slice a f.length ca, .int .i64 n] w fun e w' => e = .returned (.bool true) ∧ Below w.heap.size w w' := by
  clear hc0
  have HL := Lib.hid (long3_any a ca f w hf)
  have HK := Lib.hid (fun w => known3_true w)
  cases hl : longF f
  · rw [hl] at HL
    obtain ⟨hm0, hm⟩ := longF_no hl
    have C1 := Lib.hid (fun w hf => Common_any a ca f w hf hm)
    have C2 := Lib.hid (fun w hf => rCommon_any a ca f w hf hm)
    have C3 := Lib.hid (fun w hf => Together_any a ca f w hf hm)
    have C4 := Lib.hid (fun w hf => rTogether_any a ca f w hf hm)
    have C5 := Lib.hid (fun b w hf hs => Hits_any a b ca 1 f [n] w hf hs hm (by simp))
    have hX := comL_len f
    have hY := togL_len f
    have H1 := Lib.hid (fun h => hit_one (f := f) (n := n) h)
    have S1 := Lib.hid (fun a' b' c' d' w h1 h2 => same_self (comL f).length a' b' c' d' (comL f) w rfl h1 h2 (by omega))
    have S2 := Lib.hid (fun a' b' c' d' w h1 h2 => same_self (togL f).length a' b' c' d' (togL f) w rfl h1 h2 (by omega))
    have HH := Lib.hid (fun a' c' w h => rHas_any a' c' (comL f) n w h (by omega))
    have HF := Lib.hid hf
    generalize comL f = X at C1 C2 S1 HH H1
    generalize togL f = Y at C3 C4 S2
    generalize vfam f = v at C1 C2 C3 C4
    generalize hitV f [n] = V at C5 H1
    generalize hitC f [n] = co at C5 H1
    clear hf hl hm hm0 hX hY
    go_enter Try.func9, Try.ntmps9
    go_wp2_with fail
    refine HL.out.mono ?_
    rintro e w1 ⟨rfl, rfl⟩
    go_wp2_with fail
    refine (C1.out _ HF.out).mono ?_
    rintro e w1 ⟨a1, c1, rfl, h1, hB1⟩
    have R1 := Lib.hid h1
    have HB1 := Lib.hid hB1
    clear h1 hB1
    go_wp2_with fail
    refine (C2.out _ (HF.out.below HB1.out (Nat.le_refl _))).mono ?_
    rintro e w2 ⟨a2, c2, rfl, h2, hB2⟩
    have R1 := Lib.hid (R1.out.below hB2 (Nat.le_refl _))
    have R2 := Lib.hid h2
    have HB2 := Lib.hid (HB1.out.trans (hB2.mono HB1.out.size))
    clear h2 hB2
    go_wp2_with fail
    refine (C3.out _ (HF.out.below HB2.out (Nat.le_refl _))).mono ?_
    rintro e w3 ⟨a3, c3, rfl, h3, hB3⟩
    have R1 := Lib.hid (R1.out.below hB3 (Nat.le_refl _))
    have R2 := Lib.hid (R2.out.below hB3 (Nat.le_refl _))
    have R3 := Lib.hid h3
    have HB3 := Lib.hid (HB2.out.trans (hB3.mono HB2.out.size))
    clear h3 hB3
    go_wp2_with fail
    refine (C4.out _ (HF.out.below HB3.out (Nat.le_refl _))).mono ?_
    rintro e w4 ⟨a4, c4, rfl, h4, hB4⟩
    have R1 := Lib.hid (R1.out.below hB4 (Nat.le_refl _))
    have R2 := Lib.hid (R2.out.below hB4 (Nat.le_refl _))
    have R3 := Lib.hid (R3.out.below hB4 (Nat.le_refl _))
    have R4 := Lib.hid h4
    have HB4 := Lib.hid (HB3.out.trans (hB4.mono HB3.out.size))
    clear h4 hB4
    go_wp2_with fail
    refine (S1.out _ _ _ _ _ R1.out R2.out).mono ?_
    rintro e w5 ⟨rfl, hB5⟩
    have R1 := Lib.hid (R1.out.below hB5 (Nat.le_refl _))
    have R3 := Lib.hid (R3.out.below hB5 (Nat.le_refl _))
    have R4 := Lib.hid (R4.out.below hB5 (Nat.le_refl _))
    have HB5 := Lib.hid (HB4.out.trans (hB5.mono HB4.out.size))
    clear hB5
    go_wp2_with fail
    refine (S2.out _ _ _ _ _ R3.out R4.out).mono ?_
    rintro e w6 ⟨rfl, hB6⟩
    have R1 := Lib.hid (R1.out.below hB6 (Nat.le_refl _))
    have HB6 := Lib.hid (HB5.out.trans (hB6.mono HB5.out.size))
    clear hB6
    go_wp2_with fail
    have hal : Below w6.heap.size w6 (w6.alloc (.cells #[.int .i64 n] 3)) := (Below.refl _ _).alloc (Nat.le_refl _) _
    refine (C5.out _ _ (HF.out.below (HB6.out.trans (hal.mono HB6.out.size)) (Nat.le_refl _)) (ints_lit w6 [n] 3)).mono ?_
    rintro e w7 ⟨rfl, hB7⟩
    have hBB := hal.trans (hB7.mono hal.size)
    have R1 := Lib.hid (R1.out.below hBB (Nat.le_refl _))
    have HB7 := Lib.hid (HB6.out.trans (hBB.mono HB6.out.size))
    clear hal hB7 hBB
    by_cases hc : co = 0
    · have HE := Lib.hid (H1.out hc)
      subst hc
      go_wp2_with fail
      refine (HH.out _ _ _ R1.out).mono ?_
      rintro e w8 ⟨rfl, rfl⟩
      rw [HE.out]
      go_wp2_with fail
      refine (HK.out _).mono ?_
      rintro e w8 ⟨rfl, hB⟩
      go_wp2_with fail
      go_ret
      exact ⟨rfl, HB7.out.trans (hB.mono HB7.out.size)⟩
    · have hz1 : (co != 0) = true := by simpa using hc
      have hz2 : (co == 0) = false := by simpa using hc
      clear hc
      go_wp2_with fail
      refine (HK.out _).mono ?_
      rintro e w8 ⟨rfl, hB⟩
      go_wp2_with fail
      go_ret
      exact ⟨rfl, HB7.out.trans (hB.mono HB7.out.size)⟩
  · rw [hl] at HL
    clear hf hl
    go_enter Try.func9, Try.ntmps9
    go_wp2_with fail
    refine HL.out.mono ?_
    rintro e w1 ⟨rfl, rfl⟩
    go_wp2_with fail
    refine (HK.out _).mono ?_
    rintro e w2 ⟨rfl, hB⟩
    go_wp2_with fail
    go_ret
    exact ⟨rfl, hB⟩

end Go.Proofs.Ytgoidphamkpmdaa
