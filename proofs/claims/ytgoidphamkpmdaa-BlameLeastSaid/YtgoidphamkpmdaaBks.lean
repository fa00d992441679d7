/- BlameBlockers: the walk. -/
import Derived.Test.YtgoidphamkpmdaaBlI
import Derived.Test.YtgoidphamkpmdaaRbk
import Derived.Test.YtgoidphamkpmdaaLst
set_option linter.unusedVariables false
set_option linter.unusedSimpArgs false
namespace Go.Proofs.Ytgoidphamkpmdaa
open Go.RowKit Tinker

theorem fmM_nums {ms : List Nat} (h : ∀ m ∈ ms, m < 256) : fmM (ms.map numsM) = ms := by
  unfold fmM
  rw [List.map_map]
  refine (List.map_congr_left (g := id) fun m hm => ?_).trans (List.map_id _)
  exact maskM_nums m (h m hm)
theorem vfam_nums {ms : List Nat} (h : ∀ m ∈ ms, m < 256) (hl : ms.length ≤ 70) : vfam (ms.map numsM) = 0 :=
  vfam_good (by simpa using hl) (List.all_eq_true.2 fun s hs => by
    obtain ⟨m, hm, rfl⟩ := List.mem_map.1 hs
    exact setB_nums m (h m hm))
theorem nums_small {ms : List Nat} {z : List Int} (h : z ∈ ms.map numsM) : z.length ≤ 8 := by
  obtain ⟨m, _, rfl⟩ := List.mem_map.1 h
  exact numsM_len m
theorem blkL_small {f : List (List Int)} {z : List Int} (h : z ∈ blkL f) : z.length ≤ 8 := by
  unfold blkL at h
  split at h
  · exact nums_small h
  · simp at h
theorem blkL_len (f : List (List Int)) : (blkL f).length ≤ 70 := by
  unfold blkL
  split
  · rw [List.length_map]; exact blk_len _
  · simp
theorem lstL_small {f : List (List Int)} {z : List Int} (h : z ∈ lstL f) : z.length ≤ 8 := by
  unfold lstL at h
  split at h
  · exact nums_small h
  · simp at h
theorem lstL_len (f : List (List Int)) : (lstL f).length ≤ 70 := by
  unfold lstL
  split
  · rename_i h
    rw [List.length_map]; exact least_len (fmM_lt (vfam_ok h).2)
  · simp
/-- The blocker of the blocker is what is least. -/
theorem blkL_blkL {f : List (List Int)} (h : vfam f = 0) : vfam (blkL f) = 0 ∧ blkL (blkL f) = lstL f := by
  have hlt := fmM_lt (vfam_ok h).2
  have h1 : vfam (blkL f) = 0 := by rw [blkL_ok h]; exact vfam_nums (fun m hm => blk_lt hm) (blk_len _)
  refine ⟨h1, ?_⟩
  rw [blkL_ok h1, blkL_ok h, fmM_nums (fun m hm => blk_lt hm), blk_blk hlt, lstL_ok h]

set_option maxRecDepth 100000 in
set_option maxHeartbeats 4000000 in
theorem blameBlockers_walk (a : Option Addr) (ca : Nat) (f : List (List Int)) (w : World) (hf : RowsAt w a f) (hc0 : a = none → ca = 0) :
    Calls Try.prog 4 #[.slice a f.length ca] w fun e w' => e = .returned (.bool true) ∧ Below w.heap.size w w' := by
  clear hc0
  have HL := Lib.hid (long3_any a ca f w hf)
  have HK := Lib.hid (fun w => known3_true w)
  cases hl : longF f
  · rw [hl] at HL
    obtain ⟨hm0, hm⟩ := longF_no hl
    have C1 := Lib.hid (fun w hf => Blocker_any a ca f w hf hm)
    have C2 := Lib.hid (fun w hf => rBlocker_any a ca f w hf hm)
    have C4 := Lib.hid (fun w hf => Least_any a ca f w hf hm)
    have HF := Lib.hid hf
    have hX1 := blkL_len f
    have hX2 := fun z h => blkL_small (f := f) (z := z) h
    have C3 := Lib.hid (fun a' c' w h => Blocker_any a' c' (blkL f) w h (fun z hz => by have := hX2 z hz; omega))
    have S1 := Lib.hid (fun a' b' c' d' w h1 h2 => sameLists_self (blkL f).length a' b' c' d' (blkL f) w rfl h1 h2 (by omega) (fun z hz => by have := hX2 z hz; omega))
    by_cases hz : vfam f = 0
    · obtain ⟨e1, e2⟩ := blkL_blkL hz
      rw [e1, e2] at C3
      rw [hz] at C1 C2 C4
      have hY1 := lstL_len f
      have hY2 := fun z h => lstL_small (f := f) (z := z) h
      have S2 := Lib.hid (fun a' b' c' d' w h1 h2 => sameLists_self (lstL f).length a' b' c' d' (lstL f) w rfl h1 h2 (by omega) (fun z hz => by have := hY2 z hz; omega))
      generalize lstL f = Y at C3 C4 S2
      generalize blkL f = X at C1 C2 C3 S1
      clear hf hl hm hm0 hz e1 e2 hX1 hX2 hY1 hY2
      go_enter Try.func4, Try.ntmps4
      go_wp2_with fail
      refine HL.out.mono ?_
      rintro e w1 ⟨rfl, rfl⟩
      go_wp2_with fail
      refine (C1.out _ HF.out).mono ?_
      rintro e w1 ⟨a1, c1, rfl, h1, hB1⟩
      have R1 := Lib.hid h1.at_
      have HB1 := Lib.hid hB1
      clear h1 hB1
      go_wp2_with fail
      refine (C2.out _ (HF.out.below HB1.out (Nat.le_refl _))).mono ?_
      rintro e w2 ⟨a2, c2, rfl, h2, hB2⟩
      have R1 := Lib.hid (R1.out.below hB2 (Nat.le_refl _))
      have R2 := Lib.hid h2.at_
      have HB2 := Lib.hid (HB1.out.trans (hB2.mono HB1.out.size))
      clear h2 hB2
      go_wp2_with fail
      refine (S1.out _ _ _ _ _ R1.out R2.out).mono ?_
      rintro e w3 ⟨rfl, hB3⟩
      have R1 := Lib.hid (R1.out.below hB3 (Nat.le_refl _))
      have HB3 := Lib.hid (HB2.out.trans (hB3.mono HB2.out.size))
      clear hB3
      go_wp2_with fail
      refine (C3.out _ _ _ R1.out).mono ?_
      rintro e w4 ⟨a4, c4, rfl, h4, hB4⟩
      have R4 := Lib.hid h4.at_
      have HB4 := Lib.hid (HB3.out.trans (hB4.mono HB3.out.size))
      clear h4 hB4
      go_wp2_with fail
      refine (C4.out _ (HF.out.below HB4.out (Nat.le_refl _))).mono ?_
      rintro e w5 ⟨a5, c5, rfl, h5, hB5⟩
      have R4 := Lib.hid (R4.out.below hB5 (Nat.le_refl _))
      have R5 := Lib.hid h5.at_
      have HB5 := Lib.hid (HB4.out.trans (hB5.mono HB4.out.size))
      clear h5 hB5
      go_wp2_with fail
      refine (S2.out _ _ _ _ _ R4.out R5.out).mono ?_
      rintro e w6 ⟨rfl, hB6⟩
      have HB6 := Lib.hid (HB5.out.trans (hB6.mono HB5.out.size))
      clear hB6
      go_wp2_with fail
      refine (HK.out _).mono ?_
      rintro e w7 ⟨rfl, hB⟩
      go_wp2_with fail
      go_ret
      exact ⟨rfl, HB6.out.trans (hB.mono HB6.out.size)⟩
    · have e1 := blkL_no hz
      generalize vfam f = v at C1 C2 C4 hz
      have hz1 : (v != 0) = true := by simpa using hz
      have hz2 : (v == 0) = false := by simpa using hz
      generalize blkL f = X at C1 C2 C3 S1
      generalize lstL f = Y at C4
      generalize blkL X = Z at C3
      generalize vfam X = v2 at C3
      clear hf hl hm hm0 hz e1 hX1 hX2
      go_enter Try.func4, Try.ntmps4
      go_wp2_with fail
      refine HL.out.mono ?_
      rintro e w1 ⟨rfl, rfl⟩
      go_wp2_with fail
      refine (C1.out _ HF.out).mono ?_
      rintro e w1 ⟨a1, c1, rfl, h1, hB1⟩
      have R1 := Lib.hid h1.at_
      have HB1 := Lib.hid hB1
      clear h1 hB1
      go_wp2_with fail
      refine (C2.out _ (HF.out.below HB1.out (Nat.le_refl _))).mono ?_
      rintro e w2 ⟨a2, c2, rfl, h2, hB2⟩
      have R1 := Lib.hid (R1.out.below hB2 (Nat.le_refl _))
      have R2 := Lib.hid h2.at_
      have HB2 := Lib.hid (HB1.out.trans (hB2.mono HB1.out.size))
      clear h2 hB2
      go_wp2_with fail
      refine (S1.out _ _ _ _ _ R1.out R2.out).mono ?_
      rintro e w3 ⟨rfl, hB3⟩
      have R1 := Lib.hid (R1.out.below hB3 (Nat.le_refl _))
      have HB3 := Lib.hid (HB2.out.trans (hB3.mono HB2.out.size))
      clear hB3
      go_wp2_with fail
      refine (C3.out _ _ _ R1.out).mono ?_
      rintro e w4 ⟨a4, c4, rfl, h4, hB4⟩
      have HB4 := Lib.hid (HB3.out.trans (hB4.mono HB3.out.size))
      clear h4 hB4
      go_wp2_with fail
      refine (C4.out _ (HF.out.below HB4.out (Nat.le_refl _))).mono ?_
      rintro e w5 ⟨a5, c5, rfl, h5, hB5⟩
      have HB5 := Lib.hid (HB4.out.trans (hB5.mono HB4.out.size))
      clear h5 hB5
      go_wp2_with fail
      refine (HK.out _).mono ?_
      rintro e w7 ⟨rfl, hB⟩
      go_wp2_with fail
      go_ret
      exact ⟨rfl, HB5.out.trans (hB.mono HB5.out.size)⟩
  · rw [hl] at HL
    clear hf hl
    go_enter Try.func4, Try.ntmps4
    go_wp2_with fail
    refine HL.out.mono ?_
    rintro e w1 ⟨rfl, rfl⟩
    go_wp2_with fail
    refine (HK.out _).mono ?_
    rintro e w2 ⟨rfl, hB⟩
    go_wp2_with fail
    go_ret
    exact ⟨rfl, hB⟩

end Go.Proofs.Ytgoidphamkpmdaa
