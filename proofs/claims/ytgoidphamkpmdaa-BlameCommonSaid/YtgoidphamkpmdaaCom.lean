/- Common, Together of both: contracts. -/
import Derived.Test.YtgoidphamkpmdaaBlI
set_option linter.unusedVariables false
set_option linter.unusedSimpArgs false
namespace Go.Proofs.Ytgoidphamkpmdaa
open Go.RowKit Tinker

/-- What all sets of a family have in common, and what some have. -/
def comM (ms : List Nat) : Nat := ms.foldl (fun m x => m &&& x) 255
def togM (ms : List Nat) : Nat := ms.foldl (fun m x => m ||| x) 0
theorem comM_snoc {ms : List Nat} {k x : Nat} (h : ms[k]? = some x) : comM (ms.take (k + 1)) = comM (ms.take k) &&& x := by
  unfold comM; rw [List.take_add_one, h, List.foldl_append]; rfl
theorem togM_snoc {ms : List Nat} {k x : Nat} (h : ms[k]? = some x) : togM (ms.take (k + 1)) = togM (ms.take k) ||| x := by
  unfold togM; rw [List.take_add_one, h, List.foldl_append]; rfl
theorem comM_lt_go (ms : List Nat) : ∀ a : Nat, a < 256 → ms.foldl (fun m x => m &&& x) a < 256 := by
  induction ms with
  | nil => intro a h; simpa
  | cons x r ih => intro a h; rw [List.foldl_cons]; exact ih _ (Nat.lt_of_le_of_lt Nat.and_le_left h)
theorem comM_lt (ms : List Nat) : comM ms < 256 := comM_lt_go ms 255 (by omega)
theorem togM_lt_go (ms : List Nat) : (∀ x ∈ ms, x < 256) → ∀ a : Nat, a < 256 → ms.foldl (fun m x => m ||| x) a < 256 := by
  induction ms with
  | nil => intro _ a h; simpa
  | cons x r ih => intro hx a h; rw [List.foldl_cons]; exact ih (fun y hy => hx y (List.mem_cons_of_mem _ hy)) _ (Nat.or_lt_two_pow (n := 8) h (hx x (by simp)))
theorem togM_lt {ms : List Nat} (h : ∀ x ∈ ms, x < 256) (k : Nat) : togM (ms.take k) < 256 := togM_lt_go _ (fun x hx => h x (List.take_subset _ _ hx)) 0 (by omega)
/-- What Common and Together answer. -/
def comL (f : List (List Int)) : List Int := if vfam f = 0 then numsM (comM (fmM f)) else []
def togL (f : List (List Int)) : List Int := if vfam f = 0 then numsM (togM (fmM f)) else []
theorem comL_len (f : List (List Int)) : (comL f).length ≤ 8 := by unfold comL; split; exact numsM_len _; simp
theorem togL_len (f : List (List Int)) : (togL f).length ≤ 8 := by unfold togL; split; exact numsM_len _; simp
theorem GivesIntsE.wideW {zs : List Int} {c : Int} {w w1 w2 : World} {e : Ending} (h : GivesR zs c w1 e w2) (hB : Below w.heap.size w w1) : GivesR zs c w e w2 := by
  obtain ⟨a, cap, h1, h2, h3⟩ := h
  exact ⟨a, cap, h1, h2, hB.trans (h3.mono hB.size)⟩

set_option maxRecDepth 100000 in
set_option maxHeartbeats 2000000 in
theorem Common_any (a : Option Addr) (cap : Nat) (f : List (List Int)) (w : World) (hf : RowsAt w a f) (hm : ∀ z ∈ f, z.length ≤ 1000) :
    Calls Try.prog 35 #[.slice a f.length cap] w (GivesR (comL f) (vfam f) w) := by
  have HV := Lib.hid (validateF_any a cap f w hf hm)
  by_cases hz : vfam f = 0
  · obtain ⟨h70, hs⟩ := vfam_ok hz
    unfold comL
    rw [if_pos hz, hz]
    rw [hz] at HV
    have hlt := fmM_lt hs
    have H1 := Lib.hid (fun w h => masksOf_any a cap f w h hs (by omega))
    have HR := Lib.hid hf
    have hfl : (fmM f).length ≤ 70 := by rw [fmM_len]; omega
    generalize fmM f = ms at H1 hlt hfl ⊢
    have HLT := Lib.hid hlt
    clear hz hs hf hm hlt
    go_enter Try.func35, Try.ntmps35
    go_wp2_with fail
    refine HV.out.mono ?_
    rintro e w1 ⟨rfl, hB⟩
    have HB := Lib.hid hB
    clear hB
    go_wp2_with fail
    refine (H1.out _ (HR.out.below HB.out (Nat.le_refl _))).mono ?_
    rintro e w2 ⟨a2, c2, rfl, h2, hB2⟩
    have HM2 := Lib.hid h2
    have HB2 := Lib.hid (HB.out.trans (hB2.mono HB.out.size))
    clear h2 hB2
    go_wp2_with fail
    go_loop [5, 16] (fun s5 s16 => ∃ k : Nat, k ≤ ms.length ∧ s16 = .int .i64 k ∧ s5 = .int .u64 (comM (ms.take k))) (fun _ s16 => ms.length - (intOf s16).toNat)
    case atStart => exact ⟨0, Nat.zero_le _, rfl, rfl⟩
    case round =>
      obtain ⟨k, hk, rfl, rfl⟩ := hrel
      by_cases hlt : k < ms.length
      · obtain ⟨b, off, x, rfl, hlb, hx, h0⟩ := HM2.out.at_ hlt
        have hop := bits_and_u (a := comM (ms.take k)) (b := x) (comM_lt _) (HLT.out x (mem_of_get hx))
        have HE := Lib.hid (comM_snoc hx)
        clear hx
        go_wp2_with fail
        go_round
        case rel => exact ⟨k + 1, by omega, by go_num, by rw [HE.out]⟩
        case measure => simp [intOf]; omega
      · obtain rfl : k = ms.length := by omega
        rw [List.take_length]
        have HN := Lib.hid (fun w => numbers_any (comM ms) (comM_lt _) w)
        go_wp2_with fail
        refine (HN.out _).mono ?_
        rintro e w3 ⟨a3, c3, rfl, h3, hB3⟩
        have HI3 := Lib.hid (ints_of_own h3).1
        have HB3 := Lib.hid (HB2.out.trans (hB3.mono HB2.out.size))
        clear h3 hB3
        go_wp2_with fail
        go_ret2
        exact ⟨a3, c3, rfl, HI3.out, HB3.out⟩
  · unfold comL
    rw [if_neg hz]
    generalize vfam f = co at HV hz
    have hz1 : (co != 0) = true := by simpa using hz
    have hz2 : (co == 0) = false := by simpa using hz
    clear hz hf hm
    go_enter Try.func35, Try.ntmps35
    go_wp2_with fail
    refine HV.out.mono ?_
    rintro e w1 ⟨rfl, hB⟩
    go_wp2_with fail
    go_ret2
    exact givesR_nil hB

set_option maxRecDepth 100000 in
set_option maxHeartbeats 2000000 in
theorem rCommon_any (a : Option Addr) (cap : Nat) (f : List (List Int)) (w : World) (hf : RowsAt w a f) (hm : ∀ z ∈ f, z.length ≤ 1000) :
    Calls Try.prog 36 #[.slice a f.length cap] w (GivesR (comL f) (vfam f) w) := by
  have HV := Lib.hid (rValidate3_any a cap f w hf hm)
  by_cases hz : vfam f = 0
  · obtain ⟨h70, hs⟩ := vfam_ok hz
    unfold comL
    rw [if_pos hz, hz]
    rw [hz] at HV
    have hlt := fmM_lt hs
    have H1 := Lib.hid (fun w h => rMasks_any a cap f w h hs (by omega))
    have HR := Lib.hid hf
    have hfl : (fmM f).length ≤ 70 := by rw [fmM_len]; omega
    generalize fmM f = ms at H1 hlt hfl ⊢
    have HLT := Lib.hid hlt
    clear hz hs hf hm hlt
    have hnl : (ni ms).length = ms.length := ni_len ms
    have HNL := Lib.hid hnl
    clear hnl
    go_enter Try.func36, Try.ntmps36
    go_wp2_with fail
    refine HV.out.mono ?_
    rintro e w1 ⟨rfl, hB⟩
    have HB := Lib.hid hB
    clear hB
    go_wp2_with fail
    refine (H1.out _ (HR.out.below HB.out (Nat.le_refl _))).mono ?_
    rintro e w2 ⟨a2, c2, rfl, h2, hB2⟩
    have HM2 := Lib.hid (ints_of_own h2).1
    have HB2 := Lib.hid (HB.out.trans (hB2.mono HB.out.size))
    rw [HNL.out]
    clear h2 hB2
    go_wp2_with fail
    go_loop [5, 7] (fun s5 s16 => ∃ k : Nat, k ≤ ms.length ∧ s16 = .int .i64 k ∧ s5 = .int .i64 (comM (ms.take k))) (fun _ s16 => ms.length - (intOf s16).toNat)
    case atStart => exact ⟨0, Nat.zero_le _, rfl, rfl⟩
    case round =>
      obtain ⟨k, hk, rfl, rfl⟩ := hrel
      by_cases hlt : k < ms.length
      · obtain ⟨b, off, x', rfl, hlb, hx', h0⟩ := HM2.out.at_ (by rw [ni_len]; exact hlt)
        obtain ⟨x, rfl, hx⟩ := ni_get hx'
        have hop := bits_and_i (a := comM (ms.take k)) (b := x) (comM_lt _) (HLT.out x (mem_of_get hx))
        have HE := Lib.hid (comM_snoc hx)
        clear hx hx'
        go_wp2_with fail
        go_round
        case rel => exact ⟨k + 1, by omega, by go_num, by rw [HE.out]⟩
        case measure => simp [intOf]; omega
      · obtain rfl : k = ms.length := by omega
        rw [List.take_length]
        have HN := Lib.hid (fun w => rList3_any (comM ms) (comM_lt _) w)
        go_wp2_with fail
        refine (HN.out _).mono ?_
        rintro e w3 ⟨a3, c3, rfl, h3, hB3⟩
        have HI3 := Lib.hid (ints_of_own h3).1
        have HB3 := Lib.hid (HB2.out.trans (hB3.mono HB2.out.size))
        clear h3 hB3
        go_wp2_with fail
        go_ret2
        exact ⟨a3, c3, rfl, HI3.out, HB3.out⟩
  · unfold comL
    rw [if_neg hz]
    generalize vfam f = co at HV hz
    have hz1 : (co != 0) = true := by simpa using hz
    have hz2 : (co == 0) = false := by simpa using hz
    clear hz hf hm
    go_enter Try.func36, Try.ntmps36
    go_wp2_with fail
    refine HV.out.mono ?_
    rintro e w1 ⟨rfl, hB⟩
    go_wp2_with fail
    go_ret2
    exact givesR_nil hB

set_option maxRecDepth 100000 in
set_option maxHeartbeats 2000000 in
theorem Together_any (a : Option Addr) (cap : Nat) (f : List (List Int)) (w : World) (hf : RowsAt w a f) (hm : ∀ z ∈ f, z.length ≤ 1000) :
    Calls Try.prog 37 #[.slice a f.length cap] w (GivesR (togL f) (vfam f) w) := by
  have HV := Lib.hid (validateF_any a cap f w hf hm)
  by_cases hz : vfam f = 0
  · obtain ⟨h70, hs⟩ := vfam_ok hz
    unfold togL
    rw [if_pos hz, hz]
    rw [hz] at HV
    have hlt := fmM_lt hs
    have H1 := Lib.hid (fun w h => masksOf_any a cap f w h hs (by omega))
    have HR := Lib.hid hf
    have hfl : (fmM f).length ≤ 70 := by rw [fmM_len]; omega
    generalize fmM f = ms at H1 hlt hfl ⊢
    have HLT := Lib.hid hlt
    clear hz hs hf hm hlt
    go_enter Try.func37, Try.ntmps37
    go_wp2_with fail
    refine HV.out.mono ?_
    rintro e w1 ⟨rfl, hB⟩
    have HB := Lib.hid hB
    clear hB
    go_wp2_with fail
    refine (H1.out _ (HR.out.below HB.out (Nat.le_refl _))).mono ?_
    rintro e w2 ⟨a2, c2, rfl, h2, hB2⟩
    have HM2 := Lib.hid h2
    have HB2 := Lib.hid (HB.out.trans (hB2.mono HB.out.size))
    clear h2 hB2
    go_wp2_with fail
    go_loop [5, 16] (fun s5 s16 => ∃ k : Nat, k ≤ ms.length ∧ s16 = .int .i64 k ∧ s5 = .int .u64 (togM (ms.take k))) (fun _ s16 => ms.length - (intOf s16).toNat)
    case atStart => exact ⟨0, Nat.zero_le _, rfl, rfl⟩
    case round =>
      obtain ⟨k, hk, rfl, rfl⟩ := hrel
      by_cases hlt : k < ms.length
      · obtain ⟨b, off, x, rfl, hlb, hx, h0⟩ := HM2.out.at_ hlt
        have hop := bits_or_u (a := togM (ms.take k)) (b := x) (togM_lt HLT.out k) (HLT.out x (mem_of_get hx))
        have HE := Lib.hid (togM_snoc hx)
        clear hx
        go_wp2_with fail
        go_round
        case rel => exact ⟨k + 1, by omega, by go_num, by rw [HE.out]⟩
        case measure => simp [intOf]; omega
      · obtain rfl : k = ms.length := by omega
        rw [List.take_length]
        have HN := Lib.hid (fun w => numbers_any (togM ms) (by have h := togM_lt HLT.out ms.length; rw [List.take_length] at h; exact h) w)
        go_wp2_with fail
        refine (HN.out _).mono ?_
        rintro e w3 ⟨a3, c3, rfl, h3, hB3⟩
        have HI3 := Lib.hid (ints_of_own h3).1
        have HB3 := Lib.hid (HB2.out.trans (hB3.mono HB2.out.size))
        clear h3 hB3
        go_wp2_with fail
        go_ret2
        exact ⟨a3, c3, rfl, HI3.out, HB3.out⟩
  · unfold togL
    rw [if_neg hz]
    generalize vfam f = co at HV hz
    have hz1 : (co != 0) = true := by simpa using hz
    have hz2 : (co == 0) = false := by simpa using hz
    clear hz hf hm
    go_enter Try.func37, Try.ntmps37
    go_wp2_with fail
    refine HV.out.mono ?_
    rintro e w1 ⟨rfl, hB⟩
    go_wp2_with fail
    go_ret2
    exact givesR_nil hB

set_option maxRecDepth 100000 in
set_option maxHeartbeats 2000000 in
theorem rTogether_any (a : Option Addr) (cap : Nat) (f : List (List Int)) (w : World) (hf : RowsAt w a f) (hm : ∀ z ∈ f, z.length ≤ 1000) :
    Calls Try.prog 38 #[.slice a f.length cap] w (GivesR (togL f) (vfam f) w) := by
  have HV := Lib.hid (rValidate3_any a cap f w hf hm)
  by_cases hz : vfam f = 0
  · obtain ⟨h70, hs⟩ := vfam_ok hz
    unfold togL
    rw [if_pos hz, hz]
    rw [hz] at HV
    have hlt := fmM_lt hs
    have H1 := Lib.hid (fun w h => rMasks_any a cap f w h hs (by omega))
    have HR := Lib.hid hf
    have hfl : (fmM f).length ≤ 70 := by rw [fmM_len]; omega
    generalize fmM f = ms at H1 hlt hfl ⊢
    have HLT := Lib.hid hlt
    clear hz hs hf hm hlt
    have hnl : (ni ms).length = ms.length := ni_len ms
    have HNL := Lib.hid hnl
    clear hnl
    go_enter Try.func38, Try.ntmps38
    go_wp2_with fail
    refine HV.out.mono ?_
    rintro e w1 ⟨rfl, hB⟩
    have HB := Lib.hid hB
    clear hB
    go_wp2_with fail
    refine (H1.out _ (HR.out.below HB.out (Nat.le_refl _))).mono ?_
    rintro e w2 ⟨a2, c2, rfl, h2, hB2⟩
    have HM2 := Lib.hid (ints_of_own h2).1
    have HB2 := Lib.hid (HB.out.trans (hB2.mono HB.out.size))
    rw [HNL.out]
    clear h2 hB2
    go_wp2_with fail
    go_loop [5, 7] (fun s5 s16 => ∃ k : Nat, k ≤ ms.length ∧ s16 = .int .i64 k ∧ s5 = .int .i64 (togM (ms.take k))) (fun _ s16 => ms.length - (intOf s16).toNat)
    case atStart => exact ⟨0, Nat.zero_le _, rfl, rfl⟩
    case round =>
      obtain ⟨k, hk, rfl, rfl⟩ := hrel
      by_cases hlt : k < ms.length
      · obtain ⟨b, off, x', rfl, hlb, hx', h0⟩ := HM2.out.at_ (by rw [ni_len]; exact hlt)
        obtain ⟨x, rfl, hx⟩ := ni_get hx'
        have hop := bits_or_i (a := togM (ms.take k)) (b := x) (togM_lt HLT.out k) (HLT.out x (mem_of_get hx))
        have HE := Lib.hid (togM_snoc hx)
        clear hx hx'
        go_wp2_with fail
        go_round
        case rel => exact ⟨k + 1, by omega, by go_num, by rw [HE.out]⟩
        case measure => simp [intOf]; omega
      · obtain rfl : k = ms.length := by omega
        rw [List.take_length]
        have HN := Lib.hid (fun w => rList3_any (togM ms) (by have h := togM_lt HLT.out ms.length; rw [List.take_length] at h; exact h) w)
        go_wp2_with fail
        refine (HN.out _).mono ?_
        rintro e w3 ⟨a3, c3, rfl, h3, hB3⟩
        have HI3 := Lib.hid (ints_of_own h3).1
        have HB3 := Lib.hid (HB2.out.trans (hB3.mono HB2.out.size))
        clear h3 hB3
        go_wp2_with fail
        go_ret2
        exact ⟨a3, c3, rfl, HI3.out, HB3.out⟩
  · unfold togL
    rw [if_neg hz]
    generalize vfam f = co at HV hz
    have hz1 : (co != 0) = true := by simpa using hz
    have hz2 : (co == 0) = false := by simpa using hz
    clear hz hf hm
    go_enter Try.func38, Try.ntmps38
    go_wp2_with fail
    refine HV.out.mono ?_
    rintro e w1 ⟨rfl, hB⟩
    go_wp2_with fail
    go_ret2
    exact givesR_nil hB

end Go.Proofs.Ytgoidphamkpmdaa
