/- First and Smallest of the document's side: contracts. -/
import Derived.Test.YtgoidphamkpmdaaFir
import Derived.BigQuiet
set_option linter.unusedVariables false
set_option linter.unusedSimpArgs false
namespace Go.Proofs.Ytgoidphamkpmdaa
open Go.RowKit Tinker

set_option maxRecDepth 100000 in
set_option maxHeartbeats 4000000 in
theorem rFirst_any (a : Option Addr) (cap : Nat) (f : List (List Int)) (w : World) (hf : RowsAt w a f) (hm : ∀ z ∈ f, z.length ≤ 1000) :
    Calls Try.prog 31 #[.slice a f.length cap] w (GivesF (fiL f) (fiB f) (vfam f) w) := by
  have HV := Lib.hid (rValidate3_any a cap f w hf hm)
  unfold fiL fiB firM firB
  by_cases hz : vfam f = 0
  · obtain ⟨h70, hs⟩ := vfam_ok hz
    rw [if_pos hz, if_pos hz, hz]
    rw [hz] at HV
    have H1 := Lib.hid (fun w h => rMasks_any a cap f w h hs (by omega))
    have H2 := Lib.hid (fun b c w h => rblocker_any b c (fmM f) w h (fmM_lt hs) (by rw [fmM_len]; omega))
    have H3 := Lib.hid (fun b c w h => ordered_any b c (bkTo (fmM f) 256) w h (fun m hm => by unfold bkTo at hm; simpa using (List.filter_sublist.subset hm)) (by have := bkTo_len (fmM f) 256; omega))
    rw [bk_256] at H3
    have hl1 : (ni (fmM f)).length = (fmM f).length := ni_len _
    have hZl := blk_len (fmM f)
    generalize blkM (fmM f) = Z at H3 hZl ⊢
    generalize hbb : bkTo (fmM f) 256 = B at H2 H3
    have hl2 : (ni B).length = B.length := ni_len _
    have HR := Lib.hid hf
    have HL1 := Lib.hid hl1
    have HL2 := Lib.hid hl2
    clear hz hs hf hm hbb hl1 hl2
    go_enter Try.func31, Try.ntmps31
    go_wp2_with fail
    refine HV.out.mono ?_
    rintro e w1 ⟨rfl, hB⟩
    have HB := Lib.hid hB
    clear hB
    go_wp2_with fail
    refine (H1.out _ (HR.out.below HB.out (Nat.le_refl _))).mono ?_
    rintro e w2 ⟨a2, c2, rfl, h2, hB2⟩
    have HM2 := Lib.hid (ints_of_own h2).1
    have HB2 := Lib.hid (HB.out.trans (hB2.mono HB.out.size))
    rw [HL1.out]
    clear h2 hB2
    go_wp2_with fail
    refine (H2.out _ _ _ HM2.out).mono ?_
    rintro e w3 ⟨a3, c3, rfl, h3, hB3⟩
    have HM3 := Lib.hid (ints_of_own h3).1
    have HB3 := Lib.hid (HB2.out.trans (hB3.mono HB2.out.size))
    rw [HL2.out]
    clear h3 hB3
    go_wp2_with fail
    refine (H3.out _ _ _ HM3.out).mono ?_
    rintro e w4 ⟨a4, c4, rfl, h4, hB4⟩
    have HM4 := Lib.hid h4.at_
    have HB4 := Lib.hid (HB3.out.trans (hB4.mono HB3.out.size))
    rw [List.length_map]
    clear h4 hB4 HB HB2 HB3 HM2 HM3 HL1 HL2 HR HV H1 H2 H3
    go_wp2_with fail
    go_loopw [7, 8] (fun s7 s8 wr => ∃ k : Nat, k ≤ Z.length ∧ s8 = .int .i64 k ∧ Below w4.heap.size w4 wr ∧ ((k = 0 ∧ s7 = .int .i64 (-1)) ∨ ∃ j : Nat, 1 ≤ k ∧ s7 = .int .i64 j ∧ Z[j]? = some (minM (Z.take k)))) (fun _ s8 _ => Z.length - (intOf s8).toNat)
    case atStart => exact ⟨0, by omega, rfl, Below.refl _ _, .inl ⟨rfl, rfl⟩⟩
    case round =>
      obtain ⟨k, hk, rfl, hB, hbest⟩ := hrel
      have HB := Lib.hid hB
      have hR := HM4.out.below hB (Nat.le_refl _)
      clear hB
      by_cases hlt : k < Z.length
      · obtain ⟨x, hx⟩ := get_of_lt hlt
        obtain ⟨b, off, zs, a', c', rfl, hlb, hzs, x0, hI⟩ := hR.at_ (k := k) (by rw [List.length_map]; exact hlt)
        have e0 : zs = numsM x := by rw [List.getElem?_map, hx] at hzs; injection hzs with e; exact e.symm
        subst e0
        rcases hbest with ⟨rfl, rfl⟩ | ⟨j, hk1, rfl, hj⟩
        · have HO := Lib.hid (minM_one hx)
          have HX := Lib.hid hx
          clear hR hzs hI hx x0
          go_wp2_with fail
          go_quiet (fail)
          go_wp2_with fail
          go_roundw
          case rel => exact ⟨1, by omega, by go_num, HB.out.trans (Below.mono ⟨rfl, rfl, rfl, Nat.le_refl _, fun _ _ => rfl⟩ HB.out.size), .inr ⟨0, by omega, rfl, by rw [HO.out]; exact HX.out⟩⟩
          case measure => simp [intOf]; omega
        · have hjl : j < Z.length := by
            by_cases h : j < Z.length
            · exact h
            · rw [List.getElem?_eq_none (by omega)] at hj; simp at hj
          obtain ⟨b2, off2, zs2, a2', c2', e2, hlb2, hzs2, x1, hI2⟩ := hR.at_ (k := j) (by rw [List.length_map]; exact hjl)
          injection e2 with e2
          injection e2 with e3 e4
          subst e3 e4
          have e0 : zs2 = numsM (minM (Z.take k)) := by rw [List.getElem?_map, hj] at hzs2; injection hzs2 with e; exact e.symm
          subst e0
          have HS := Lib.hid (minM_snoc hk1 hx)
          have HX := Lib.hid hx
          have HJ := Lib.hid hj
          have hd : decide (((j : Nat) : Int) < 0) = false := by simp
          have hn1 := numsM_len x
          have hn2 := numsM_len (minM (Z.take k))
          unfold szM at HS
          generalize minM (Z.take k) = M at HS HJ x1 hn2
          clear hR hzs hI hx hj hzs2 hI2
          by_cases hsz : (numsM x).length < (numsM M).length
          · have hd2 : decide (((numsM x).length : Int) < ((numsM M).length : Int)) = true := by simp; omega
            rw [if_pos hsz] at HS
            generalize (numsM x).length = lx at x0 hd2 hn1 hsz
            generalize (numsM M).length = lm at x1 hd2 hn2 hsz
            have hd3 : decide (lx < lm) = true := by simp; omega
            clear hd2
            go_wp2_with fail
            go_quiet (fail)
            go_wp2_with fail
            go_roundw
            case rel => exact ⟨k + 1, by omega, by go_num, HB.out.trans (Below.mono ⟨rfl, rfl, rfl, Nat.le_refl _, fun _ _ => rfl⟩ HB.out.size), .inr ⟨k, by omega, rfl, by rw [HS.out]; exact HX.out⟩⟩
            case measure => simp [intOf]; omega
          · have hd2 : decide (((numsM x).length : Int) < ((numsM M).length : Int)) = false := by simp; omega
            rw [if_neg hsz] at HS
            generalize (numsM x).length = lx at x0 hd2 hn1 hsz
            generalize (numsM M).length = lm at x1 hd2 hn2 hsz
            have hd3 : decide (lx < lm) = false := by simp; omega
            clear hd2
            go_wp2_with fail
            go_quiet (fail)
            go_wp2_with fail
            go_roundw
            case rel => exact ⟨k + 1, by omega, by go_num, HB.out.trans (Below.mono ⟨rfl, rfl, rfl, Nat.le_refl _, fun _ _ => rfl⟩ HB.out.size), .inr ⟨j, by omega, rfl, by rw [HS.out]; exact HJ.out⟩⟩
            case measure => simp [intOf]; omega
      · have hke : k = Z.length := by omega
        subst hke
        have HB5 := Lib.hid (HB4.out.trans (HB.out.mono HB4.out.size))
        rcases hbest with ⟨h0, rfl⟩ | ⟨j, hk1, rfl, hj⟩
        · have hZ : Z = [] := List.length_eq_zero_iff.1 h0
          subst hZ
          clear hR h0 hlt
          go_wp2_with fail
          go_ret3
          exact ⟨none, 0, rfl, .inl rfl, HB5.out⟩
        · have hjl : j < Z.length := by
            by_cases h : j < Z.length
            · exact h
            · rw [List.getElem?_eq_none (by omega)] at hj; simp at hj
          rw [List.take_length] at hj
          have hE : (!Z.isEmpty) = true := by cases Z <;> simp_all
          obtain ⟨b2, off2, zs2, a2', c2', rfl, hlb2, hzs2, x1, hI2⟩ := hR.at_ (k := j) (by rw [List.length_map]; exact hjl)
          have e0 : zs2 = numsM (minM Z) := by rw [List.getElem?_map, hj] at hzs2; injection hzs2 with e; exact e.symm
          subst e0
          have HE := Lib.hid hE
          have HI2 := Lib.hid hI2
          have hd : decide (((j : Nat) : Int) < 0) = false := by simp
          have hlt2 : decide (((Z.length : Nat) : Int) < ((Z.length : Nat) : Int)) = false := by simp
          clear hR hzs2 hj hE hI2
          go_wp2_with fail
          go_ret3
          refine ⟨a2', c2', ?_, HI2.out, HB5.out⟩
          rw [HE.out]
          rfl
  · rw [if_neg hz, if_neg hz]
    generalize vfam f = co at HV hz
    have hz1 : (co != 0) = true := by simpa using hz
    have hz2 : (co == 0) = false := by simpa using hz
    clear hz hf hm
    go_enter Try.func31, Try.ntmps31
    go_wp2_with fail
    refine HV.out.mono ?_
    rintro e w1 ⟨rfl, hB⟩
    go_wp2_with fail
    go_ret3
    exact ⟨none, 0, rfl, .inl rfl, hB⟩

set_option maxRecDepth 100000 in
set_option maxHeartbeats 1000000 in
theorem rSmallest_any (a : Option Addr) (cap : Nat) (f : List (List Int)) (w : World) (hf : RowsAt w a f) (hm : ∀ z ∈ f, z.length ≤ 1000) :
    Calls Try.prog 29 #[.slice a f.length cap] w fun e w' => e = .returned (.tuple #[.int .i64 (fiL f).length, .bool (fiB f), .int .i64 (vfam f)]) ∧ Below w.heap.size w w' := by
  have HF := Lib.hid (rFirst_any a cap f w hf hm)
  generalize fiL f = X at HF ⊢
  generalize fiB f = B at HF ⊢
  generalize vfam f = v at HF ⊢
  clear hf hm
  go_enter Try.func29, Try.ntmps29
  go_wp2_with fail
  refine HF.out.mono ?_
  rintro e w1 ⟨a1, c1, rfl, h1, hB1⟩
  have HB1 := Lib.hid hB1
  clear h1 hB1
  go_wp2_with fail
  go_ret3
  exact ⟨rfl, HB1.out⟩

end Go.Proofs.Ytgoidphamkpmdaa
