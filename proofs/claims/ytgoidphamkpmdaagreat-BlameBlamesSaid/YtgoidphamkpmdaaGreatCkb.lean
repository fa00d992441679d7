/- CheckBlocker of both: contracts. -/
import Derived.Test.YtgoidphamkpmdaaGreatRbk
import Derived.Test.YtgoidphamkpmdaaGreatLst
set_option linter.unusedVariables false
set_option linter.unusedSimpArgs false
namespace Go.Proofs.YtgoidphamkpmdaaGreat
open Go.RowKit Tinker

theorem eqMs_upto {ms ns : List Nat} (hl : ms.length = ns.length) (h : ∀ (j x y : Nat), ms[j]? = some x → ns[j]? = some y → x = y) : ms = ns := by
  refine List.ext_getElem? fun j => ?_
  rcases Nat.lt_or_ge j ms.length with hj | hj
  · obtain ⟨x, hx⟩ := get_of_lt hj
    obtain ⟨y, hy⟩ := get_of_lt (show j < ns.length by omega)
    rw [hx, hy, h j x y hx hy]
  · rw [List.getElem?_eq_none hj, List.getElem?_eq_none (by omega)]

set_option maxRecDepth 100000 in
set_option maxHeartbeats 1000000 in
theorem equalM_any (a b : Option Addr) (ca cb : Nat) (ms ns : List Nat) (w : World) (h1 : MskAt w a ms) (h2 : MskAt w b ns) (hl : ms.length ≤ 1000) (hl2 : ns.length ≤ 1000) :
    Calls Tryz.prog 42 #[.slice a ms.length ca, .slice b ns.length cb] w fun e w' => e = .returned (.bool (decide (ms = ns))) ∧ Below w.heap.size w w' := by
  generalize hd : decide (ms = ns) = D
  have HD := Lib.hid hd
  clear hd
  by_cases hlen : ms.length = ns.length
  · have HL := Lib.hid hlen
    rw [← hlen]
    have hnn : ((ms.length : Int) != (ms.length : Int)) = false := by simp
    clear hlen
    go_enter Tryz.func42, Tryz.ntmps42
    go_wp2_with fail
    go_loopw [13] (fun s13 wr => ∃ k : Nat, k ≤ ms.length ∧ s13 = .int .i64 k ∧ (∀ (j x y : Nat), j < k → ms[j]? = some x → ns[j]? = some y → x = y) ∧ Below w.heap.size w wr) (fun s13 _ => ms.length - (intOf s13).toNat)
    case atStart => exact ⟨0, Nat.zero_le _, rfl, fun j x y h => by omega, Below.refl _ _⟩
    case round =>
      obtain ⟨k, hk, rfl, hall, hB⟩ := hrel
      have HA := Lib.hid hall
      have HB := Lib.hid hB
      clear hall
      by_cases hlt : k < ms.length
      · obtain ⟨b1, o1, x, rfl, hb1, hx, x0⟩ := (h1.below hB (Nat.le_refl _)).at_ hlt
        obtain ⟨b2, o2, y, rfl, hb2, hy, y0⟩ := (h2.below hB (Nat.le_refl _)).at_ (k := k) (by rw [← HL.out]; exact hlt)
        have HX := Lib.hid hx
        have HY := Lib.hid hy
        have hne := nat_bne x y
        clear hx hy h1 h2 hB
        cases hb : (x != y)
        · have HE := Lib.hid (show x = y by simpa using hb)
          rw [hb] at hne
          clear hb
          go_wp2_with fail
          go_quiet (fail)
          go_wp2_with fail
          go_roundw
          case rel => exact ⟨k + 1, by omega, by go_num, fun j x' y' hj hx' hy' => by
            rcases Nat.lt_or_ge j k with hjk | hjk
            · exact HA.out j x' y' hjk hx' hy'
            · obtain rfl : j = k := by omega
              have e1 := HX.out; have e2 := HY.out
              rw [hx'] at e1; rw [hy'] at e2
              injection e1 with e1; injection e2 with e2
              rw [e1, e2]; exact HE.out, HB.out.trans (Below.mono ⟨rfl, rfl, rfl, Nat.le_refl _, fun _ _ => rfl⟩ HB.out.size)⟩
          case measure => simp [intOf]; omega
        · have HE := Lib.hid (show x ≠ y by simpa using hb)
          rw [hb] at hne
          clear hb
          go_wp2_with fail
          go_quiet (fail)
          go_wp2_with fail
          go_ret
          refine ⟨ret_bool ?_, HB.out.trans (Below.mono ⟨rfl, rfl, rfl, Nat.le_refl _, fun _ _ => rfl⟩ HB.out.size)⟩
          rw [← HD.out]
          symm
          rw [decide_eq_false_iff_not]
          intro e
          have e1 := HX.out; have e2 := HY.out
          rw [e, e2] at e1
          injection e1 with e1
          exact HE.out e1.symm
      · have hDt : D = true := by
          rw [← HD.out, decide_eq_true_eq]
          exact eqMs_upto HL.out fun j x y hx hy => HA.out j x y (by have := (List.getElem?_eq_some_iff.1 hx).1; omega) hx hy
        have HZ := Lib.hid hDt
        go_wp2_with fail
        go_ret
        exact ⟨ret_bool HZ.out.symm, HB.out⟩
  · have hDf : D = false := by
      rw [← HD.out, decide_eq_false_iff_not]
      intro e; exact hlen (by rw [e])
    subst hDf
    have hne1 : ((ms.length : Int) != (ns.length : Int)) = true := by rw [bne_iff_ne]; omega
    have hne2 : ((ms.length : Int) == (ns.length : Int)) = false := by rw [beq_eq_false_iff_ne]; omega
    clear hlen HD
    go_enter Tryz.func42, Tryz.ntmps42
    go_wp2_with fail
    go_ret
    exact ⟨rfl, Below.refl _ _⟩

/-- What CheckBlocker answers. -/
def cbC (f g : List (List Int)) : Int := if fe (vfam f) (vfam g) = 0 then (if fmM g = blkM (fmM f) then 0 else 7) else fe (vfam f) (vfam g)

set_option maxRecDepth 100000 in
set_option maxHeartbeats 2000000 in
theorem CheckBlocker_any (a b : Option Addr) (ca cb : Nat) (f g : List (List Int)) (w : World) (hf : RowsAt w a f) (hg : RowsAt w b g) (hm : ∀ z ∈ f, z.length ≤ 1000) (hm2 : ∀ z ∈ g, z.length ≤ 1000) :
    Calls Tryz.prog 15 #[.slice a f.length ca, .slice b g.length cb] w fun e w' => e = .returned (.int .i64 (cbC f g)) ∧ Below w.heap.size w w' := by
  have HV1 := Lib.hid (fun w hf => validateF_any a ca f w hf hm)
  have HV2 := Lib.hid (fun w hg => validateF_any b cb g w hg hm2)
  have HF := Lib.hid hf
  have HG := Lib.hid hg
  have HC := Lib.hid (show cbC f g = if fe (vfam f) (vfam g) = 0 then (if fmM g = blkM (fmM f) then 0 else 7) else fe (vfam f) (vfam g) from rfl)
  rw [HC.out]
  clear hf hg HC
  by_cases hz : fe (vfam f) (vfam g) = 0
  · obtain ⟨z1, z2⟩ : vfam f = 0 ∧ vfam g = 0 := by unfold fe at hz; split at hz <;> simp_all
    obtain ⟨h70, hs⟩ := vfam_ok z1
    obtain ⟨g70, hs2⟩ := vfam_ok z2
    rw [if_pos hz]
    rw [z1] at HV1
    rw [z2] at HV2
    have H1 := Lib.hid (fun w h => masksOf_any b cb g w h hs2 (by omega))
    have H2 := Lib.hid (fun w h => masksOf_any a ca f w h hs (by omega))
    have H3 := Lib.hid (fun b c w h => blocker_any b c (fmM f) w h (fmM_lt hs) (by rw [fmM_len]; omega))
    have H4 := Lib.hid (fun a' b' c' d' w h1 h2 => equalM_any a' b' c' d' (fmM g) (blkM (fmM f)) w h1 h2 (by rw [fmM_len]; omega) (by have := blk_len (fmM f); omega))
    rw [show (if fmM g = blkM (fmM f) then (0 : Int) else 7) = if decide (fmM g = blkM (fmM f)) = true then 0 else 7 by simp]
    generalize decide (fmM g = blkM (fmM f)) = D at H4 ⊢
    generalize blkM (fmM f) = Z at H3 H4
    clear hs hs2 hz z1 z2 hm hm2
    cases D
    · rw [if_neg (by decide)]
      go_enter Tryz.func15, Tryz.ntmps15
      go_wp2_with fail
      refine (HV1.out _ HF.out).mono ?_
      rintro e w1 ⟨rfl, hB1⟩
      have HB1 := Lib.hid hB1
      clear hB1
      go_wp2_with fail
      refine (HV2.out _ (HG.out.below HB1.out (Nat.le_refl _))).mono ?_
      rintro e w2 ⟨rfl, hB2⟩
      have HB2 := Lib.hid (HB1.out.trans (hB2.mono HB1.out.size))
      clear hB2
      go_wp2_with fail
      refine (firstError_two _ _ _ _).mono ?_
      rintro e w3 ⟨rfl, rfl⟩
      rw [show fe 0 0 = 0 from rfl]
      have HB3 := Lib.hid (HB2.out.alloc HB2.out.size (.cells #[.int .i64 0, .int .i64 0] 28))
      go_wp2_with fail
      refine (H1.out _ (HG.out.below HB3.out (Nat.le_refl _))).mono ?_
      rintro e w4 ⟨a4, c4, rfl, h4, hB4⟩
      have HM4 := Lib.hid h4
      have HB4 := Lib.hid (HB3.out.trans (hB4.mono HB3.out.size))
      clear h4 hB4
      go_wp2_with fail
      refine (H2.out _ (HF.out.below HB4.out (Nat.le_refl _))).mono ?_
      rintro e w5 ⟨a5, c5, rfl, h5, hB5⟩
      have HM4 := Lib.hid (HM4.out.below hB5 (Nat.le_refl _))
      have HM5 := Lib.hid h5
      have HB5 := Lib.hid (HB4.out.trans (hB5.mono HB4.out.size))
      clear h5 hB5
      go_wp2_with fail
      refine (H3.out _ _ _ HM5.out).mono ?_
      rintro e w6 ⟨a6, c6, rfl, h6, hB6⟩
      have HM4 := Lib.hid (HM4.out.below hB6 (Nat.le_refl _))
      have HM6 := Lib.hid h6
      have HB6 := Lib.hid (HB5.out.trans (hB6.mono HB5.out.size))
      clear h6 hB6
      go_wp2_with fail
      refine (H4.out _ _ _ _ _ HM4.out HM6.out).mono ?_
      rintro e w7 ⟨rfl, hB7⟩
      have HB7 := Lib.hid (HB6.out.trans (hB7.mono HB6.out.size))
      clear hB7
      go_wp2_with fail
      go_ret
      exact ⟨rfl, HB7.out⟩
    · rw [if_pos rfl]
      go_enter Tryz.func15, Tryz.ntmps15
      go_wp2_with fail
      refine (HV1.out _ HF.out).mono ?_
      rintro e w1 ⟨rfl, hB1⟩
      have HB1 := Lib.hid hB1
      clear hB1
      go_wp2_with fail
      refine (HV2.out _ (HG.out.below HB1.out (Nat.le_refl _))).mono ?_
      rintro e w2 ⟨rfl, hB2⟩
      have HB2 := Lib.hid (HB1.out.trans (hB2.mono HB1.out.size))
      clear hB2
      go_wp2_with fail
      refine (firstError_two _ _ _ _).mono ?_
      rintro e w3 ⟨rfl, rfl⟩
      rw [show fe 0 0 = 0 from rfl]
      have HB3 := Lib.hid (HB2.out.alloc HB2.out.size (.cells #[.int .i64 0, .int .i64 0] 28))
      go_wp2_with fail
      refine (H1.out _ (HG.out.below HB3.out (Nat.le_refl _))).mono ?_
      rintro e w4 ⟨a4, c4, rfl, h4, hB4⟩
      have HM4 := Lib.hid h4
      have HB4 := Lib.hid (HB3.out.trans (hB4.mono HB3.out.size))
      clear h4 hB4
      go_wp2_with fail
      refine (H2.out _ (HF.out.below HB4.out (Nat.le_refl _))).mono ?_
      rintro e w5 ⟨a5, c5, rfl, h5, hB5⟩
      have HM4 := Lib.hid (HM4.out.below hB5 (Nat.le_refl _))
      have HM5 := Lib.hid h5
      have HB5 := Lib.hid (HB4.out.trans (hB5.mono HB4.out.size))
      clear h5 hB5
      go_wp2_with fail
      refine (H3.out _ _ _ HM5.out).mono ?_
      rintro e w6 ⟨a6, c6, rfl, h6, hB6⟩
      have HM4 := Lib.hid (HM4.out.below hB6 (Nat.le_refl _))
      have HM6 := Lib.hid h6
      have HB6 := Lib.hid (HB5.out.trans (hB6.mono HB5.out.size))
      clear h6 hB6
      go_wp2_with fail
      refine (H4.out _ _ _ _ _ HM4.out HM6.out).mono ?_
      rintro e w7 ⟨rfl, hB7⟩
      have HB7 := Lib.hid (HB6.out.trans (hB7.mono HB6.out.size))
      clear hB7
      go_wp2_with fail
      go_ret
      exact ⟨rfl, HB7.out⟩
  · rw [if_neg hz]
    generalize vfam f = c1 at HV1 hz ⊢
    generalize vfam g = c2 at HV2 hz ⊢
    generalize hfe : fe c1 c2 = c at hz ⊢
    have HFE := Lib.hid hfe
    have hz1 : (c != 0) = true := by simpa using hz
    have hz2 : (c == 0) = false := by simpa using hz
    clear hz hfe
    go_enter Tryz.func15, Tryz.ntmps15
    go_wp2_with fail
    refine (HV1.out _ HF.out).mono ?_
    rintro e w1 ⟨rfl, hB1⟩
    have HB1 := Lib.hid hB1
    clear hB1
    go_wp2_with fail
    refine (HV2.out _ (HG.out.below HB1.out (Nat.le_refl _))).mono ?_
    rintro e w2 ⟨rfl, hB2⟩
    have HB2 := Lib.hid (HB1.out.trans (hB2.mono HB1.out.size))
    clear hB2
    go_wp2_with fail
    refine (firstError_two _ _ _ _).mono ?_
    rintro e w3 ⟨rfl, rfl⟩
    have HB3 := Lib.hid (HB2.out.alloc HB2.out.size (.cells #[.int .i64 c1, .int .i64 c2] 28))
    rw [HFE.out]
    go_wp2_with fail
    go_ret
    exact ⟨rfl, HB3.out⟩

theorem rowsEq_dec : ∀ fs gs : List (List Int), rowsEq fs gs = decide (fs = gs)
  | [], [] => by simp [rowsEq]
  | [], _ :: _ => by simp [rowsEq]
  | _ :: _, [] => by simp [rowsEq]
  | x :: r, y :: s => by
    rw [rowsEq, rowsEq_dec r s]
    unfold sameI
    rw [Bool.eq_iff_iff]
    simp
theorem nums_fm {g : List (List Int)} (h : ∀ s ∈ g, setB s = true) : (fmM g).map numsM = g := by
  unfold fmM
  rw [List.map_map]
  refine (List.map_congr_left (g := id) fun s hs => ?_).trans (List.map_id _)
  exact nums_maskM (h s hs)
theorem cb_eq {f g : List (List Int)} (h : ∀ s ∈ g, setB s = true) : rowsEq ((blkM (fmM f)).map numsM) g = decide (fmM g = blkM (fmM f)) := by
  rw [rowsEq_dec, decide_eq_decide]
  constructor
  · intro e
    rw [← e]
    unfold fmM
    rw [List.map_map]
    refine (List.map_congr_left (g := id) fun m hm => ?_).trans (List.map_id _)
    exact maskM_nums m (blk_lt hm)
  · intro e
    rw [← e]; exact nums_fm h

end Go.Proofs.YtgoidphamkpmdaaGreat
