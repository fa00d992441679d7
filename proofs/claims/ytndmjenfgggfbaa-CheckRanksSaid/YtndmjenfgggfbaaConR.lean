/- ValidateContract, Box: the document's answers. -/
import Derived.Test.YtndmjenfgggfbaaConB
set_option linter.unusedVariables false
set_option linter.unusedSimpArgs false
namespace Go.Proofs.Ytndmjenfgggfbaa
open Go.RowKit Tinker

/-- A number, at most 401. -/
def cap4 (n : Int) : Int := if 401 < n then 401 else n
theorem cap4_step {p f : Int} (hp : 1 ≤ p) (hf : 1 ≤ f) : cap4 (cap4 p * f) = cap4 (p * f) := by
  unfold cap4
  by_cases h : 401 < p
  · rw [if_pos h]
    have h1 : 401 * 1 ≤ 401 * f := Int.mul_le_mul_of_nonneg_left hf (by omega)
    have h2 : 401 * f ≤ p * f := Int.mul_le_mul_of_nonneg_right (by omega) (by omega)
    by_cases h3 : 401 < 401 * f
    · rw [if_pos h3, if_pos (by omega)]
    · rw [if_neg h3]
      have h4 : 401 * f = 401 := by omega
      rw [h4]
      by_cases h5 : 401 < p * f
      · rw [if_pos h5]
      · rw [if_neg h5]; omega
  · rw [if_neg h]
theorem cap4_le {p : Int} (hp : 1 ≤ p) : 1 ≤ cap4 p ∧ cap4 p ≤ 401 := by unfold cap4; split <;> omega
theorem cap4_big {p : Int} : 400 < cap4 p ↔ 400 < p := by unfold cap4; split <;> omega
theorem cap4_small {p : Int} (h : ¬ 400 < p) : cap4 p = p := by unfold cap4; rw [if_neg (by omega)]

set_option maxHeartbeats 400000 in
theorem rWithin2_any (n lo hi : Int) (w : World) :
    Calls Try.prog 91 #[.int .i64 n, .int .i64 lo, .int .i64 hi] w fun e w' => e = .returned (.bool (btw n lo hi)) ∧ w = w' := by
  go_enter Try.func91, Try.ntmps91
  go_wp2
  all_goals go_ret
  all_goals exact ⟨ret_bool (by simp [btw]; omega), rfl⟩

set_option maxRecDepth 100000 in
set_option maxHeartbeats 1000000 in
theorem rbox_any (a b : Option Addr) (ca cb : Nat) (lo hi : List Int) (out mn mx : Int) (w : World) (hl : IntsAt w a lo) (hh : IntsAt w b hi) (h1 : vs lo = 0) (h2 : vs hi = 0) (h3 : leTo lo hi 4 = true) :
    Calls Try.prog 93 #[.agg #[.slice a lo.length ca, .slice b hi.length cb, .int .i64 out, .int .i64 mn, .int .i64 mx]] w fun e w' => e = .returned (.int .i64 (cap4 (prd lo hi 4))) ∧ Below w.heap.size w w' := by
  have HP := Lib.hid (prd_le h1 h2 h3)
  have HF := Lib.hid (fun k => fac h1 h2 h3 (k := k))
  have HG1 := Lib.hid (fun k => getD_vs h1 (k := k))
  have HG2 := Lib.hid (fun k => getD_vs h2 (k := k))
  have E1 := Lib.hid (vs_ok h1).1
  have E2 := Lib.hid (vs_ok h2).1
  rw [E1.out, E2.out]
  clear h1 h2 h3
  have HI := Lib.hid (boxC_new (a := a) (b := b) (n := 4) (m := 4) (ca := ca) (cb := cb) (out := out) (mn := mn) (mx := mx) w)
  go_enter Try.func93, Try.ntmps93
  go_wp2_with fail
  go_loopw [4, 3] (fun s4 s3 wr => ∃ k : Nat, k ≤ 4 ∧ s4 = .int .i64 k ∧ s3 = .int .i64 (cap4 (prd lo hi k)) ∧ BoxC w.heap.size a b 4 4 ca cb out mn mx w wr) (fun s4 _ _ => 4 - (intOf s4).toNat)
  case atStart => exact ⟨0, Nat.zero_le _, rfl, by simp [prd, cap4], HI.out⟩
  case round =>
    obtain ⟨k, hk, rfl, rfl, hI⟩ := hrel
    have HI := Lib.hid hI
    clear hI
    by_cases hlt : k < 4
    · have x0 := HI.out.c0
      have x1 := HI.out.c1
      obtain ⟨lb, lf, x, rfl, hlb, hx, cx⟩ := (hl.below HI.out.below (Nat.le_refl _)).at_ (show k < lo.length by rw [E1.out]; exact hlt)
      obtain ⟨hb, hf, y, rfl, hhb, hy, cy⟩ := (hh.below HI.out.below (Nat.le_refl _)).at_ (show k < hi.length by rw [E2.out]; exact hlt)
      have f := HF.out k hlt
      have p := HP.out k (by omega)
      have q1 := HG1.out k hlt
      have q2 := HG2.out k hlt
      rw [getD_of_get hx] at f q1
      rw [getD_of_get hy] at f q2
      have HS := Lib.hid (show cap4 (prd lo hi (k + 1)) = cap4 (cap4 (prd lo hi k) * (y - x + 1)) by rw [cap4_step p.1 f.1, prd, getD_of_get hx, getD_of_get hy])
      have pc := cap4_le p.1
      generalize cap4 (prd lo hi k) = P at HS pc
      have pm := mul_le' pc.1 pc.2 f.1 f.2
      obtain ⟨pm1, pm2⟩ := pm
      have pm2 : P * (y - x + 1) ≤ 801599 := by omega
      clear p hx hy pc
      go_wp2_with fail
      go_region
      all_goals go_wp2_with fail
      all_goals go_roundw
      case rel => exact ⟨k + 1, by omega, by go_num, by rw [HS.out]; rfl, HI.out.drew⟩
      case measure => simp [intOf]; omega
    · have : k = 4 := by omega
      subst this
      go_wp2_with fail
      go_ret
      exact ⟨rfl, HI.out.below⟩

set_option maxRecDepth 100000 in
set_option maxHeartbeats 2000000 in
theorem rValidateContract_any (a b : Option Addr) (ca cb : Nat) (lo hi : List Int) (out mn mx : Int) (w : World) (hl : IntsAt w a lo) (hh : IntsAt w b hi) :
    Calls Try.prog 51 #[.agg #[.slice a lo.length ca, .slice b hi.length cb, .int .i64 out, .int .i64 mn, .int .i64 mx]] w fun e w' => e = .returned (.int .i64 (vcon lo hi out mn mx)) ∧ Below w.heap.size w w' := by
  have HI := Lib.hid (boxC_new (a := a) (b := b) (n := lo.length) (m := hi.length) (ca := ca) (cb := cb) (out := out) (mn := mn) (mx := mx) w)
  have HV1 := Lib.hid (fun w h => rValidateState_any a ca lo w h)
  have HV2 := Lib.hid (fun w h => rValidateState_any b cb hi w h)
  by_cases z1 : vs lo = 0
  · by_cases z2 : vs hi = 0
    · have E1 := Lib.hid (vs_ok z1).1
      have E2 := Lib.hid (vs_ok z2).1
      have HC3 := Lib.hid (fun h => vcon_no (isCon_3 (lo := lo) (hi := hi) (out := out) (mn := mn) (mx := mx) h))
      have HC4 := Lib.hid (fun h => isCon_4 (out := out) (mn := mn) (mx := mx) z1 z2 h)
      have HY := Lib.hid (vcon_yes (lo := lo) (hi := hi) (out := out) (mn := mn) (mx := mx))
      have HN := Lib.hid (vcon_no (lo := lo) (hi := hi) (out := out) (mn := mn) (mx := mx))
      have HBX := Lib.hid (fun h w hl hh => rbox_any a b ca cb lo hi out mn mx w hl hh z1 z2 h)
      rw [z1] at HV1
      rw [z2] at HV2
      rw [E1.out] at HV1 HBX
      rw [E2.out] at HV2 HBX
      rw [E1.out, E2.out]
      rw [E1.out, E2.out] at HI
      have x0 := HI.out.c0
      have x1 := HI.out.c1
      have x2 := HI.out.c2
      have x3 := HI.out.c3
      have x4 := HI.out.c4
      clear z1 z2
      go_enter Try.func51, Try.ntmps51
      go_wp2_with fail
      refine (HV1.out _ (hl.below HI.out.below (Nat.le_refl _))).mono ?_
      rintro e w' ⟨rfl, rfl⟩
      go_wp2_with fail
      refine (HV2.out _ (hh.below HI.out.below (Nat.le_refl _))).mono ?_
      rintro e w' ⟨rfl, rfl⟩
      go_wp2_with fail
      go_loopw [3] (fun s3 wr => ∃ k : Nat, k ≤ 4 ∧ s3 = .int .i64 k ∧ leTo lo hi k = true ∧ BoxC w.heap.size a b 4 4 ca cb out mn mx w wr) (fun s3 _ => 4 - (intOf s3).toNat)
      case atStart => exact ⟨0, Nat.zero_le _, rfl, rfl, HI.out⟩
      case round =>
        obtain ⟨k, hk, rfl, ht, hI⟩ := hrel
        have HT := Lib.hid ht
        have HI := Lib.hid hI
        clear ht hI x0 x1 x2 x3 x4
        have x0 := HI.out.c0
        have x1 := HI.out.c1
        have x2 := HI.out.c2
        have x3 := HI.out.c3
        have x4 := HI.out.c4
        by_cases hlt : k < 4
        · obtain ⟨lb, lf, x, rfl, hlb, hx, cx⟩ := (hl.below HI.out.below (Nat.le_refl _)).at_ (show k < lo.length by rw [E1.out]; exact hlt)
          obtain ⟨hb, hf, y, rfl, hhb, hy, cy⟩ := (hh.below HI.out.below (Nat.le_refl _)).at_ (show k < hi.length by rw [E2.out]; exact hlt)
          by_cases hxy : x ≤ y
          · have HS := Lib.hid (show leTo lo hi (k + 1) = true by rw [leTo_succ, HT.out, getD_of_get hx, getD_of_get hy]; simpa using hxy)
            have hxy' : ¬ y < x := by omega
            clear hx hy
            go_wp2_with fail
            go_quiet (fail)
            go_wp2_with fail
            go_roundw
            case rel => exact ⟨k + 1, by omega, by go_num, HS.out, HI.out.drewN _⟩
            case measure => simp [intOf]; omega
          · have hxy' : y < x := by omega
            have HS := Lib.hid (HC3.out (leTo_not hlt (by rw [getD_of_get hx, getD_of_get hy]; exact hxy)))
            clear hx hy
            go_wp2_with fail
            go_quiet (fail)
            go_wp2_with fail
            go_ret
            exact ⟨ret_int HS.out.symm, (HI.out.drewN _).below⟩
        · have : k = 4 := by omega
          subst this
          have HCC := Lib.hid (show isCon lo hi out mn mx = (isReg out && (btw mn (-999) 999 && (btw mx (-999) 999 && decide (mn ≤ mx)))) from HC4.out HT.out)
          have HR := Lib.hid (fun w => rWithin2_any out 0 3 w)
          have HM := Lib.hid (fun w => rWithin2_any mn (-999) 999 w)
          have HX := Lib.hid (fun w => rWithin2_any mx (-999) 999 w)
          unfold isReg at HCC
          generalize btw out 0 3 = c1 at HR HCC
          generalize btw mn (-999) 999 = c2 at HM HCC
          generalize btw mx (-999) 999 = c3 at HX HCC
          cases c1
          · go_wp2_with fail
            refine (HR.out _).mono ?_
            rintro e w' ⟨rfl, rfl⟩
            go_wp2_with fail
            go_ret
            exact ⟨ret_int (HN.out (by rw [HCC.out]; rfl)).symm, HI.out.below⟩
          · cases c2
            · go_wp2_with fail
              refine (HR.out _).mono ?_
              rintro e w' ⟨rfl, rfl⟩
              go_wp2_with fail
              refine (HM.out _).mono ?_
              rintro e w' ⟨rfl, rfl⟩
              go_wp2_with fail
              go_ret
              exact ⟨ret_int (HN.out (by rw [HCC.out]; rfl)).symm, HI.out.below⟩
            · cases c3
              · go_wp2_with fail
                refine (HR.out _).mono ?_
                rintro e w' ⟨rfl, rfl⟩
                go_wp2_with fail
                refine (HM.out _).mono ?_
                rintro e w' ⟨rfl, rfl⟩
                go_wp2_with fail
                refine (HX.out _).mono ?_
                rintro e w' ⟨rfl, rfl⟩
                go_wp2_with fail
                go_ret
                exact ⟨ret_int (HN.out (by rw [HCC.out]; rfl)).symm, HI.out.below⟩
              · by_cases hmm : mn ≤ mx
                · have hmm' : ¬ mx < mn := by omega
                  have HY2 := Lib.hid (HY.out (by rw [HCC.out]; simp [hmm]))
                  have HB4 := Lib.hid (HBX.out HT.out)
                  clear HCC HY HN HBX HC3 HC4 hmm
                  have h400 := cap4_big (p := prd lo hi 4)
                  go_wp2_with fail
                  refine (HR.out _).mono ?_
                  rintro e w' ⟨rfl, rfl⟩
                  go_wp2_with fail
                  refine (HM.out _).mono ?_
                  rintro e w' ⟨rfl, rfl⟩
                  go_wp2_with fail
                  refine (HX.out _).mono ?_
                  rintro e w' ⟨rfl, rfl⟩
                  go_wp2_with fail
                  refine (HB4.out _ (hl.below HI.out.below (Nat.le_refl _)) (hh.below HI.out.below (Nat.le_refl _))).mono ?_
                  rintro e w2 ⟨rfl, hB⟩
                  by_cases hp : 400 < prd lo hi 4
                  · have hp' := h400.2 hp
                    go_wp2_with fail
                    go_ret
                    exact ⟨ret_int (by rw [HY2.out, if_pos hp]), (HI.out.low hB).below⟩
                  · have hp' : ¬ 400 < cap4 (prd lo hi 4) := fun h => hp (h400.1 h)
                    go_wp2_with fail
                    go_ret
                    exact ⟨ret_int (by rw [HY2.out, if_neg (by omega)]), (HI.out.low hB).below⟩
                · have hmm' : mx < mn := by omega
                  have HN2 := Lib.hid (HN.out (by rw [HCC.out]; simp [hmm]))
                  clear hmm
                  go_wp2_with fail
                  refine (HR.out _).mono ?_
                  rintro e w' ⟨rfl, rfl⟩
                  go_wp2_with fail
                  refine (HM.out _).mono ?_
                  rintro e w' ⟨rfl, rfl⟩
                  go_wp2_with fail
                  refine (HX.out _).mono ?_
                  rintro e w' ⟨rfl, rfl⟩
                  go_wp2_with fail
                  go_ret
                  exact ⟨ret_int HN2.out.symm, HI.out.below⟩
    · have HC := Lib.hid (vcon_no (isCon_2 (lo := lo) (hi := hi) (out := out) (mn := mn) (mx := mx) z2))
      rw [HC.out]
      rw [z1] at HV1
      have z2' : (vs hi != 0) = true := by simpa using z2
      have z2'' : (vs hi == 0) = false := by simpa using z2
      generalize vs hi = c2 at HV2 z2' z2''
      clear z1 z2
      have x0 := HI.out.c0
      have x1 := HI.out.c1
      go_enter Try.func51, Try.ntmps51
      go_wp2_with fail
      refine (HV1.out _ (hl.below HI.out.below (Nat.le_refl _))).mono ?_
      rintro e w' ⟨rfl, rfl⟩
      go_wp2_with fail
      refine (HV2.out _ (hh.below HI.out.below (Nat.le_refl _))).mono ?_
      rintro e w' ⟨rfl, rfl⟩
      go_wp2_with fail
      go_ret
      exact ⟨rfl, HI.out.below⟩
  · have HC := Lib.hid (vcon_no (isCon_1 (lo := lo) (hi := hi) (out := out) (mn := mn) (mx := mx) z1))
    rw [HC.out]
    have z1' : (vs lo != 0) = true := by simpa using z1
    have z1'' : (vs lo == 0) = false := by simpa using z1
    generalize vs lo = c1 at HV1 z1' z1''
    clear z1
    have x0 := HI.out.c0
    have x1 := HI.out.c1
    go_enter Try.func51, Try.ntmps51
    go_wp2_with fail
    refine (HV1.out _ (hl.below HI.out.below (Nat.le_refl _))).mono ?_
    rintro e w' ⟨rfl, rfl⟩
    go_wp2_with fail
    go_ret
    exact ⟨rfl, HI.out.below⟩

set_option maxRecDepth 100000 in
set_option maxHeartbeats 2000000 in
theorem rBox_any (a b : Option Addr) (ca cb : Nat) (lo hi : List Int) (out mn mx : Int) (w : World) (hl : IntsAt w a lo) (hh : IntsAt w b hi) :
    Calls Try.prog 49 #[.agg #[.slice a lo.length ca, .slice b hi.length cb, .int .i64 out, .int .i64 mn, .int .i64 mx]] w fun e w' => e = .returned (.tuple #[.int .i64 (boxN lo hi out mn mx), .int .i64 (vcon lo hi out mn mx)]) ∧ Below w.heap.size w w' := by
  have HI := Lib.hid (boxC_new (a := a) (b := b) (n := lo.length) (m := hi.length) (ca := ca) (cb := cb) (out := out) (mn := mn) (mx := mx) w)
  have HV := Lib.hid (fun w hl hh => rValidateContract_any a b ca cb lo hi out mn mx w hl hh)
  have x0 := HI.out.c0
  have x1 := HI.out.c1
  have x2 := HI.out.c2
  have x3 := HI.out.c3
  have x4 := HI.out.c4
  by_cases hv : vcon lo hi out mn mx = 0
  · have hc : isCon lo hi out mn mx = true := by
      cases h : isCon lo hi out mn mx
      · rw [vcon_no h] at hv; cases hv
      · rfl
    obtain ⟨h1, h2, h3, _⟩ := isCon_ok hc
    have h4 : ¬ 400 < prd lo hi 4 := by
      intro h
      rw [vcon_yes hc, if_pos h] at hv
      cases hv
    have HS := Lib.hid (fun w hl hh => rbox_any a b ca cb lo hi out mn mx w hl hh h1 h2 h3)
    rw [cap4_small h4] at HS
    unfold boxN
    rw [if_pos hv, hv]
    rw [hv] at HV
    generalize prd lo hi 4 = P at HS
    clear hc h1 h2 h3 h4 hv
    go_enter Try.func49, Try.ntmps49
    go_wp2_with fail
    refine (HV.out _ (hl.below HI.out.below (Nat.le_refl _)) (hh.below HI.out.below (Nat.le_refl _))).mono ?_
    rintro e w1 ⟨rfl, hB⟩
    have HI1 := Lib.hid (HI.out.low hB)
    clear HI hB x0 x1 x2 x3 x4
    have x0 := HI1.out.c0
    have x1 := HI1.out.c1
    have x2 := HI1.out.c2
    have x3 := HI1.out.c3
    have x4 := HI1.out.c4
    go_wp2_with fail
    refine (HS.out _ (hl.below HI1.out.below (Nat.le_refl _)) (hh.below HI1.out.below (Nat.le_refl _))).mono ?_
    rintro e w2 ⟨rfl, hB⟩
    go_wp2_with fail
    go_ret2
    exact ⟨rfl, (HI1.out.low hB).below⟩
  · unfold boxN
    rw [if_neg hv]
    have hv1 : (vcon lo hi out mn mx != 0) = true := by simpa using hv
    have hv2 : (vcon lo hi out mn mx == 0) = false := by simpa using hv
    generalize vcon lo hi out mn mx = c at HV hv1 hv2
    clear hv
    go_enter Try.func49, Try.ntmps49
    go_wp2_with fail
    refine (HV.out _ (hl.below HI.out.below (Nat.le_refl _)) (hh.below HI.out.below (Nat.le_refl _))).mono ?_
    rintro e w1 ⟨rfl, hB⟩
    go_wp2_with fail
    go_ret2
    exact ⟨rfl, (HI.out.low hB).below⟩

set_option maxHeartbeats 400000 in
theorem large2_any (a : Option Addr) (n cap : Nat) (w : World) : Calls Try.prog 18 #[.slice a n cap] w fun e w' => e = .returned (.bool (decide ((100 : Int) < (n : Int)))) ∧ w = w' := by
  go_enter Try.func18, Try.ntmps18
  go_wp2
  all_goals go_ret
  all_goals exact ⟨rfl, rfl⟩

set_option maxRecDepth 100000 in
set_option maxHeartbeats 1000000 in
theorem wide_any (a b : Option Addr) (ca cb n m : Nat) (out mn mx : Int) (w : World) :
    Calls Try.prog 47 #[.agg #[.slice a n ca, .slice b m cb, .int .i64 out, .int .i64 mn, .int .i64 mx]] w fun e w' => e = .returned (.bool (decide (100 < n ∨ 100 < m))) ∧ Below w.heap.size w w' := by
  have HI := Lib.hid (boxC_new (a := a) (b := b) (n := n) (m := m) (ca := ca) (cb := cb) (out := out) (mn := mn) (mx := mx) w)
  have HA := Lib.hid (fun w => large2_any a n ca w)
  have HB := Lib.hid (fun w => large2_any b m cb w)
  have x0 := HI.out.c0
  have x1 := HI.out.c1
  by_cases h1 : 100 < n
  · rw [show decide ((100 : Int) < (n : Int)) = true by simp; omega] at HA
    go_enter Try.func47, Try.ntmps47
    go_wp2_with fail
    refine (HA.out _).mono ?_
    rintro e w1 ⟨rfl, rfl⟩
    go_wp2_with fail
    go_ret
    exact ⟨ret_bool (by simp; omega), HI.out.below⟩
  · rw [show decide ((100 : Int) < (n : Int)) = false by simp; omega] at HA
    go_enter Try.func47, Try.ntmps47
    go_wp2_with fail
    refine (HA.out _).mono ?_
    rintro e w1 ⟨rfl, rfl⟩
    go_wp2_with fail
    refine (HB.out _).mono ?_
    rintro e w1 ⟨rfl, rfl⟩
    go_wp2_with fail
    go_ret
    exact ⟨ret_bool (by rw [decide_eq_decide]; omega), HI.out.below⟩

end Go.Proofs.Ytndmjenfgggfbaa
