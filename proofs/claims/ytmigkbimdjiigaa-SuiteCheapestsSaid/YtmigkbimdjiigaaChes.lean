/- SuiteCheapests: the walk. -/
import Derived.Test.YtmigkbimdjiigaaSuR
import Derived.Test.YtmigkbimdjiigaaSvJ
import Derived.Test.YtmigkbimdjiigaaSvC
set_option linter.unusedVariables false
set_option linter.unusedSimpArgs false
namespace Go.Proofs.Ytmigkbimdjiigaa
open Go.RowKit Tinker
/-- All that SuiteCheapests asks. -/
theorem cov_chk {t : List (List Int)} (hv : vsu t = 0) {S : Nat} (h : S < 2 ^ t.length) (hc : covB (tblM t) S = true) : chkC t (numsK S) = 0 := by
  have h8 := (vsu_ok hv).1
  unfold chkC
  have h0 : vsr t (numsK S) = 0 := by
    unfold vsr
    rw [if_pos hv, if_pos]
    rw [Bool.and_eq_true]
    exact ⟨setK _, List.all_eq_true.2 fun x hx => btw_true.2 (by have := nums_in (by omega) h x hx; omega)⟩
  rw [if_pos h0, mask_numsK (lt_K h8 h), hc]
  rfl
theorem csu_ok {t : List (List Int)} {c : List Int} (h : csu t c = 0) : vsu t = 0 ∧ c.length = t.length ∧ allBtw c 1 99 = true := by
  unfold csu at h
  split at h
  · rename_i hv
    split at h
    · rename_i h2
      exact ⟨hv, h2.1, h2.2⟩
    · cases h
  · rename_i hv
    exact absurd h hv
theorem che_ones {t : List (List Int)} (hv : vsu t = 0) : csu t (onesL t.length) = 0 ∧ cheA t (onesL t.length) = numsK (covM (tblM t)) ∧ cheK t (onesL t.length) = ((numsK (covM (tblM t))).length : Int) := by
  have h8 := (vsu_ok hv).1
  have h0 : csu t (onesL t.length) = 0 := by
    unfold csu
    rw [if_pos hv, if_pos ⟨ones_len _, List.all_eq_true.2 fun x hx => by rw [List.eq_of_mem_replicate hx]; rfl⟩]
  have h1 : cheM t (onesL t.length) = covM (tblM t) := by
    have h2 := cheD_eq h8 (onesL t.length)
    rw [cheD_ones h8] at h2
    injection h2 with h2
    exact h2.symm
  refine ⟨h0, ?_, ?_⟩
  · unfold cheA; rw [if_pos h0, h1]
  · unfold cheK
    rw [if_pos h0, h1, ones_key (by omega) (by have := covM_lt (s := tblM t) (by rw [tblM_len]; exact h8); rwa [tblM_len] at this)]
    rfl
end Go.Proofs.Ytmigkbimdjiigaa
namespace Go.Proofs.Ytmigkbimdjiigaa
open Go.RowKit Tinker

set_option maxRecDepth 100000 in
set_option maxHeartbeats 8000000 in
theorem suiteCheapests_walk (a : Option Addr) (ca : Nat) (t : List (List Int)) (b : Option Addr) (cb : Nat) (costs : List Int) (w : World) (ht : RowsAt w a t) (hc : a = none → ca = 0) (hml : t.length ≤ maxLen) (hr : IntsAt w b costs) (hcr : b = none → cb = 0) :
    Calls Try.prog 6 #[.slice a t.length ca, .slice b costs.length cb] w fun e w' => e = .returned (.bool true) ∧ Below w.heap.size w w' := by
  have HK := Lib.hid (fun w => sane8_true w)
  have HL := Lib.hid (fun w ht => long8_any a ca t w ht hml)
  have HT := Lib.hid ht
  have HR := Lib.hid hr
  cases hl : lng8 t
  · obtain ⟨hl50, hm0⟩ := lng8_no hl
    have hm : ∀ x ∈ t, x.length ≤ 1000 := fun x hx => by have := hm0 x hx; omega
    rw [hl] at HL
    by_cases hrl : 50 < costs.length
    · have hrl2 : decide ((50 : Int) < (costs.length : Int)) = true := by simp; omega
      have hrl3 : decide (50 < costs.length) = true := decide_eq_true hrl
      clear ht hc hml hl hm0 hr hcr hm hrl
      go_enter Try.func6, Try.ntmps6
      go_wp2_with fail
      refine (HL.out _ HT.out).mono ?_
      rintro e w0 ⟨rfl, rfl⟩
      go_wp2_with fail
      refine (HK.out _ ).mono ?_
      rintro e w1 ⟨rfl, hB⟩
      have HB := Lib.hid hB
      clear hB
      go_wp2_with fail
      go_ret
      exact ⟨rfl, HB.out⟩
    · have hrl2 : decide ((50 : Int) < (costs.length : Int)) = false := by simp; omega
      have hrl3 : decide (50 < costs.length) = false := decide_eq_false hrl
      have C1 := Lib.hid (fun w h h2 => sChe_any a b ca cb t costs w h h2 (by omega) hm (by omega))
      have C2 := Lib.hid (fun w h h2 => rChe8_any a b ca cb t costs w h h2 (by omega) hm (by omega))
      have hq1 : (cheA t costs).length ≤ 1000 := by
        unfold cheA
        split
        · exact Nat.le_trans (szK_le _) (by omega)
        · simp
      have S1 := Lib.hid (fun a' b' c' d' w h1 h2 => sameI8_self (cheA t costs).length a' b' c' d' (cheA t costs) w rfl h1 h2 hq1)
      have ek : (cheK t costs != cheK t costs) = false := by simp
      clear ht hc hml hl hm0 hr hcr
      by_cases hz : csu t costs = 0
      · obtain ⟨hv, hlen, hab⟩ := csu_ok hz
        obtain ⟨hl8, _, _⟩ := vsu_ok hv
        obtain ⟨f1, f2, f3⟩ := che_ones hv
        obtain ⟨⟨g1, g2⟩, _⟩ := che_bst hl8 costs
        obtain ⟨i0, hi, hz0, hz1, hz2⟩ := info_parts info_int
        have HCC := Lib.hid (btw_1000 hab)
        have HSM := Lib.hid (fun l => sumC_le (btw_1000 hab) l)
        have HIN := Lib.hid (nums_in (n := t.length) (by omega) g1)
        have HLN := Lib.hid hlen
        have hA : cheA t costs = numsK (cheM t costs) := by unfold cheA; rw [if_pos hz]
        have hK : cheK t costs = (sumC costs (numsK (cheM t costs)) : Nat) := by unfold cheK; rw [if_pos hz]; rfl
        have C3 := Lib.hid (fun b' c' w h h2 => by
          have h9 := sChe_any a b' ca c' t (onesL t.length) w h h2 (by omega) hm (by rw [ones_len]; omega)
          rw [f1, f2, f3, ones_len] at h9
          exact h9)
        have C4 := Lib.hid (fun w h => by
          have h9 := sCover_any a ca t w h (by omega) hm
          unfold coverL at h9
          rw [hv, if_pos rfl] at h9
          exact h9)
        have C5 := Lib.hid (fun b' c' w h h2 => by
          have h9 := sCheck_any a b' ca c' t (cheA t costs) w h h2 (by omega) hm hq1
          rw [hA, cov_chk hv g1 g2, ← hA] at h9
          exact h9)
        have hc10 := szK_le (covM (tblM t))
        unfold szK at hc10
        have hq10 : (cheA t costs).length ≤ 10 := by rw [hA]; exact szK_le _
        rw [← hA] at hK HIN
        generalize numsK (covM (tblM t)) = q2 at *
        have S2 := Lib.hid (fun a' b' c' d' w h1 h2 => sameI8_self q2.length a' b' c' d' q2 w rfl h1 h2 (by omega))
        generalize cheA t costs = q1 at *
        rw [hK] at C1 C2
        rw [hz] at C1 C2
        have e3 : ((sumC costs q1 : Nat) : Int) = ((sumC costs q1 : Nat) : Int) := rfl
        have e4 : (((sumC costs q1 : Nat) : Int) == ((sumC costs q1 : Nat) : Int)) = true := by simp
        have e5 : ((q2.length : Int) == (q2.length : Int)) = true := by simp
        have e6 : (((sumC costs q1 : Nat) : Int) != ((sumC costs q1 : Nat) : Int)) = false := by simp
        clear hz hv hlen hab f1 f2 f3 g1 g2 hA hK hm hq1 ek e3
        go_enter Try.func6, Try.ntmps6
        go_wp2_with fail
        refine (HL.out _ HT.out).mono ?_
        rintro e w0 ⟨rfl, rfl⟩
        go_wp2_with fail
        refine (C1.out _ HT.out HR.out).mono ?_
        rintro e w1 ⟨a1, c1, rfl, ho, hB⟩
        have HB := Lib.hid hB
        have I1 := Lib.hid ((ints_of_own ho).1)
        clear hB ho
        go_wp2_with fail
        refine (C2.out _ (HT.out.below HB.out (Nat.le_refl _)) (HR.out.below HB.out (Nat.le_refl _))).mono ?_
        rintro e w2 ⟨a2, c2, rfl, ho, hB⟩
        have I1 := Lib.hid (I1.out.below hB (Nat.le_refl _))
        have HB := Lib.hid (HB.out.trans (hB.mono HB.out.size))
        have I2 := Lib.hid ((ints_of_own ho).1)
        clear hB ho
        go_wp2_with fail
        refine (S1.out _ _ _ _ _ I1.out I2.out).mono ?_
        rintro e w3 ⟨rfl, hB⟩
        have I1 := Lib.hid (I1.out.below hB (Nat.le_refl _))
        have I2 := Lib.hid (I2.out.below hB (Nat.le_refl _))
        have HB := Lib.hid (HB.out.trans (hB.mono HB.out.size))
        clear hB
        have HRN := Lib.hid (HR.out.below HB.out (Nat.le_refl _))
        obtain ⟨W1, hW1⟩ : ∃ W, W = w3 := ⟨_, rfl⟩
        subst hW1
        go_wp2_with fail
        go_loopw [11, 12] (fun s11 s12 wr => ∃ k : Nat, k ≤ q1.length ∧ s12 = .int .i64 k ∧ s11 = .int .i64 (sumC costs (q1.take k) : Nat) ∧ W1 = wr) (fun _ s12 _ => q1.length - (intOf s12).toNat)
        case atStart => exact ⟨0, Nat.zero_le _, rfl, by simp [sumC], rfl⟩
        case round =>
          obtain ⟨k, hk, rfl, rfl, rfl⟩ := hrel
          by_cases hlt : k < q1.length
          · obtain ⟨b2, off2, x, rfl, hlb2, hx, hcx⟩ := I1.out.at_ hlt
            obtain ⟨x0, x1⟩ := HIN.out x (mem_of_get hx)
            obtain ⟨r, rfl⟩ : ∃ r : Nat, x = (r : Int) := ⟨x.toNat, by omega⟩
            obtain ⟨b3, off3, y, rfl, hlb3, hy, hcy⟩ := HRN.out.at_ (show r < costs.length by rw [HLN.out]; omega)
            have d1 : decide ((r : Int) < 0) = false := decide_eq_false (by omega)
            have d2 : decide ((costs.length : Int) ≤ (r : Int)) = false := decide_eq_false (by rw [HLN.out]; omega)
            have d3 : (r : Int) < (costs.length : Int) := by rw [HLN.out]; omega
            obtain ⟨y0, y1⟩ := HCC.out y (mem_of_get hy)
            have hq0 := HSM.out (q1.take k)
            have hq9 : (q1.take k).length ≤ 10 := by rw [List.length_take]; omega
            have HX := Lib.hid (show ((sumC costs (q1.take (k + 1)) : Nat) : Int) = ((sumC costs (q1.take k) : Nat) : Int) + y from by
              rw [sumC_take hx, show ((r : Int)).toNat = r from rfl, getD_of_get hy]; omega)
            clear hx hy
            generalize sumC costs (q1.take k) = Q at *
            go_wp2_with fail
            go_roundw
            case rel => exact ⟨k + 1, by omega, by go_num, by rw [HX.out], trivial⟩
            case measure => simp [intOf]; omega
          · obtain rfl : k = q1.length := by omega
            rw [List.take_length]
            go_wp2_with fail
            go_loopw [13, 14] (fun s13 s14 wr => ∃ k : Nat, k ≤ t.length ∧ s14 = .int .i64 k ∧ wr.ownsRow W1.heap.size 3 1 s13 (onesL k).length ((onesL k).map (Value.int .i64)) ∧ Below W1.heap.size W1 wr) (fun _ s14 _ => t.length - (intOf s14).toNat)
            case atStart => exact ⟨0, Nat.zero_le _, rfl, World.ownsRow_nil _ _ _ _, Below.refl _ _⟩
            case round =>
              obtain ⟨k, hk, rfl, hown, hBx⟩ := hrel
              have HLO := Lib.hid (ones_len k)
              have hl9 : (onesL k).length ≤ 8 := by rw [HLO.out]; omega
              by_cases hlt : k < t.length
              · obtain ⟨av, cv, rfl⟩ := own_slice hown
                have HBX := Lib.hid hBx
                have HN := Lib.hid (ones_snoc k)
                go_wp2_with (at_builtin; refine wpList_append_own _ rfl (.tmp 94) (.tmp 95) 23 rfl W1.heap.size 3 i0 (.int .i64 0) 1 8 Try.underlying23 hi hz0 hz1 hz2 rfl (by decide) _ _ _ rfl (hown.alloc _) ⟨wr.heap.size, 0, none⟩ 1 1 [.int .i64 1] rfl rfl ?c1 ?c2 ?c3 ?c4 ?c5 ?_)
                try (case c1 => exact cell_one_new _ _ _)
                case c2 => simp [Value.oneCell']
                case c3 => unfold maxLen; omega
                case c4 => omega
                case c5 => have := HBX.out.size; simp; omega
                intro v' w9 hown' hgrow _
                have HP := Lib.hid (own_push8 hown HBX.out hown' hgrow HN.out)
                clear hown hown' hgrow hBx
                go_wp2_with fail
                go_roundw
                case rel => exact ⟨k + 1, by omega, by go_num, HP.out.1, HP.out.2⟩
                case measure => simp [intOf]; omega
              · obtain rfl : k = t.length := by omega
                rw [HLO.out] at hown
                obtain ⟨av, cv, rfl⟩ := own_slice hown
                have IO := Lib.hid (ints_of_own (zs := onesL t.length) hown).1
                have I1 := Lib.hid (I1.out.below hBx (Nat.le_refl _))
                have HB := Lib.hid (HB.out.trans (hBx.mono HB.out.size))
                clear hown hBx hl9
                go_wp2_with fail
                refine (C3.out _ _ _ (HT.out.below HB.out (Nat.le_refl _)) IO.out).mono ?_
                rintro e w14 ⟨a3, c3, rfl, ho, hB⟩
                have I1 := Lib.hid (I1.out.below hB (Nat.le_refl _))
                have IO := Lib.hid (IO.out.below hB (Nat.le_refl _))
                have HB := Lib.hid (HB.out.trans (hB.mono HB.out.size))
                have I3 := Lib.hid ((ints_of_own ho).1)
                clear hB ho
                go_wp2_with fail
                refine (C4.out _ (HT.out.below HB.out (Nat.le_refl _))).mono ?_
                rintro e w15 ⟨a4, c4, rfl, ho, hB⟩
                have I1 := Lib.hid (I1.out.below hB (Nat.le_refl _))
                have IO := Lib.hid (IO.out.below hB (Nat.le_refl _))
                have I3 := Lib.hid (I3.out.below hB (Nat.le_refl _))
                have HB := Lib.hid (HB.out.trans (hB.mono HB.out.size))
                have I4 := Lib.hid ((ints_of_own ho).1)
                clear hB ho
                go_wp2_with fail
                refine (C5.out _ _ _ (HT.out.below HB.out (Nat.le_refl _)) I1.out).mono ?_
                rintro e w16 ⟨rfl, hB⟩
                have I1 := Lib.hid (I1.out.below hB (Nat.le_refl _))
                have IO := Lib.hid (IO.out.below hB (Nat.le_refl _))
                have I3 := Lib.hid (I3.out.below hB (Nat.le_refl _))
                have I4 := Lib.hid (I4.out.below hB (Nat.le_refl _))
                have HB := Lib.hid (HB.out.trans (hB.mono HB.out.size))
                clear hB
                go_wp2_with fail
                refine (S2.out _ _ _ _ _ I3.out I4.out).mono ?_
                rintro e w17 ⟨rfl, hB⟩
                have I1 := Lib.hid (I1.out.below hB (Nat.le_refl _))
                have IO := Lib.hid (IO.out.below hB (Nat.le_refl _))
                have I3 := Lib.hid (I3.out.below hB (Nat.le_refl _))
                have I4 := Lib.hid (I4.out.below hB (Nat.le_refl _))
                have HB := Lib.hid (HB.out.trans (hB.mono HB.out.size))
                clear hB
                go_wp2_with fail
                refine (HK.out _ ).mono ?_
                rintro e w18 ⟨rfl, hB⟩
                have I1 := Lib.hid (I1.out.below hB (Nat.le_refl _))
                have IO := Lib.hid (IO.out.below hB (Nat.le_refl _))
                have I3 := Lib.hid (I3.out.below hB (Nat.le_refl _))
                have I4 := Lib.hid (I4.out.below hB (Nat.le_refl _))
                have HB := Lib.hid (HB.out.trans (hB.mono HB.out.size))
                clear hB
                go_wp2_with fail
                go_ret
                exact ⟨rfl, HB.out⟩
      · have hz1 : (csu t costs != 0) = true := by simpa using hz
        have hz2 : (csu t costs != csu t costs) = false := by simp
        generalize csu t costs = c at *
        generalize cheA t costs = q1 at *
        generalize cheK t costs = k1 at *
        clear hz hm hq1
        go_enter Try.func6, Try.ntmps6
        go_wp2_with fail
        refine (HL.out _ HT.out).mono ?_
        rintro e w0 ⟨rfl, rfl⟩
        go_wp2_with fail
        refine (C1.out _ HT.out HR.out).mono ?_
        rintro e w1 ⟨a1, c1, rfl, ho, hB⟩
        have HB := Lib.hid hB
        have I1 := Lib.hid ((ints_of_own ho).1)
        clear hB ho
        go_wp2_with fail
        refine (C2.out _ (HT.out.below HB.out (Nat.le_refl _)) (HR.out.below HB.out (Nat.le_refl _))).mono ?_
        rintro e w2 ⟨a2, c2, rfl, ho, hB⟩
        have I1 := Lib.hid (I1.out.below hB (Nat.le_refl _))
        have HB := Lib.hid (HB.out.trans (hB.mono HB.out.size))
        have I2 := Lib.hid ((ints_of_own ho).1)
        clear hB ho
        go_wp2_with fail
        refine (S1.out _ _ _ _ _ I1.out I2.out).mono ?_
        rintro e w3 ⟨rfl, hB⟩
        have I1 := Lib.hid (I1.out.below hB (Nat.le_refl _))
        have I2 := Lib.hid (I2.out.below hB (Nat.le_refl _))
        have HB := Lib.hid (HB.out.trans (hB.mono HB.out.size))
        clear hB
        go_wp2_with fail
        refine (HK.out _ ).mono ?_
        rintro e w4 ⟨rfl, hB⟩
        have I1 := Lib.hid (I1.out.below hB (Nat.le_refl _))
        have I2 := Lib.hid (I2.out.below hB (Nat.le_refl _))
        have HB := Lib.hid (HB.out.trans (hB.mono HB.out.size))
        clear hB
        go_wp2_with fail
        go_ret
        exact ⟨rfl, HB.out⟩
  · rw [hl] at HL
    clear ht hc hml hl hr hcr
    go_enter Try.func6, Try.ntmps6
    go_wp2_with fail
    refine (HL.out _ HT.out).mono ?_
    rintro e w0 ⟨rfl, rfl⟩
    go_wp2_with fail
    refine (HK.out _ ).mono ?_
    rintro e w1 ⟨rfl, hB⟩
    have HB := Lib.hid hB
    clear hB
    go_wp2_with fail
    go_ret
    exact ⟨rfl, HB.out⟩

end Go.Proofs.Ytmigkbimdjiigaa
