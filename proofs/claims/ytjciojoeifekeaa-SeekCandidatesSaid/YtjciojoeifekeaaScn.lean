/- SeekCandidates: Candidates of the document; the walk. -/
import Derived.Test.YtjciojoeifekeaaRcd
import Derived.Test.YtjciojoeifekeaaCnF
import Derived.Test.YtjciojoeifekeaaSnr
import Derived.Test.YtjciojoeifekeaaLng
import Derived.Test.YtjciojoeifekeaaSkC
import Derived.BigQuiet
set_option linter.unusedVariables false
set_option linter.unusedSimpArgs false
namespace Go.Proofs.Ytjciojoeifekeaa
open Go.RowKit Go.Shelf Tinker

theorem cdC_1 {ps : List L} {i n : Int} (h : vp ps ≠ 0) : cdC ps i n = vp ps := by
  unfold cdC
  rw [feL]
  exact if_neg h
theorem cdC_2 {ps : List L} {i n : Int} (h : vp ps = 0) (hi : i < 0 ∨ (ps.length : Int) ≤ i) : cdC ps i n = 4 := by
  have h1 : plC ps i = 4 := by
    unfold plC
    rw [if_neg]
    intro hb
    have := btw_true.1 hb
    omega
  unfold cdC
  rw [feL, if_pos h, h1, feL]
  rfl
theorem cdC_3 {ps : List L} {i n : Int} (h : vp ps = 0) (h0 : 0 ≤ i) (h2 : i < (ps.length : Int)) : cdC ps i n = kdC n := by
  have h1 : plC ps i = 0 := by
    unfold plC
    rw [if_pos (btw_true.2 ⟨h0, by omega⟩)]
  unfold cdC
  rw [feL, if_pos h, h1, feL, if_pos rfl]
  simp only [feL]
  by_cases hk : kdC n = 0
  · rw [if_pos hk, hk]
  · rw [if_neg hk]
theorem cdR_no {ps : List L} {i n : Int} (h : cdC ps i n ≠ 0) : cdR ps i n = [] := by unfold cdR; rw [if_neg h]
theorem rcandA_any (a : Option Addr) (ca : Nat) (ps : List L) (i : Nat) (n : Int) (w : World) (hp : LinesAt w a ps) (hv : vp ps = 0) (hi : i < ps.length) (h0 : 0 ≤ n) (h2 : n ≤ 2) :
    Calls Try.prog 17 #[.slice a ps.length ca, .int .i64 (i : Int), .int .i64 n] w (GivesLines (cndL ps i n) w) := by
  have hn : n = 0 ∨ n = 1 ∨ n = 2 := by omega
  rcases hn with rfl | rfl | rfl
  · exact rcand0_any a ca ps i w hp hv hi
  · exact rcand1_any a ca ps i w hp hv hi
  · exact rcand2_any a ca ps i w hp hv hi
set_option maxRecDepth 100000 in
set_option maxHeartbeats 2000000 in
theorem rCandidates_any (a : Option Addr) (ca : Nat) (ps : List L) (i n : Int) (w : World) (hp : LinesAt w a ps) :
    Calls Try.prog 7 #[.slice a ps.length ca, .int .i64 i, .int .i64 n] w (GivesLinesE (cdR ps i n) (cdC ps i n) w) := by
  have H1 := Lib.hid (fun w h => rValidate_any a ca ps w h)
  have HP := Lib.hid hp
  clear hp
  by_cases hz : vp ps = 0
  · by_cases hn : i < 0
    · have d1 : decide (i < 0) = true := by simpa using hn
      have hE := cdC_2 (n := n) hz (.inl hn)
      rw [cdR_no (by rw [hE]; decide), hE]
      rw [hz] at H1
      clear hz hE
      go_enter Try.func7, Try.ntmps7
      go_wp2_with fail
      refine (H1.out _ HP.out).mono ?_
      rintro e w1 ⟨rfl, hB⟩
      have HB1 := Lib.hid hB
      clear hB
      go_wp2_with fail
      go_ret2
      exact givesLinesE_nil HB1.out
    · have d1 : decide (i < 0) = false := by simpa using hn
      by_cases hn2 : (ps.length : Int) ≤ i
      · have d2 : decide ((ps.length : Int) ≤ i) = true := by simpa using hn2
        have hE := cdC_2 (n := n) hz (.inr hn2)
        rw [cdR_no (by rw [hE]; decide), hE]
        rw [hz] at H1
        clear hz hE
        go_enter Try.func7, Try.ntmps7
        go_wp2_with fail
        refine (H1.out _ HP.out).mono ?_
        rintro e w1 ⟨rfl, hB⟩
        have HB1 := Lib.hid hB
        clear hB
        go_wp2_with fail
        go_ret2
        exact givesLinesE_nil HB1.out
      · have d2 : decide ((ps.length : Int) ≤ i) = false := by simpa using hn2
        have hE := cdC_3 (i := i) (n := n) hz (by omega) (by omega)
        by_cases k1 : n < 0
        · have d3 : decide (n < 0) = true := by simpa using k1
          have hk : kdC n = 1 := by unfold kdC; rw [if_neg (by omega)]
          rw [cdR_no (by rw [hE, hk]; decide), hE, hk]
          rw [hz] at H1
          clear hz hE hk
          go_enter Try.func7, Try.ntmps7
          go_wp2_with fail
          refine (H1.out _ HP.out).mono ?_
          rintro e w1 ⟨rfl, hB⟩
          have HB1 := Lib.hid hB
          clear hB
          go_wp2_with fail
          go_ret2
          exact givesLinesE_nil HB1.out
        · have d3 : decide (n < 0) = false := by simpa using k1
          by_cases k2 : 2 < n
          · have d4 : decide (2 < n) = true := by simpa using k2
            have hk : kdC n = 1 := by unfold kdC; rw [if_neg (by omega)]
            rw [cdR_no (by rw [hE, hk]; decide), hE, hk]
            rw [hz] at H1
            clear hz hE hk
            go_enter Try.func7, Try.ntmps7
            go_wp2_with fail
            refine (H1.out _ HP.out).mono ?_
            rintro e w1 ⟨rfl, hB⟩
            have HB1 := Lib.hid hB
            clear hB
            go_wp2_with fail
            go_ret2
            exact givesLinesE_nil HB1.out
          · have d4 : decide (2 < n) = false := by simpa using k2
            have hk : kdC n = 0 := by unfold kdC; rw [if_pos (by omega)]
            have hti : ((i.toNat : Nat) : Int) = i := by omega
            have H7 := Lib.hid (fun w h1 => rcandA_any a ca ps i.toNat n w h1 hz (by omega) (by omega) (by omega))
            rw [hti] at H7
            rw [show cdR ps i n = cndL ps i.toNat n by unfold cdR; rw [hE, hk]; rfl, hE, hk]
            rw [hz] at H1
            generalize cndL ps i.toNat n = R at *
            clear hz hE hk hti
            go_enter Try.func7, Try.ntmps7
            go_wp2_with fail
            refine (H1.out _ HP.out).mono ?_
            rintro e w1 ⟨rfl, hB⟩
            have HB1 := Lib.hid hB
            clear hB
            go_wp2_with fail
            refine (H7.out _ (HP.out.below HB1.out (Nat.le_refl _))).mono ?_
            rintro e w3 ⟨aq, cq, rfl, hq, hB⟩
            have HO := Lib.hid (own_mono hq HB1.out.size)
            have HB3 := Lib.hid (HB1.out.trans (hB.mono HB1.out.size))
            clear hB hq
            go_wp2_with fail
            go_ret2
            exact ⟨_, _, rfl, HO.out, HB3.out⟩
  · have hE := cdC_1 (i := i) (n := n) hz
    rw [cdR_no (by rw [hE]; exact hz), hE]
    generalize vp ps = d at *
    have hz1 : (d != 0) = true := by simpa using hz
    clear hz hE
    go_enter Try.func7, Try.ntmps7
    go_wp2_with fail
    refine (H1.out _ HP.out).mono ?_
    rintro e w1 ⟨rfl, hB⟩
    have HB1 := Lib.hid hB
    clear hB
    go_wp2_with fail
    go_ret2
    exact givesLinesE_nil HB1.out

theorem cdR_len9 (ps : List L) (i n : Int) : (cdR ps i n).length ≤ 1000 := by
  unfold cdR
  split
  · exact cnd_len9 _ _ _
  · simp
theorem cdC_two {ps : List L} {i n : Int} (h : cdC ps i n = 0) : cdC ps i 2 = 0 := by
  obtain ⟨h1, h2, _⟩ := cdC_ok h
  rw [cdC_3 h1 h2.1 h2.2]
  rfl
theorem cdR_sub {ps : List L} {i n : Int} (h : cdC ps i n = 0) : (cdR ps i n).Sublist (cdR ps i 2) := by
  unfold cdR
  rw [if_pos h, if_pos (cdC_two h)]
  exact cnd_sub _ _ _

set_option maxRecDepth 100000 in
set_option maxHeartbeats 8000000 in
theorem seekCandidates_walk (a : Option Addr) (ca : Nat) (ps : List L) (i n : Int) (w : World) (hp : LinesAt w a ps) :
    Calls Try.prog 3 #[.slice a ps.length ca, .agg #[.int .i64 i, .int .i64 n]] w fun e w' => e = .returned (.bool true) ∧ Below w.heap.size w w' := by
  have HK := Lib.hid (fun w => same5_any w)
  have HL := Lib.hid (fun w => long5_any a none ps.length 0 ca 0 w)
  obtain ⟨W0, hW0⟩ : ∃ W, W = w.alloc (.cells #[.int .i64 i, .int .i64 n] 24) := ⟨_, rfl⟩
  have hb : Below w.heap.size w W0 := by rw [hW0]; exact (Below.refl _ _).alloc (Nat.le_refl _) _
  have hX : W0.heap[w.heap.size]? = some (.cells #[.int .i64 i, .int .i64 n] 24 (0, 0)) := by rw [hW0]; exact hp_new rfl
  have HP := Lib.hid (hp.below hb (Nat.le_refl _))
  have HB0 := Lib.hid hb
  have HX := Lib.hid hX
  clear hp hb hX
  by_cases g1 : 100 < ps.length
  · rw [show (decide (100 < ps.length) || decide (100 < 0)) = true by simpa using g1] at HL
    clear g1 HP HX
    go_enter Try.func3, Try.ntmps3
    go_wp2_with fail
    rw [← hW0]
    clear hW0
    refine (HL.out _).mono ?_
    rintro e we0 ⟨rfl, rfl⟩
    go_wp2_with fail
    refine (HK.out _).mono ?_
    rintro e w1 ⟨rfl, hB1⟩
    have HB1 := Lib.hid (HB0.out.trans (hB1.mono HB0.out.size))
    clear hB1
    go_wp2_with fail
    go_ret
    exact ⟨rfl, HB1.out⟩
  rw [show (decide (100 < ps.length) || decide (100 < 0)) = false by simp; omega] at HL
  have C1 := Lib.hid (fun w h => sCandidates_any a ca ps i n w h (by omega))
  have C2 := Lib.hid (fun w h => rCandidates_any a ca ps i n w h)
  have C3 := Lib.hid (fun w h => sCandidates_any a ca ps i 2 w h (by omega))
  have HS := Lib.hid (fun a b c d w h1 h2 => sameL4_self (cdR ps i n).length a b c d (cdR ps i n) w rfl h1 h2 (cdR_len9 _ _ _))
  have hl1 := cdR_len9 ps i n
  have hl2 := cdR_len9 ps i 2
  by_cases hz : cdC ps i n = 0
  · have HSU := Lib.hid (cdR_sub hz)
    rw [cdC_two hz] at C3
    rw [hz] at C1 C2
    generalize cdR ps i n = A at *
    generalize cdR ps i 2 = Z at *
    clear hz g1
    obtain ⟨x0, x1⟩ : W0.cell? ⟨w.heap.size, 0, none⟩ = some (.int .i64 i) ∧ W0.cell? ⟨w.heap.size, 1, none⟩ = some (.int .i64 n) := ⟨hp_cell HX.out (j := 0) (by rfl), hp_cell HX.out (j := 1) (by rfl)⟩
    go_enter Try.func3, Try.ntmps3
    rw [hW0] at x0 x1
    go_wp2_with fail
    rw [← hW0]
    rw [← hW0] at x0 x1
    clear hW0
    refine (HL.out _).mono ?_
    rintro e we0 ⟨rfl, rfl⟩
    go_wp2_with fail
    refine (C1.out _ HP.out).mono ?_
    rintro e w1 ⟨a1, k1, rfl, hq, hB⟩
    have HO1 := Lib.hid hq
    have HP := Lib.hid (HP.out.below hB (Nat.le_refl _))
    have HX := Lib.hid (hp_below HX.out hB (hp_lt HX.out))
    have HB := Lib.hid hB
    clear hq hB x0 x1
    obtain ⟨x0, x1⟩ : w1.cell? ⟨w.heap.size, 0, none⟩ = some (.int .i64 i) ∧ w1.cell? ⟨w.heap.size, 1, none⟩ = some (.int .i64 n) := ⟨hp_cell HX.out (j := 0) (by rfl), hp_cell HX.out (j := 1) (by rfl)⟩
    go_wp2_with fail
    refine (C2.out _ HP.out).mono ?_
    rintro e w2 ⟨a2, k2, rfl, hq, hB⟩
    have HO1 := Lib.hid (own_below HO1.out hB (Nat.le_refl _))
    have HO2 := Lib.hid (lines_of_own hq).1
    have HP := Lib.hid (HP.out.below hB (Nat.le_refl _))
    have HX := Lib.hid (hp_below HX.out hB (hp_lt HX.out))
    have HB := Lib.hid (HB.out.trans (hB.mono HB.out.size))
    clear hq hB x0 x1
    go_wp2_with fail
    refine (HS.out _ _ _ _ _ (lines_of_own HO1.out).1 HO2.out).mono ?_
    rintro e w3 ⟨rfl, hB⟩
    have HO1 := Lib.hid (own_below HO1.out hB (Nat.le_refl _))
    have HP := Lib.hid (HP.out.below hB (Nat.le_refl _))
    have HX := Lib.hid (hp_below HX.out hB (hp_lt HX.out))
    have HB := Lib.hid (HB.out.trans (hB.mono HB.out.size))
    clear hB HO2
    obtain ⟨x0, x1⟩ : w3.cell? ⟨w.heap.size, 0, none⟩ = some (.int .i64 i) ∧ w3.cell? ⟨w.heap.size, 1, none⟩ = some (.int .i64 n) := ⟨hp_cell HX.out (j := 0) (by rfl), hp_cell HX.out (j := 1) (by rfl)⟩
    go_wp2_with fail
    refine (C3.out _ HP.out).mono ?_
    rintro e w4 ⟨a4, k4, rfl, hq, hB⟩
    have HA := Lib.hid (lines_of_own (own_below HO1.out hB (Nat.le_refl _))).1
    have HZ := Lib.hid (lines_of_own hq).1
    have HB := Lib.hid (HB0.out.trans ((HB.out.trans (hB.mono HB.out.size)).mono HB0.out.size))
    clear hq hB x0 x1 HX HO1 HP
    go_wp2_with fail
    go_loopw [11, 12] (fun s11 s12 wr => ∃ k j : Nat, k ≤ A.length ∧ j ≤ Z.length ∧ s11 = .int .i64 (k : Int) ∧ s12 = .int .i64 (j : Int) ∧ (A.drop k).Sublist (Z.drop j) ∧ Below w4.heap.size w4 wr) (fun _ s12 _ => Z.length - (intOf s12).toNat)
    case atStart => exact ⟨0, 0, Nat.zero_le _, Nat.zero_le _, rfl, rfl, HSU.out, Below.refl _ _⟩
    case round =>
      obtain ⟨k, j, hk, hj, rfl, rfl, hs, hBr⟩ := hrel
      have HSU := Lib.hid hs
      have HBR := Lib.hid hBr
      clear hs hBr
      by_cases hlj : j < Z.length
      · have dj : decide ((j : Int) < (Z.length : Int)) = true := decide_eq_true (by omega)
        by_cases hlk : k < A.length
        · have dk : decide ((k : Int) < (A.length : Int)) = true := decide_eq_true (by omega)
          obtain ⟨zb, zo, y, rfl, hzb, hy, d0, d1, d2, d3⟩ := (HZ.out.below HBR.out (Nat.le_refl _)).at_ hlj
          obtain ⟨ab, ao, x, rfl, hab, hx, c0, c1, c2, c3⟩ := (HA.out.below HBR.out (Nat.le_refl _)).at_ hlk
          have HH := Lib.hid (fun e => sub_hit hx hy HSU.out e)
          have HM := Lib.hid (fun e => sub_miss hx hy HSU.out e)
          have r1 := run_eqL y x
          clear hx hy
          cases hq : eqL y x
          · have HSN := Lib.hid (HM.out (fun e => by rw [e, eqL_self] at hq; cases hq))
            rw [hq] at r1
            clear hq HH HM
            go_wp2_with fail
            go_quiet (fail)
            go_wp2_with fail
            go_roundw
            case rel => exact ⟨k, j + 1, hk, by omega, rfl, by go_num, HSN.out, below_drewN7 HBR.out nq⟩
            case measure => simp [intOf]; omega
          · have HSN := Lib.hid (HH.out (eqL_iff.1 hq))
            rw [hq] at r1
            clear hq HH HM
            go_wp2_with fail
            go_quiet (fail)
            go_wp2_with fail
            go_roundw
            case rel => exact ⟨k + 1, j + 1, by omega, by omega, by go_num, by go_num, HSN.out, below_drewN7 HBR.out nq⟩
            case measure => simp [intOf]; omega
        · have dk : decide ((k : Int) < (A.length : Int)) = false := decide_eq_false (by omega)
          have ek : ((k : Int) == (A.length : Int)) = true := by simp; omega
          have HB2 := Lib.hid (HB.out.trans (HBR.out.mono HB.out.size))
          go_wp2_with fail
          refine (HK.out _).mono ?_
          rintro e w5 ⟨rfl, hB⟩
          have HB3 := Lib.hid (HB2.out.trans (hB.mono HB2.out.size))
          clear hB
          go_wp2_with fail
          go_ret
          exact ⟨rfl, HB3.out⟩
      · have dj : decide ((j : Int) < (Z.length : Int)) = false := decide_eq_false (by omega)
        have hke := sub_end HSU.out (by omega)
        have ek : ((k : Int) == (A.length : Int)) = true := by simp; omega
        have HB2 := Lib.hid (HB.out.trans (HBR.out.mono HB.out.size))
        clear hke
        go_wp2_with fail
        refine (HK.out _).mono ?_
        rintro e w5 ⟨rfl, hB⟩
        have HB3 := Lib.hid (HB2.out.trans (hB.mono HB2.out.size))
        clear hB
        go_wp2_with fail
        go_ret
        exact ⟨rfl, HB3.out⟩
  · generalize cdR ps i n = A at *
    generalize cdC ps i n = q at *
    have hq1 : (q != 0) = true := by simpa using hz
    have hq2 : (q != q) = false := by simp
    clear hz g1 C3
    obtain ⟨x0, x1⟩ : W0.cell? ⟨w.heap.size, 0, none⟩ = some (.int .i64 i) ∧ W0.cell? ⟨w.heap.size, 1, none⟩ = some (.int .i64 n) := ⟨hp_cell HX.out (j := 0) (by rfl), hp_cell HX.out (j := 1) (by rfl)⟩
    go_enter Try.func3, Try.ntmps3
    rw [hW0] at x0 x1
    go_wp2_with fail
    rw [← hW0]
    rw [← hW0] at x0 x1
    clear hW0
    refine (HL.out _).mono ?_
    rintro e we0 ⟨rfl, rfl⟩
    go_wp2_with fail
    refine (C1.out _ HP.out).mono ?_
    rintro e w1 ⟨a1, k1, rfl, hq, hB⟩
    have HO1 := Lib.hid hq
    have HP := Lib.hid (HP.out.below hB (Nat.le_refl _))
    have HX := Lib.hid (hp_below HX.out hB (hp_lt HX.out))
    have HB := Lib.hid hB
    clear hq hB x0 x1
    obtain ⟨x0, x1⟩ : w1.cell? ⟨w.heap.size, 0, none⟩ = some (.int .i64 i) ∧ w1.cell? ⟨w.heap.size, 1, none⟩ = some (.int .i64 n) := ⟨hp_cell HX.out (j := 0) (by rfl), hp_cell HX.out (j := 1) (by rfl)⟩
    go_wp2_with fail
    refine (C2.out _ HP.out).mono ?_
    rintro e w2 ⟨a2, k2, rfl, hq, hB⟩
    have HO1 := Lib.hid (own_below HO1.out hB (Nat.le_refl _))
    have HO2 := Lib.hid (lines_of_own hq).1
    have HB := Lib.hid (HB.out.trans (hB.mono HB.out.size))
    clear hq hB x0 x1 HP HX
    go_wp2_with fail
    refine (HS.out _ _ _ _ _ (lines_of_own HO1.out).1 HO2.out).mono ?_
    rintro e w3 ⟨rfl, hB⟩
    have HB := Lib.hid (HB.out.trans (hB.mono HB.out.size))
    clear hB HO2 HO1
    go_wp2_with fail
    refine (HK.out _).mono ?_
    rintro e w4 ⟨rfl, hB⟩
    have HB := Lib.hid (HB0.out.trans ((HB.out.trans (hB.mono HB.out.size)).mono HB0.out.size))
    clear hB
    go_wp2_with fail
    go_ret
    exact ⟨rfl, HB.out⟩

end Go.Proofs.Ytjciojoeifekeaa
