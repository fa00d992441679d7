/- Suites of the document: Needless: contract. -/
import Derived.Test.YtmigkbimdjiigaaSvD
set_option linter.unusedVariables false
set_option linter.unusedSimpArgs false
namespace Go.Proofs.Ytmigkbimdjiigaa
open Go.RowKit Tinker

theorem below_nq {B : Nat} {A W : World} (h : Below B A W) (n : Nat) : Below B A (W.drewN n) := h.trans ⟨rfl, rfl, rfl, Nat.le_refl _, fun _ _ => rfl⟩
set_option maxRecDepth 100000 in
set_option maxHeartbeats 8000000 in
theorem rNeedless_any (a : Option Addr) (ca : Nat) (t : List (List Int)) (w : World) (ht : RowsAt w a t) (hl : t.length ≤ 1000) (hm : ∀ z ∈ t, z.length ≤ 1000) :
    Calls Try.prog 38 #[.slice a t.length ca] w (GivesIntsE (if vsu t = 0 then nedL (tblM t) else []) (vsu t) w) := by
  have HV := Lib.hid (rValidate8_any a ca t w ht hl hm)
  by_cases hv : vsu t = 0
  · rw [if_pos hv]
    rw [hv] at HV ⊢
    obtain ⟨i0, hi, hz0, hz1, hz2⟩ := info_parts info_int
    have hl8 := (vsu_ok hv).1
    have hg10 := (vsu_ok hv).2.1
    have HG := Lib.hid (fun w ht => rGoals8_any a ca t w ht)
    have HT := Lib.hid ht
    have HRA := Lib.hid (fun (r : Nat) (z : List Int) (h : t[r]? = some z) => row_at hv h)
    have HST := Lib.hid (fun (r i : Nat) (x y : List Int) hx hy => std_eq hv (r := r) (i := i) (x := x) (y := y) hx hy)
    have HQ := Lib.hid (show nedL (tblM t) = fltL (nedB (tblM t)) t.length by unfold nedL; rw [fltL_plc, tblM_len])
    have HNB := Lib.hid (fun r => show nedB (tblM t) r = (List.range t.length).any (stdB (tblM t) r) by unfold nedB; rw [tblM_len])
    rw [HQ.out]
    clear ht hm hv HQ
    generalize tblM t = s at *
    generalize goalsN t = G at *
    go_enter Try.func38, Try.ntmps38
    go_wp2_with fail
    refine HV.out.mono ?_
    rintro e w1 ⟨rfl, hB1⟩
    go_wp2_with fail
    go_loopw [5, 6] (fun s5 s6 wr => ∃ k : Nat, k ≤ t.length ∧ s6 = .int .i64 k ∧ wr.ownsRow w.heap.size 3 1 s5 (fltL (nedB s) k).length ((fltL (nedB s) k).map (Value.int .i64)) ∧ Below w.heap.size w wr) (fun _ s6 _ => t.length - (intOf s6).toNat)
    case atStart => exact ⟨0, Nat.zero_le _, rfl, World.ownsRow_nil _ _ _ _, hB1⟩
    case round =>
      clear HV hB1
      obtain ⟨k, hk, rfl, hown, hB⟩ := hrel
      by_cases hlt : k < t.length
      · obtain ⟨av, cv, rfl⟩ := own_slice hown
        have hfl := fltL_len (nedB s) k
        have HOW := Lib.hid hown
        have HB := Lib.hid hB
        clear hown hB
        obtain ⟨x, hx⟩ := get_of_lt hlt
        have HX := Lib.hid hx
        clear hx
        obtain ⟨W0, hW0⟩ : ∃ W, W = wr := ⟨_, rfl⟩
        subst hW0
        generalize hFK : fltL (nedB s) k = FK at HOW hfl
        have HFK := Lib.hid hFK
        clear hFK
        go_wp2_with fail
        go_loopw [5, 7] (fun s5 s7 wx => ∃ j : Nat, j ≤ t.length ∧ s7 = .int .i64 j ∧ (List.range j).any (stdB s k) = false ∧ s5 = .slice av FK.length cv ∧ wx.ownsRow w.heap.size 3 1 (.slice av FK.length cv) FK.length (FK.map (Value.int .i64)) ∧ Below w.heap.size w wx) (fun _ s7 _ => t.length - (intOf s7).toNat)
        case atStart => exact ⟨0, Nat.zero_le _, rfl, by simp, rfl, HOW.out, HB.out⟩
        case round =>
          clear HOW HB
          obtain ⟨j, hj, rfl, hany, rfl, hownj, hBj⟩ := hrel
          have HAN := Lib.hid hany
          have HOJ := Lib.hid hownj
          have HBJ := Lib.hid hBj
          clear hany hownj hBj
          by_cases hjl : j < t.length
          · by_cases hjk : j = k
            · subst hjk
              have hd : ((j : Int) == (j : Int)) = true := by simp
              have HN := Lib.hid (any_snoc HAN.out (show stdB s j j = false by unfold stdB; simp))
              go_wp2_with fail
              go_roundw
              case rel => exact ⟨j + 1, by omega, by go_num, HN.out, rfl, HOJ.out, HBJ.out⟩
              case measure => simp [intOf]; omega
            · have hd : ((j : Int) == (k : Int)) = false := by rw [beq_eq_false_iff_ne]; omega
              obtain ⟨y, hy⟩ := get_of_lt hjl
              have HY := Lib.hid hy
              have hxl := HRA.out k x HX.out
              have hyl := HRA.out j y hy
              clear hy
              obtain ⟨W2, hW2⟩ : ∃ W, W = wr := ⟨_, rfl⟩
              subst hW2
              have HSTJ := Lib.hid (HST.out k j x y HX.out HY.out)
              have HXL := Lib.hid hxl
              have HYL := Lib.hid hyl
              clear hxl hyl
              go_wp2_with fail
              go_loopw [8, 9, 10] (fun s8 s9 s10 wz => ∃ g : Nat, g ≤ G ∧ s10 = .int .i64 g ∧ s8 = .int .i64 (cntTo (gtB y x) g) ∧ s9 = .int .i64 (cntTo (gtB x y) g) ∧ Below W2.heap.size W2 wz) (fun _ _ s10 _ => G - (intOf s10).toNat)
              case atStart => exact ⟨0, Nat.zero_le _, rfl, rfl, rfl, Below.refl _ _⟩
              case round =>
                obtain ⟨g, hg, rfl, rfl, rfl, hBz⟩ := hrel
                have hm1 := cntTo_le (gtB y x) g
                have hm2 := cntTo_le (gtB x y) g
                have HBZ := Lib.hid hBz
                have HBW := Lib.hid (HBJ.out.trans (hBz.mono HBJ.out.size))
                have HGG := Lib.hid (HG.out wr (HT.out.below HBW.out (Nat.le_refl _)))
                clear hBz
                by_cases hgl : g < G
                · obtain ⟨b3, off3, z3, a3, c3, rfl, hlb3, hz3, d3, hi3⟩ := (HT.out.below HBW.out (Nat.le_refl _)).at_ hjl
                  obtain ⟨b4, off4, z4, a4, c4, e4, hlb4, hz4, d4, hi4⟩ := (HT.out.below HBW.out (Nat.le_refl _)).at_ hlt
                  injection e4 with e4
                  injection e4 with e4 e5
                  subst e4 e5
                  rw [HY.out] at hz3
                  rw [HX.out] at hz4
                  injection hz3 with hz3
                  injection hz4 with hz4
                  subst hz3 hz4
                  obtain ⟨b5, off5, p, rfl, hlb5, hp, d5⟩ := hi3.at_ (show g < y.length by rw [HYL.out]; exact hgl)
                  obtain ⟨b6, off6, q, rfl, hlb6, hq, d6⟩ := hi4.at_ (show g < x.length by rw [HXL.out]; exact hgl)
                  have HGY := Lib.hid (show gtB y x g = decide (q < p) by unfold gtB; rw [getD_of_get hp, getD_of_get hq])
                  have HGX := Lib.hid (show gtB x y g = decide (p < q) by unfold gtB; rw [getD_of_get hp, getD_of_get hq])
                  have HLY : Hid (((y.length : Nat) : Int) = (G : Int)) := Lib.hid (by rw [HYL.out])
                  have gy : (g : Int) < (y.length : Int) := by have := HYL.out; omega
                  have gx : (g : Int) < (x.length : Int) := by have := HXL.out; omega
                  clear hi3 hi4 hp hq
                  by_cases c1 : q < p
                  · have k1 : decide (q < p) = true := decide_eq_true c1
                    have k2 : decide (p < q) = false := decide_eq_false (by omega)
                    have HN1 := Lib.hid (cntTo_yes (HGY.out.trans k1))
                    have HN2 := Lib.hid (cntTo_no (HGX.out.trans k2))
                    clear c1
                    go_wp2_with fail
                    refine HGG.out.mono ?_
                    rintro e w0 ⟨rfl, rfl⟩
                    go_wp2_with fail
                    go_quiet (fail)
                    go_wp2_with fail
                    go_quiet (fail)
                    go_wp2_with fail
                    go_roundw
                    case rel => exact ⟨g + 1, by omega, by go_num, by rw [HN1.out]; exact congrArg (Value.int .i64) (by omega), by rw [HN2.out], below_nq (by first | exact below_nq HBZ.out _ | exact HBZ.out) _⟩
                    case measure => simp [intOf]; omega
                  · have k1 : decide (q < p) = false := decide_eq_false c1
                    by_cases c2 : p < q
                    · have k2 : decide (p < q) = true := decide_eq_true c2
                      have HN1 := Lib.hid (cntTo_no (HGY.out.trans k1))
                      have HN2 := Lib.hid (cntTo_yes (HGX.out.trans k2))
                      clear c1 c2
                      go_wp2_with fail
                      refine HGG.out.mono ?_
                      rintro e w0 ⟨rfl, rfl⟩
                      go_wp2_with fail
                      go_quiet (fail)
                      go_wp2_with fail
                      go_quiet (fail)
                      go_wp2_with fail
                      go_roundw
                      case rel => exact ⟨g + 1, by omega, by go_num, by rw [HN1.out], by rw [HN2.out]; exact congrArg (Value.int .i64) (by omega), below_nq (by first | exact below_nq HBZ.out _ | exact HBZ.out) _⟩
                      case measure => simp [intOf]; omega
                    · have k2 : decide (p < q) = false := decide_eq_false c2
                      have HN1 := Lib.hid (cntTo_no (HGY.out.trans k1))
                      have HN2 := Lib.hid (cntTo_no (HGX.out.trans k2))
                      clear c1 c2
                      go_wp2_with fail
                      refine HGG.out.mono ?_
                      rintro e w0 ⟨rfl, rfl⟩
                      go_wp2_with fail
                      go_quiet (fail)
                      go_wp2_with fail
                      go_quiet (fail)
                      go_wp2_with fail
                      go_roundw
                      case rel => exact ⟨g + 1, by omega, by go_num, by rw [HN1.out], by rw [HN2.out], below_nq (by first | exact below_nq HBZ.out _ | exact HBZ.out) _⟩
                      case measure => simp [intOf]; omega
                · obtain rfl : g = G := by omega
                  have HOZ := Lib.hid (own_below HOJ.out HBZ.out (Nat.le_refl _))
                  clear HOJ HBJ HBZ
                  generalize cntTo (gtB y x) g = M1 at *
                  generalize cntTo (gtB x y) g = M2 at *
                  cases hs1 : (M2 == 0)
                  · have h1 : ((M2 : Int) == 0) = false := by rw [beq_eq_false_iff_ne] at hs1 ⊢; omega
                    have HN := Lib.hid (any_snoc HAN.out (show stdB s k j = false by rw [HSTJ.out, hs1]; rfl))
                    clear hs1
                    go_wp2_with fail
                    refine HGG.out.mono ?_
                    rintro e w0 ⟨rfl, rfl⟩
                    go_wp2_with fail
                    go_roundw
                    case rel => exact ⟨j + 1, by omega, by go_num, HN.out, rfl, HOZ.out, HBW.out⟩
                    case measure => simp [intOf]; omega
                  · have h1 : ((M2 : Int) == 0) = true := by rw [beq_iff_eq] at hs1 ⊢; omega
                    cases hs2 : (decide (0 < M1) || decide (j < k))
                    · rw [Bool.or_eq_false_iff] at hs2
                      obtain ⟨s2, s3⟩ := hs2
                      have h2 : decide ((0 : Int) < (M1 : Int)) = false := by rw [decide_eq_false_iff_not] at s2 ⊢; omega
                      have h3 : decide ((j : Int) < (k : Int)) = false := by rw [decide_eq_false_iff_not] at s3 ⊢; omega
                      have HN := Lib.hid (any_snoc HAN.out (show stdB s k j = false by rw [HSTJ.out, s2, s3]; simp))
                      clear hs1
                      go_wp2_with fail
                      refine HGG.out.mono ?_
                      rintro e w0 ⟨rfl, rfl⟩
                      go_wp2_with fail
                      go_roundw
                      case rel => exact ⟨j + 1, by omega, by go_num, HN.out, rfl, HOZ.out, HBW.out⟩
                      case measure => simp [intOf]; omega
                    · have HH := Lib.hid (any_hit (p := stdB s k) (n := t.length) hjl (by rw [HSTJ.out, hs1, hs2]; rfl))
                      have HNN := Lib.hid (fltL_yes (p := nedB s) (k := k) (by rw [HNB.out]; exact HH.out))
                      rw [HFK.out] at HNN
                      have hownz := HOZ.out
                      cases s2 : decide (0 < M1)
                      · have s3 : decide (j < k) = true := by rw [s2] at hs2; simpa using hs2
                        have h2 : decide ((0 : Int) < (M1 : Int)) = false := by rw [decide_eq_false_iff_not] at s2 ⊢; omega
                        have h3 : decide ((j : Int) < (k : Int)) = true := by rw [decide_eq_true_eq] at s3 ⊢; omega
                        clear hs1 hs2
                        go_wp2_with fail
                        refine HGG.out.mono ?_
                        rintro e w0 ⟨rfl, rfl⟩
                        go_wp2_with (at_builtin; refine wpList_append_own _ rfl (.tmp 82) (.tmp 84) 23 rfl w.heap.size 3 i0 (.int .i64 0) 1 8 Try.underlying23 hi hz0 hz1 hz2 rfl (by decide) _ _ _ rfl (hownz.alloc _) ⟨wr.heap.size, 0, none⟩ 1 1 [.int .i64 k] rfl rfl ?c1 ?c2 ?c3 ?c4 ?c5 ?_)
                        try (case c1 => exact cell_one_new _ _ _)
                        case c2 => simp [Value.oneCell']
                        case c3 => unfold maxLen; omega
                        case c4 => omega
                        case c5 => have := HBW.out.size; simp; omega
                        intro v' w5 hown' hgrow _
                        have HP := Lib.hid (own_push8 hownz HBW.out hown' hgrow HNN.out)
                        clear hownz hown' hgrow
                        go_wp2_with fail
                        go_roundw
                        case rel => exact ⟨k + 1, by omega, by go_num, HP.out.1, HP.out.2⟩
                        case measure => simp [intOf]; omega
                      · have h2 : decide ((0 : Int) < (M1 : Int)) = true := by rw [decide_eq_true_eq] at s2 ⊢; omega
                        clear hs1 hs2
                        go_wp2_with fail
                        refine HGG.out.mono ?_
                        rintro e w0 ⟨rfl, rfl⟩
                        go_wp2_with (at_builtin; refine wpList_append_own _ rfl (.tmp 82) (.tmp 84) 23 rfl w.heap.size 3 i0 (.int .i64 0) 1 8 Try.underlying23 hi hz0 hz1 hz2 rfl (by decide) _ _ _ rfl (hownz.alloc _) ⟨wr.heap.size, 0, none⟩ 1 1 [.int .i64 k] rfl rfl ?d1 ?d2 ?d3 ?d4 ?d5 ?_)
                        try (case d1 => exact cell_one_new _ _ _)
                        case d2 => simp [Value.oneCell']
                        case d3 => unfold maxLen; omega
                        case d4 => omega
                        case d5 => have := HBW.out.size; simp; omega
                        intro v' w5 hown' hgrow _
                        have HP := Lib.hid (own_push8 hownz HBW.out hown' hgrow HNN.out)
                        clear hownz hown' hgrow
                        go_wp2_with fail
                        go_roundw
                        case rel => exact ⟨k + 1, by omega, by go_num, HP.out.1, HP.out.2⟩
                        case measure => simp [intOf]; omega
          · obtain rfl : j = t.length := by omega
            have HN := Lib.hid (fltL_no (p := nedB s) (k := k) (by rw [HNB.out]; exact HAN.out))
            rw [HFK.out] at HN
            go_wp2_with fail
            go_roundw
            case rel => exact ⟨k + 1, by omega, by go_num, by rw [HN.out]; exact HOJ.out, HBJ.out⟩
            case measure => simp [intOf]; omega
      · obtain rfl : k = t.length := by omega
        obtain ⟨av, cv, rfl⟩ := own_slice hown
        have HOW := Lib.hid hown
        clear hown
        go_wp2_with fail
        go_ret2
        exact ⟨av, cv, rfl, HOW.out, hB⟩
  · rw [if_neg hv]
    have hne : (vsu t != 0) = true := by simpa using hv
    clear hv ht hm
    go_enter Try.func38, Try.ntmps38
    go_wp2_with fail
    refine HV.out.mono ?_
    rintro e w' ⟨rfl, hB⟩
    go_wp2_with fail
    go_ret2
    exact ⟨none, 0, rfl, World.ownsRow_nil _ _ _ _, hB⟩

end Go.Proofs.Ytmigkbimdjiigaa
