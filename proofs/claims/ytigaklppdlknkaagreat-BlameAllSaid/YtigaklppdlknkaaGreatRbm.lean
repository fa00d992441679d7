/- Blamed of the document's side: contract. -/
import Derived.Test.YtigaklppdlknkaaGreatRit
import Derived.Test.YtigaklppdlknkaaGreatRbk
set_option linter.unusedVariables false
set_option linter.unusedSimpArgs false
namespace Go.Proofs.YtigaklppdlknkaaGreat
open Go.RowKit Tinker

def bfTo (P : Nat → Bool) (k : Nat) : List Nat := (List.range k).filter P
theorem bfTo_yes {P : Nat → Bool} {k : Nat} (h : P k = true) : bfTo P (k + 1) = bfTo P k ++ [k] := by unfold bfTo; rw [List.range_succ, List.filter_append]; simp [h]
theorem bfTo_no {P : Nat → Bool} {k : Nat} (h : P k = false) : bfTo P (k + 1) = bfTo P k := by unfold bfTo; rw [List.range_succ, List.filter_append, List.filter_cons_of_neg (by simp [h])]; simp
theorem bfTo_len (P : Nat → Bool) (k : Nat) : (bfTo P k).length ≤ k := by unfold bfTo; exact Nat.le_trans (List.length_filter_le _ _) (by simp)
theorem bf_256 (P : Nat → Bool) : ordL (bfTo P 256) = (enumM.filter P).map numsM := ord_range _

set_option maxRecDepth 100000 in
set_option maxHeartbeats 4000000 in
theorem rBlamed_any (a g : Option Addr) (ca cg : Nat) (ps : List L) (ts : List T) (size : Int) (w : World) (hp : LinesAt w a ps) (hts : TestsAt w g ts) (hm0 : ts.length ≤ 1000) (hmp : ps.length ≤ 1000) :
    Calls Tryz.prog 14 #[.slice a ps.length ca, .slice g ts.length cg, .int .i64 size] w (GivesRowsBE (bmL ps ts size) (bmC ps ts size) w) := by
  obtain ⟨i0, hi, hz0, hz1, hz2⟩ := info_parts info_int
  have HV := Lib.hid (rTested3_any a g ca cg ps ts w hp hts)
  have HP := Lib.hid hp
  have HT := Lib.hid hts
  by_cases hz : vpt ps ts = 0
  · have HW := Lib.hid (fun w => within3b_any size 1 2 w)
    cases hs : btw size 1 2
    · have e1 : bmC ps ts size = 1 := by unfold bmC; rw [if_pos hz, if_neg (by simp [hs])]
      have e2 : bmL ps ts size = [] := by unfold bmL; rw [e1, if_neg (by omega)]
      rw [e2, e1]
      rw [hz] at HV
      rw [hs] at HW
      clear hz e1 e2 hs hp hts hm0 hmp
      go_enter Tryz.func14, Tryz.ntmps14
      go_wp2_with fail
      refine HV.out.mono ?_
      rintro e w1 ⟨rfl, hB⟩
      go_wp2_with fail
      refine (HW.out _).mono ?_
      rintro e w2 ⟨rfl, rfl⟩
      go_wp2_with fail
      go_ret2
      exact givesRowsBE_nil hB
    · have e1 : bmC ps ts size = 0 := by unfold bmC; rw [if_pos hz, if_pos hs]
      have e2 : bmL ps ts size = (enumM.filter (bmB ps (fT ps ts) size)).map numsM := by unfold bmL; rw [e1, if_pos rfl]
      rw [e2, e1, ← bf_256]
      obtain ⟨n, rfl⟩ : ∃ n : Nat, size = n := ⟨size.toNat, by have := btw_true.1 hs; omega⟩
      have hn2 : n ≤ 2 := by have := btw_true.1 hs; omega
      rw [hs] at HW
      have HPK := Lib.hid (fun w => rPicks_any n hn2 w)
      have HLS := Lib.hid (fun m (hm : m < 256) w => rList3_any m hm w)
      have HLN := Lib.hid (fun b cb m w hp hl => rLined_any a b ca cb ps (numsM m) w hp hl (by have := numsM_len m; omega) hmp)
      have HIB := Lib.hid (fun b cb h ch m w (hnm : (numsM m).length = n) (hln : lnC ps (numsM m) = 0) hp hts hl hf => risToBlame_any a g b h ca cg cb ch ps ts (numsM m) w hp hts hl hf hz hln hm0)
      have HBM := Lib.hid (fun m => show bmB ps (fT ps ts) (n : Int) m = ((((numsM m).length : Int) == (n : Int)) && ((lnC ps (numsM m) == 0) && capB ps (fT ps ts) (numsM m))) from rfl)
      have HOR := Lib.hid (fun b c w h => ordered_any b c (bfTo (bmB ps (fT ps ts) (n : Int)) 256) w h (fun m hm => by unfold bfTo at hm; simpa using (List.filter_sublist.subset hm)) (by have := bfTo_len (bmB ps (fT ps ts) (n : Int)) 256; omega))
      have HFL := Lib.hid (fun k => bfTo_len (bmB ps (fT ps ts) (n : Int)) k)
      rw [hz] at HV
      generalize bmB ps (fT ps ts) (n : Int) = P at HBM HOR HFL ⊢
      have hl2 : (ni (bfTo P 256)).length = (bfTo P 256).length := ni_len _
      have HL2 := Lib.hid hl2
      clear hz e1 e2 hs hp hts hm0 hmp hl2
      go_enter Tryz.func14, Tryz.ntmps14
      go_wp2_with fail
      refine HV.out.mono ?_
      rintro e w1 ⟨rfl, hB⟩
      have HB1 := Lib.hid hB
      clear hB
      go_wp2_with fail
      refine (HW.out _).mono ?_
      rintro e w2 ⟨rfl, rfl⟩
      go_wp2_with fail
      refine (HPK.out _).mono ?_
      rintro e w3 ⟨a3, c3, rfl, h3, hB⟩
      have H3 := Lib.hid h3
      have HB3 := Lib.hid (HB1.out.trans (hB.mono HB1.out.size))
      clear hB h3 HV HW HPK HB1
      go_wp2_with fail
      go_loopw [10, 11] (fun s10 s11 wr => ∃ m : Nat, m ≤ 256 ∧ s11 = .int .i64 m ∧ wr.ownsRow w3.heap.size 3 1 s10 (bfTo P m).length ((ni (bfTo P m)).map (Value.int .i64)) ∧ Below w3.heap.size w3 wr) (fun _ s11 _ => 256 - (intOf s11).toNat)
      case atStart => exact ⟨0, Nat.zero_le _, rfl, World.ownsRow_nil _ _ _ _, Below.refl _ _⟩
      case round =>
        obtain ⟨m, hm, rfl, hown, hB⟩ := hrel
        have HO := Lib.hid hown
        have HB := Lib.hid hB
        have hbl := HFL.out m
        clear hown hB
        by_cases hlt : m < 256
        · have HQ := Lib.hid (HBM.out m)
          have H1 := Lib.hid (HLS.out m hlt wr)
          have H2 := Lib.hid (fun b cb w hp hl => HLN.out b cb m w hp hl)
          have H4 := Lib.hid (fun b cb h ch w h1 h2 hp hts hl hf => HIB.out b cb h ch m w h1 h2 hp hts hl hf)
          have hnl := numsM_len m
          clear HLS HLN HIB HBM HFL HOR
          by_cases hln : (numsM m).length = n
          · have d1 : (((numsM m).length : Int) == (n : Int)) = true := by simp; omega
            rw [d1, Bool.true_and] at HQ
            by_cases hc : lnC ps (numsM m) = 0
            · have H5 := Lib.hid (fun b cb h ch w hp hts hl hf => H4.out b cb h ch w hln hc hp hts hl hf)
              rw [hc] at H2 HQ
              rw [hln] at H2 H5
              have HXN := Lib.hid hln
              have hq0 : ((0 : Int) == 0) = true := rfl
              rw [hq0, Bool.true_and] at HQ
              rw [← HQ.out] at H5
              generalize numsM m = X at H1 H2 H5 hnl HXN
              clear H4 HQ hc hln d1 hnl
              cases hpm : P m
              · have HE := Lib.hid (bfTo_no hpm)
                rw [hpm] at H5
                clear hpm
                go_wp2_with fail
                refine H1.out.mono ?_
                rintro e w4 ⟨a4, c4, rfl, h4, hB4⟩
                rw [HXN.out]
                have HI4 := Lib.hid (ints_of_own h4).1
                have HB4 := Lib.hid hB4
                have HBw := Lib.hid (HB3.out.trans ((HB.out.trans (hB4.mono HB.out.size)).mono HB3.out.size))
                clear h4 hB4
                go_wp2_with fail
                refine (H2.out _ _ _ (HP.out.below HBw.out (Nat.le_refl _)) HI4.out).mono ?_
                rintro e w5 ⟨rfl, hB5⟩
                have HI5 := Lib.hid (HI4.out.below hB5 (Nat.le_refl _))
                have HB5 := Lib.hid (HB4.out.trans (hB5.mono HB4.out.size))
                have HBx := Lib.hid (HB.out.trans (HB5.out.mono HB.out.size))
                have HBw := Lib.hid (HB3.out.trans (HBx.out.mono HB3.out.size))
                clear hB5
                go_wp2_with fail
                refine (H5.out _ _ _ _ _ (HP.out.below HBw.out (Nat.le_refl _)) (HT.out.below HBw.out (Nat.le_refl _)) HI5.out (H3.out.below HBx.out (Nat.le_refl _))).mono ?_
                rintro e w6 ⟨rfl, hB6⟩
                have HB6 := Lib.hid (HB5.out.trans (hB6.mono HB5.out.size))
                clear hB6
                go_wp2_with fail
                go_roundw
                case rel => exact ⟨m + 1, by omega, by go_num, by rw [HE.out]; exact own_below HO.out HB6.out (Nat.le_refl _), HB.out.trans (HB6.out.mono HB.out.size)⟩
                case measure => simp [intOf]; omega
              · have HE := Lib.hid (bfTo_yes hpm)
                rw [hpm] at H5
                clear hpm
                go_wp2_with fail
                refine H1.out.mono ?_
                rintro e w4 ⟨a4, c4, rfl, h4, hB4⟩
                rw [HXN.out]
                have HI4 := Lib.hid (ints_of_own h4).1
                have HB4 := Lib.hid hB4
                have HBw := Lib.hid (HB3.out.trans ((HB.out.trans (hB4.mono HB.out.size)).mono HB3.out.size))
                clear h4 hB4
                go_wp2_with fail
                refine (H2.out _ _ _ (HP.out.below HBw.out (Nat.le_refl _)) HI4.out).mono ?_
                rintro e w5 ⟨rfl, hB5⟩
                have HI5 := Lib.hid (HI4.out.below hB5 (Nat.le_refl _))
                have HB5 := Lib.hid (HB4.out.trans (hB5.mono HB4.out.size))
                have HBx := Lib.hid (HB.out.trans (HB5.out.mono HB.out.size))
                have HBw := Lib.hid (HB3.out.trans (HBx.out.mono HB3.out.size))
                clear hB5
                go_wp2_with fail
                refine (H5.out _ _ _ _ _ (HP.out.below HBw.out (Nat.le_refl _)) (HT.out.below HBw.out (Nat.le_refl _)) HI5.out (H3.out.below HBx.out (Nat.le_refl _))).mono ?_
                rintro e w6 ⟨rfl, hB6⟩
                have HB6 := Lib.hid (HB5.out.trans (hB6.mono HB5.out.size))
                have HB7 := Lib.hid (HB.out.trans (HB6.out.mono HB.out.size))
                have hown := own_below HO.out HB6.out (Nat.le_refl _)
                clear hB6
                go_wp2_with (at_builtin; refine wpList_append_own _ rfl (.tmp 47) (.tmp 49) 34 rfl w3.heap.size 3 i0 (.int .i64 0) 1 8 Tryz.underlying34 hi hz0 hz1 hz2 rfl (by decide) _ _ _ rfl (hown.alloc _) ⟨w6.heap.size, 0, none⟩ 1 1 [.int .i64 m] rfl rfl ?c1 ?c2 ?c3 ?c4 ?c5 ?_)
                case c1 => exact cell_one_new _ _ _
                case c2 => simp [Value.oneCell']
                case c3 => unfold maxLen; omega
                case c4 => omega
                case c5 => have := HB7.out.size; simp; omega
                intro v' w7 hown' hgrow _
                have hB8 : Below w3.heap.size w3 w7 := (HB7.out.alloc HB7.out.size _).grown hgrow (by have := HB7.out.size; simp; omega) (own_base hown)
                have e : (ni (bfTo P m)).map (Value.int .i64) ++ [.int .i64 (m : Int)] = (ni (bfTo P (m + 1))).map (Value.int .i64) := by rw [HE.out]; simp [ni]
                have e2 : (bfTo P m).length + 1 = (bfTo P (m + 1)).length := by rw [HE.out]; simp
                rw [e, e2] at hown'
                have HO' := Lib.hid hown'
                clear hown hown' hgrow e e2
                go_wp2_with fail
                go_roundw
                case rel => exact ⟨m + 1, by omega, by go_num, HO'.out, hB8⟩
                case measure => simp [intOf]; omega
            · have hq0 : (lnC ps (numsM m) == 0) = false := by simpa using hc
              rw [hq0, Bool.false_and] at HQ
              have HE := Lib.hid (bfTo_no HQ.out)
              rw [hln] at H2
              have HXN := Lib.hid hln
              generalize lnC ps (numsM m) = co at H2 hq0
              generalize numsM m = X at H1 H2 hnl HXN
              clear H4 HQ hc hln d1 hnl
              go_wp2_with fail
              refine H1.out.mono ?_
              rintro e w4 ⟨a4, c4, rfl, h4, hB4⟩
              rw [HXN.out]
              have HI4 := Lib.hid (ints_of_own h4).1
              have HB4 := Lib.hid hB4
              have HBw := Lib.hid (HB3.out.trans ((HB.out.trans (hB4.mono HB.out.size)).mono HB3.out.size))
              clear h4 hB4
              go_wp2_with fail
              refine (H2.out _ _ _ (HP.out.below HBw.out (Nat.le_refl _)) HI4.out).mono ?_
              rintro e w5 ⟨rfl, hB5⟩
              have HB5 := Lib.hid (HB4.out.trans (hB5.mono HB4.out.size))
              clear hB5
              go_wp2_with fail
              go_roundw
              case rel => exact ⟨m + 1, by omega, by go_num, by rw [HE.out]; exact own_below HO.out HB5.out (Nat.le_refl _), HB.out.trans (HB5.out.mono HB.out.size)⟩
              case measure => simp [intOf]; omega
          · have d1 : (((numsM m).length : Int) == (n : Int)) = false := by simp; omega
            rw [d1, Bool.false_and] at HQ
            have HE := Lib.hid (bfTo_no HQ.out)
            generalize hxl : (numsM m).length = xl at d1 hnl
            have HXL := Lib.hid hxl
            clear H4 HQ H2 hln hxl
            go_wp2_with fail
            refine H1.out.mono ?_
            rintro e w4 ⟨a4, c4, rfl, h4, hB4⟩
            rw [HXL.out]
            have HB4 := Lib.hid hB4
            clear h4 hB4
            go_wp2_with fail
            go_roundw
            case rel => exact ⟨m + 1, by omega, by go_num, by rw [HE.out]; exact own_below HO.out HB4.out (Nat.le_refl _), HB.out.trans (HB4.out.mono HB.out.size)⟩
            case measure => simp [intOf]; omega
        · obtain rfl : m = 256 := by omega
          obtain ⟨va, vc, rfl⟩ := own_slice HO.out
          have HI := Lib.hid (ints_of_own HO.out).1
          have HB5 := Lib.hid (HB3.out.trans (HB.out.mono HB3.out.size))
          go_wp2_with fail
          refine (HOR.out _ _ _ HI.out).mono ?_
          rintro e w4 ⟨a4, c4, rfl, h4, hB4⟩
          have HM4 := Lib.hid (h4.wide HB5.out.size)
          have HB6 := Lib.hid (HB5.out.trans (hB4.mono HB5.out.size))
          clear h4 hB4
          go_wp2_with fail
          go_ret2
          exact ⟨a4, c4, rfl, HM4.out, HB6.out⟩
  · have e1 : bmC ps ts size = vpt ps ts := by unfold bmC; rw [if_neg hz]
    have e2 : bmL ps ts size = [] := by unfold bmL; rw [e1, if_neg hz]
    rw [e2, e1]
    generalize vpt ps ts = co at HV hz ⊢
    have hz1 : (co != 0) = true := by simpa using hz
    have hz2 : (co == 0) = false := by simpa using hz
    clear hz e1 e2 hp hts hm0 hmp
    go_enter Tryz.func14, Tryz.ntmps14
    go_wp2_with fail
    refine HV.out.mono ?_
    rintro e w1 ⟨rfl, hB⟩
    go_wp2_with fail
    go_ret2
    exact givesRowsBE_nil hB

end Go.Proofs.YtigaklppdlknkaaGreat
