/- Slices and Diagnoses in the document's words: contracts. -/
import Derived.Test.YtgoidphamkpmdaaGreatBlS
import Derived.Test.YtgoidphamkpmdaaGreatRslE
set_option linter.unusedVariables false
set_option linter.unusedSimpArgs false
namespace Go.Proofs.YtgoidphamkpmdaaGreat
open Go.RowKit Tinker

set_option maxRecDepth 100000 in
set_option maxHeartbeats 2000000 in
theorem rSlices_any (a g : Option Addr) (ca cap : Nat) (ps : List L) (ts : List T) (w : World) (hp : LinesAt w a ps) (hts : TestsAt w g ts) (hm : ts.length ≤ 1000) :
    Calls Tryz.prog 11 #[.slice a ps.length ca, .slice g ts.length cap] w (GivesRowsBE (slL ps ts) (vpt ps ts) w) := by
  obtain ⟨j0, hjj, jz0, jz1, jz2⟩ := info_parts info_ints
  have HF := Lib.hid (rFailing_any a g ca cap ps ts w hp hts)
  have HPL0 := Lib.hid (fun z h => pL_place (b := false) (ps := ps) (ts := ts) (z := z) h)
  have hpl := pL_len false ps ts
  have HP := Lib.hid hp
  have HT := Lib.hid hts
  clear hp hts
  by_cases hz : vpt ps ts = 0
  · rw [slL_ok hz, hz]
    rw [hz] at HF
    have HE := Lib.hid (show fT ps ts = (pL false ps ts).map (tgD ts) from rfl)
    rw [HE.out, List.map_map]
    generalize pL false ps ts = zs at HF HPL0 HE hpl ⊢
    clear hz HE
    go_enter Tryz.func11, Tryz.ntmps11
    go_wp2_with fail
    refine HF.out.mono ?_
    rintro e w1 ⟨a1, c1, rfl, h1, hB⟩
    have HZ := Lib.hid h1
    have HB1 := Lib.hid hB
    clear h1 hB
    go_wp2_with fail
    go_loopw [8, 9] (fun s8 s9 wr => ∃ (k : Nat) (xs : List Value), k ≤ zs.length ∧ s9 = .int .i64 k ∧ RowsI w1 s8 ((zs.take k).map (slT ps ∘ tgD ts)) xs wr) (fun _ s9 _ => zs.length - (intOf s9).toNat)
    case atStart => exact ⟨0, [], Nat.zero_le _, rfl, RowsI.nil (Below.refl _ _)⟩
    case round =>
      obtain ⟨k, xs, hk, rfl, hI⟩ := hrel
      by_cases hlk : k < zs.length
      · obtain ⟨b, off, z, rfl, hlb, hz', h0⟩ := (HZ.out.below hI.below (Nat.le_refl _)).at_ hlk
        obtain ⟨j, rfl, hj⟩ := HPL0.out z (mem_of_get hz')
        have hBB := HB1.out.trans (hI.below.mono HB1.out.size)
        obtain ⟨tb, toff, t, a', c, rfl, htlb, ht, c0, c1', c2, hi⟩ := (HT.out.below hBB (Nat.le_refl _)).at_ hj
        have hnew := boxT_new (a := a') (n := t.inn.length) (ca := c) (out := t.out) (want := t.want) wr
        have x0 := hnew.c0
        have x1 := hnew.c1
        have x2 := hnew.c2
        have HI1 := Lib.hid (hI.low hnew.below)
        have hpw := HP.out.below (hBB.trans (hnew.below.mono hBB.size)) (Nat.le_refl _)
        have HSL := Lib.hid (rSliceE_any a a' ca c ps t.inn t.out _ hpw (hi.below hnew.below (Nat.le_refl _)))
        have HS := Lib.hid (show (zs.take (k + 1)).map (slT ps ∘ tgD ts) = (zs.take k).map (slT ps ∘ tgD ts) ++ [slT ps t] by rw [map_take_snoc (slT ps ∘ tgD ts) hz']; simp only [Function.comp, tgD_at ht])
        have hpl' : ((zs.take k).map (slT ps ∘ tgD ts)).length = k := by simp; omega
        have HPL := Lib.hid hpl'
        have hx8 := slT_len ps t
        have HNX := Lib.hid (show slA ps t.inn t.out = slT ps t from rfl)
        rw [HNX.out] at HSL
        generalize slT ps t = y at HSL HS hx8
        generalize slCode ps t.inn t.out = co at HSL
        clear ht hi hI hnew hpw hpl' HNX hz' hBB
        go_wp2_with fail
        refine HSL.out.mono ?_
        rintro e w3 ⟨a3, c3, rfl, h3, hB3⟩
        have hI3 := HI1.out.low hB3
        have hal := below_al w3 (.cells #[.slice a3 y.length c3] 34)
        have HI4 := Lib.hid (hI3.low hal)
        have hO := ownL_of h3
        have HO := Lib.hid (show OwnL (w3.alloc (.cells #[.slice a3 y.length c3] 34)) w1.heap.size u8.ownBlock a3 y from (by
          rcases hO with h | ⟨q, q1, q2, q3, q4⟩
          · exact .inl h
          · refine .inr ⟨q, q1, Nat.le_trans HI1.out.below.size q2, fun e => ?_, q4.same (hal.block q q4.lt)⟩
            have := (HI1.out.out.lt q e).2
            omega))
        have hsz := HI1.out.below.size
        have hsz3 := hB3.size
        clear h3 hB3 hI3 hal hO HI1 x0 x1 x2
        go_wp2_with (at_builtin; refine wpList_append_own_at _ rfl (.tmp 44) (.tmp 46) 27 rfl w1.heap.size 34 j0 (.slice none 0 0) 1 24 Tryz.underlying27 hjj jz0 jz1 jz2 rfl (by decide) _ _ _ rfl HI4.out.out ⟨w3.heap.size, 0, none⟩ 1 1 [.slice a3 y.length c3] rfl ?d1 ?d2 ?d3 ?d4 ?d5 ?d6 ?_)
        case d1 => rfl
        case d2 => exact cell_one_new _ _ _
        case d3 => simp [Value.oneCell']
        case d4 => rw [HPL.out]; unfold maxLen; omega
        case d5 => rw [HPL.out]; omega
        case d6 => simp at hsz hsz3 ⊢; omega
        intro v2 w4 hown4 hgrow4 _ hat4
        have hP := HI4.out.push (c := c3) HO.out (by rw [HPL.out]; exact hown4) hgrow4 (by simpa using hat4)
        rw [← HS.out] at hP
        have HP2 := Lib.hid hP
        clear hown4 hgrow4 hat4 hP
        go_wp2_with fail
        go_roundw
        case rel => exact ⟨k + 1, _, by omega, by go_num, HP2.out⟩
        case measure => simp [intOf]; omega
      · obtain rfl : k = zs.length := by omega
        rw [List.take_length] at hI
        obtain ⟨va, vc, rfl⟩ := own_slice hI.out
        obtain ⟨ga, gc, ge, gr, gb⟩ := hI.givesB
        injection ge with ge
        injection ge with g1' g2 g3
        subst g1' g3
        have HG := Lib.hid (gr.wide HB1.out.size)
        have HB4 := Lib.hid (HB1.out.trans (gb.mono HB1.out.size))
        clear hI gr gb
        go_wp2_with fail
        go_ret2
        exact ⟨va, vc, by rw [List.length_map]; rfl, HG.out, HB4.out⟩
  · rw [slL_no hz]
    generalize vpt ps ts = co at HF hz
    generalize pL false ps ts = X at HF
    have hz1 : (co != 0) = true := by simpa using hz
    have hz2 : (co == 0) = false := by simpa using hz
    clear hz
    go_enter Tryz.func11, Tryz.ntmps11
    go_wp2_with fail
    refine HF.out.mono ?_
    rintro e w1 ⟨a1, c1, rfl, h1, hB⟩
    go_wp2_with fail
    go_ret2
    exact givesRowsBE_nil hB

set_option maxRecDepth 100000 in
set_option maxHeartbeats 2000000 in
theorem rDiagnoses_any (a g : Option Addr) (ca cap : Nat) (ps : List L) (ts : List T) (w : World) (hp : LinesAt w a ps) (hts : TestsAt w g ts) (hm : ts.length ≤ 1000) :
    Calls Tryz.prog 13 #[.slice a ps.length ca, .slice g ts.length cap] w (GivesRowsBE (dgL ps ts) (vpt ps ts) w) := by
  have HS := Lib.hid (rSlices_any a g ca cap ps ts w hp hts hm)
  clear hp hts
  by_cases hz : vpt ps ts = 0
  · have hsl := slL_len ps ts
    have hss := fun z h => slL_small (ps := ps) (ts := ts) (z := z) h
    have H1 := Lib.hid (fun b c w h => rMasks_any b c (slL ps ts) w h hss (by omega))
    have H2 := Lib.hid (fun b c w h => rblocker_any b c (fmM (slL ps ts)) w h (fmM_lt hss) (by rw [fmM_len]; omega))
    have H3 := Lib.hid (fun b c w h => ordered_any b c (bkTo (fmM (slL ps ts)) 256) w h (fun m hm => by unfold bkTo at hm; simpa using (List.filter_sublist.subset hm)) (by have := bkTo_len (fmM (slL ps ts)) 256; omega))
    rw [bk_256] at H3
    rw [dgL_ok hz, blkL_ok (slL_v ps ts), hz]
    rw [hz] at HS
    have hl1 : (ni (fmM (slL ps ts))).length = (fmM (slL ps ts)).length := ni_len _
    generalize (blkM (fmM (slL ps ts))).map numsM = Z at H3 ⊢
    generalize hbb : bkTo (fmM (slL ps ts)) 256 = B at H2 H3
    have hl2 : (ni B).length = B.length := ni_len _
    have HL1 := Lib.hid hl1
    have HL2 := Lib.hid hl2
    generalize slL ps ts = S at HS H1 H2 HL1
    clear hz hbb hl1 hl2 hsl hss
    go_enter Tryz.func13, Tryz.ntmps13
    go_wp2_with fail
    refine HS.out.mono ?_
    rintro e w1 ⟨a1, c1, rfl, h1, hB⟩
    have HR := Lib.hid h1.at_
    have HB := Lib.hid hB
    clear hB h1
    go_wp2_with fail
    refine (H1.out _ _ _ HR.out).mono ?_
    rintro e w2 ⟨a2, c2, rfl, h2, hB2⟩
    have HM2 := Lib.hid (ints_of_own h2).1
    have HB2 := Lib.hid (HB.out.trans (hB2.mono HB.out.size))
    rw [HL1.out]
    clear h2 hB2
    go_wp2_with fail
    refine (H2.out _ _ _ HM2.out).mono ?_
    rintro e w3 ⟨a3, c3, rfl, h3, hB3⟩
    have HM3 := Lib.hid (ints_of_own h3).1
    have HB3 := Lib.hid (HB2.out.trans (hB3.mono HB2.out.size))
    rw [HL2.out]
    clear h3 hB3
    go_wp2_with fail
    refine (H3.out _ _ _ HM3.out).mono ?_
    rintro e w4 ⟨a4, c4, rfl, h4, hB4⟩
    have HM4 := Lib.hid (h4.wide HB3.out.size)
    have HB4 := Lib.hid (HB3.out.trans (hB4.mono HB3.out.size))
    clear h4 hB4
    go_wp2_with fail
    go_ret2
    exact ⟨a4, c4, rfl, HM4.out, HB4.out⟩
  · rw [dgL_no hz]
    rw [slL_no hz] at HS
    generalize vpt ps ts = co at HS hz
    have hz1 : (co != 0) = true := by simpa using hz
    have hz2 : (co == 0) = false := by simpa using hz
    clear hz
    go_enter Tryz.func13, Tryz.ntmps13
    go_wp2_with fail
    refine HS.out.mono ?_
    rintro e w1 ⟨a1, c1, rfl, h1, hB⟩
    go_wp2_with fail
    go_ret2
    exact givesRowsBE_nil hB

end Go.Proofs.YtgoidphamkpmdaaGreat
