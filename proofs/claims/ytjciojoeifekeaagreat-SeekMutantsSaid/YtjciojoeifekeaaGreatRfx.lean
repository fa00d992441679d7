/- tested, sought, fixes, Fixes of the document (package tinkerref05): contracts. -/
import Derived.Test.YtjciojoeifekeaaGreatFxE
import Derived.Test.YtjciojoeifekeaaGreatRcd
import Derived.Test.YtjciojoeifekeaaGreatFxR
import Derived.Test.YtjciojoeifekeaaGreatCnF
set_option linter.unusedVariables false
set_option linter.unusedSimpArgs false
namespace Go.Proofs.YtjciojoeifekeaaGreat
open Go.RowKit Go.Shelf Tinker

theorem rcand_any (a : Option Addr) (ca : Nat) (ps : List L) (i : Nat) (n : Int) (w : World) (hp : LinesAt w a ps) (hv : vp ps = 0) (hi : i < ps.length) (h0 : 0 ≤ n) (h2 : n ≤ 2) :
    Calls Tryz.prog 88 #[.slice a ps.length ca, .int .i64 (i : Int), .int .i64 n] w (GivesLines (cndL ps i n) w) := by
  have hn : n = 0 ∨ n = 1 ∨ n = 2 := by omega
  rcases hn with rfl | rfl | rfl
  · exact rcand0_any a ca ps i w hp hv hi
  · exact rcand1_any a ca ps i w hp hv hi
  · exact rcand2_any a ca ps i w hp hv hi

set_option maxHeartbeats 1000000 in
theorem rtested5_any (a h : Option Addr) (ca ch : Nat) (ps : List L) (ts : List T) (w : World) (hp : LinesAt w a ps) (hts : TestsAt w h ts) :
    Calls Tryz.prog 47 #[.slice a ps.length ca, .slice h ts.length ch] w fun e w' => e = .returned (.int .i64 (feL [vp ps, vts ts])) ∧ Below w.heap.size w w' := by
  have H1 := Lib.hid (fun w h9 => rValidate_any a ca ps w h9)
  have H2 := Lib.hid (fun w h9 => rValidateTests_any h ch ts w h9)
  have HP := Lib.hid hp
  have HT := Lib.hid hts
  rw [feL_two]
  unfold fe
  generalize vp ps = d1 at *
  generalize vts ts = d2 at *
  clear hp hts
  by_cases hz : d1 = 0
  · subst hz
    rw [if_pos rfl]
    go_enter Tryz.func47, Tryz.ntmps47
    go_wp2_with fail
    refine (H1.out _ HP.out).mono ?_
    rintro e w1 ⟨rfl, hB⟩
    have HB1 := Lib.hid hB
    clear hB
    go_wp2_with fail
    refine (H2.out _ (HT.out.below HB1.out (Nat.le_refl _))).mono ?_
    rintro e w2 ⟨rfl, hB⟩
    have HB2 := Lib.hid (HB1.out.trans (hB.mono HB1.out.size))
    clear hB
    go_wp2_with fail
    go_ret
    exact ⟨rfl, HB2.out⟩
  · have hz1 : (d1 != 0) = true := by simpa using hz
    rw [if_neg hz]
    clear hz
    go_enter Tryz.func47, Tryz.ntmps47
    go_wp2_with fail
    refine (H1.out _ HP.out).mono ?_
    rintro e w1 ⟨rfl, hB⟩
    have HB1 := Lib.hid hB
    clear hB
    go_wp2_with fail
    go_ret
    exact ⟨rfl, HB1.out⟩

theorem skC_1 {ps : List L} {ts : List T} {n : Int} (h : feL [vp ps, vts ts] ≠ 0) : skC ps ts n = feL [vp ps, vts ts] := by
  unfold skC
  rw [feL]
  exact if_neg h
theorem skC_2 {ps : List L} {ts : List T} {n : Int} (h : feL [vp ps, vts ts] = 0) (hn : n < 0 ∨ 2 < n) : skC ps ts n = 1 := by
  unfold skC kdC
  rw [feL, if_pos h, if_neg (by omega), feL]
  rfl
theorem skC_3 {ps : List L} {ts : List T} {n : Int} (h : feL [vp ps, vts ts] = 0) (h0 : 0 ≤ n) (h2 : n ≤ 2) : skC ps ts n = if (ts.all fun t => pas ps t) = true then 8 else 0 := by
  obtain ⟨h3, h4⟩ := fe2_ok h
  unfold skC kdC
  rw [feL, if_pos h, if_pos ⟨h0, h2⟩, feL, if_pos rfl, nd_all h3 h4]
  generalize (if (ts.all fun t => pas ps t) = true then (8 : Int) else 0) = q
  simp only [feL]
  by_cases hq : q = 0
  · rw [if_pos hq, hq]
  · rw [if_neg hq]
set_option maxRecDepth 100000 in
set_option maxHeartbeats 1000000 in
theorem rsought_any (a h : Option Addr) (ca ch : Nat) (ps : List L) (ts : List T) (n : Int) (w : World) (hp : LinesAt w a ps) (hts : TestsAt w h ts) :
    Calls Tryz.prog 48 #[.slice a ps.length ca, .slice h ts.length ch, .int .i64 n] w fun e w' => e = .returned (.int .i64 (skC ps ts n)) ∧ Below w.heap.size w w' := by
  have H1 := Lib.hid (fun w h1 h2 => rtested5_any a h ca ch ps ts w h1 h2)
  have HP := Lib.hid hp
  have HT := Lib.hid hts
  clear hp hts
  by_cases hz : feL [vp ps, vts ts] = 0
  · obtain ⟨h3, h4⟩ := fe2_ok hz
    rw [hz] at H1
    by_cases hn : n < 0
    · have d1 : decide (n < 0) = true := by simpa using hn
      rw [skC_2 hz (.inl hn)]
      clear hz h3 h4
      go_enter Tryz.func48, Tryz.ntmps48
      go_wp2_with fail
      refine (H1.out _ HP.out HT.out).mono ?_
      rintro e w1 ⟨rfl, hB⟩
      have HB1 := Lib.hid hB
      clear hB
      go_wp2_with fail
      go_ret
      exact ⟨rfl, HB1.out⟩
    · have d1 : decide (n < 0) = false := by simpa using hn
      by_cases hn2 : 2 < n
      · have d2 : decide (2 < n) = true := by simpa using hn2
        rw [skC_2 hz (.inr hn2)]
        clear hz h3 h4
        go_enter Tryz.func48, Tryz.ntmps48
        go_wp2_with fail
        refine (H1.out _ HP.out HT.out).mono ?_
        rintro e w1 ⟨rfl, hB⟩
        have HB1 := Lib.hid hB
        clear hB
        go_wp2_with fail
        go_ret
        exact ⟨rfl, HB1.out⟩
      · have d2 : decide (2 < n) = false := by simpa using hn2
        rw [skC_3 hz (by omega) (by omega)]
        have H2 := Lib.hid (fun w h1 h2 => rPassesAll_any a h ca ch ps ts w h1 h2 h3 h4)
        generalize (ts.all fun t => pas ps t) = r at *
        clear hz h3 h4
        cases r
        · rw [if_neg (by decide)]
          go_enter Tryz.func48, Tryz.ntmps48
          go_wp2_with fail
          refine (H1.out _ HP.out HT.out).mono ?_
          rintro e w1 ⟨rfl, hB⟩
          have HB1 := Lib.hid hB
          clear hB
          go_wp2_with fail
          refine (H2.out _ (HP.out.below HB1.out (Nat.le_refl _)) (HT.out.below HB1.out (Nat.le_refl _))).mono ?_
          rintro e w2 ⟨rfl, hB⟩
          have HB2 := Lib.hid (HB1.out.trans (hB.mono HB1.out.size))
          clear hB
          go_wp2_with fail
          go_ret
          exact ⟨rfl, HB2.out⟩
        · rw [if_pos rfl]
          go_enter Tryz.func48, Tryz.ntmps48
          go_wp2_with fail
          refine (H1.out _ HP.out HT.out).mono ?_
          rintro e w1 ⟨rfl, hB⟩
          have HB1 := Lib.hid hB
          clear hB
          go_wp2_with fail
          refine (H2.out _ (HP.out.below HB1.out (Nat.le_refl _)) (HT.out.below HB1.out (Nat.le_refl _))).mono ?_
          rintro e w2 ⟨rfl, hB⟩
          have HB2 := Lib.hid (HB1.out.trans (hB.mono HB1.out.size))
          clear hB
          go_wp2_with fail
          go_ret
          exact ⟨rfl, HB2.out⟩
  · rw [skC_1 hz]
    generalize feL [vp ps, vts ts] = d at *
    have hz1 : (d != 0) = true := by simpa using hz
    clear hz
    go_enter Tryz.func48, Tryz.ntmps48
    go_wp2_with fail
    refine (H1.out _ HP.out HT.out).mono ?_
    rintro e w1 ⟨rfl, hB⟩
    have HB1 := Lib.hid hB
    clear hB
    go_wp2_with fail
    go_ret
    exact ⟨rfl, HB1.out⟩

set_option maxRecDepth 100000 in
set_option maxHeartbeats 4000000 in
theorem rfixes_any (a h : Option Addr) (ca ch : Nat) (ps : List L) (ts : List T) (i : Nat) (n : Int) (w : World) (hp : LinesAt w a ps) (hts : TestsAt w h ts) (hv : vp ps = 0) (ht : vts ts = 0) (hi : i < ps.length) (h0 : 0 ≤ n) (h2 : n ≤ 2) :
    Calls Tryz.prog 49 #[.slice a ps.length ca, .slice h ts.length ch, .int .i64 (i : Int), .int .i64 n] w (GivesLines (fxL ps ts i n) w) := by
  obtain ⟨i0, hI, hz0, hz1, hz2⟩ := info_parts info_line
  have HC := Lib.hid (fun w h9 => rcand_any a ca ps i n w h9 hv hi h0 h2)
  have hne : a ≠ none := by
    obtain ⟨b, off, l, e, _⟩ := hp.at_ hi
    rw [e]
    exact fun h => by cases h
  have HG := Lib.hid (fun g x w h1 h2 h3 h4 => rGood_any a g h ca 1 ch ps [⟨(i : Int), x⟩] ts w h1 (fun e => absurd e hne) h2 h3 (okX_of (vpx_one hv hi h4)) ht)
  simp only [List.length_cons, List.length_nil, Nat.zero_add] at HG
  have HLN := Lib.hid (fun m (hm : m ∈ cndL ps i n) => cnd_ln hm)
  have hl9 := cnd_len9 ps i n
  have HFF := Lib.hid (show ∀ x, (fun m => gdB ps ts [⟨(i : Int), m⟩]) x = gdB ps ts [⟨(i : Int), x⟩] from fun _ => rfl)
  have HP := Lib.hid hp
  have HT := Lib.hid hts
  unfold fxL
  generalize (fun m => gdB ps ts [⟨(i : Int), m⟩]) = f at *
  generalize cndL ps i n = Z at *
  clear hv ht hi h0 h2 hp hts hne
  go_enter Tryz.func49, Tryz.ntmps49
  go_wp2_with fail
  refine (HC.out _ HP.out).mono ?_
  rintro e w1 ⟨a1, k1, rfl, hq, hB⟩
  have HZ := Lib.hid (lines_of_own hq).1
  have HB0 := Lib.hid hB
  have HP := Lib.hid (HP.out.below hB (Nat.le_refl _))
  have HT := Lib.hid (HT.out.below hB (Nat.le_refl _))
  clear hq hB
  go_wp2_with fail
  go_loopw [10, 11] (fun s10 s11 wr => ∃ k : Nat, k ≤ Z.length ∧ s11 = .int .i64 (k : Int) ∧ wr.ownsRow w1.heap.size 23 4 s10 ((Z.take k).filter f).length (lc ((Z.take k).filter f)) ∧ Below w1.heap.size w1 wr) (fun _ s11 _ => Z.length - (intOf s11).toNat)
  case atStart => exact ⟨0, Nat.zero_le _, rfl, World.ownsRow_nil _ _ _ _, Below.refl _ _⟩
  case round =>
    obtain ⟨k, hk, rfl, hO, hB⟩ := hrel
    have HO := Lib.hid hO
    have HB := Lib.hid hB
    clear hO hB
    by_cases hlt : k < Z.length
    · have hlt1 : decide ((k : Int) < (Z.length : Int)) = true := decide_eq_true (by omega)
      obtain ⟨tb, toff, x, rfl, htl, hx, d0, d1, d2, d3⟩ := (HZ.out.below HB.out (Nat.le_refl _)).at_ hlt
      have hxl := HLN.out x (mem_of_get hx)
      have HG1 := Lib.hid (fun g w h1 h2 h3 => HG.out g x w h1 h2 h3 hxl)
      have HFx := Lib.hid (HFF.out x)
      have hfl := filter_len9 (T := Z) (f := f) (k := k) hl9
      have HY := Lib.hid (fun h => filter_hit (T := Z) (f := f) (k := k) (x := x) hx h)
      have HN0 := Lib.hid (fun h => filter_miss (T := Z) (f := f) (k := k) (x := x) hx h)
      have hal : Below wr.heap.size wr (wr.alloc (.cells #[.int .i64 (i : Int), .int .i64 x.op, .int .i64 x.to, .int .i64 x.a, .int .i64 x.b] 41)) := (Below.refl _ _).alloc (Nat.le_refl _) _
      have HX := Lib.hid (edit_at wr 41 ⟨(i : Int), x⟩)
      have HAL := Lib.hid hal
      have HO := Lib.hid (own_below HO.out hal (Nat.le_refl _))
      have HB := Lib.hid (HB.out.trans (hal.mono HB.out.size))
      clear hx hxl hal HFF HLN HG
      generalize gdB ps ts [⟨(i : Int), x⟩] = r at *
      generalize (Z.take k).filter f = LS at *
      go_wp2_with fail
      refine (HG1.out _ _ (HP.out.below HB.out (Nat.le_refl _)) HX.out (HT.out.below HB.out (Nat.le_refl _))).mono ?_
      rintro e w2 ⟨rfl, hB2⟩
      have hl2 : tb < w2.heap.size := Nat.lt_of_lt_of_le htl (Nat.le_trans HAL.out.size hB2.size)
      have d0 := ((HAL.out.trans (hB2.mono HAL.out.size)).cell (p := ⟨tb, _, none⟩) htl).trans d0
      have d1 := ((HAL.out.trans (hB2.mono HAL.out.size)).cell (p := ⟨tb, _, none⟩) htl).trans d1
      have d2 := ((HAL.out.trans (hB2.mono HAL.out.size)).cell (p := ⟨tb, _, none⟩) htl).trans d2
      have d3 := ((HAL.out.trans (hB2.mono HAL.out.size)).cell (p := ⟨tb, _, none⟩) htl).trans d3
      have HO := Lib.hid (own_below HO.out hB2 (Nat.le_refl _))
      have HB := Lib.hid (HB.out.trans (hB2.mono HB.out.size))
      clear hB2 HAL HX
      cases r
      · have HS := Lib.hid (HN0.out HFx.out)
        go_wp2_with fail
        go_roundw
        case rel => exact ⟨k + 1, by omega, by go_num, by rw [HS.out]; exact HO.out, HB.out⟩
        case measure => simp [intOf]; omega
      · have HS := Lib.hid (HY.out HFx.out)
        obtain ⟨va, vc, rfl⟩ := own_slice HO.out
        have hal2 : Below w2.heap.size w2 (w2.alloc (.cells (lV x) 23)) := (Below.refl _ _).alloc (Nat.le_refl _) _
        have HO2 := Lib.hid (own_below HO.out hal2 (Nat.le_refl _))
        have HB2 := Lib.hid (HB.out.trans (hal2.mono HB.out.size))
        have HCN := Lib.hid (cells_newL w2 x)
        unfold lV at HO2 HB2 HCN
        clear hal2 HO HB
        go_wp2_with (at_builtin; (refine wpList_append_own _ rfl (.tmp 32) (.tmp 37) 24 rfl w1.heap.size 23 i0 (.agg #[.int .i64 0, .int .i64 0, .int .i64 0, .int .i64 0]) 4 32 Tryz.underlying24 hI hz0 hz1 hz2 rfl (by decide) (.slice va LS.length vc) LS.length (lc LS) rfl HO2.out ⟨w2.heap.size, 0, none⟩ 1 1 (lc [x]) rfl ?c1 ?c2 ?c3 ?c4 ?c5 ?c6 ?_))
        case c1 => rfl
        case c2 => first | exact HCN.out | exact fun j u h => h
        case c3 => exact lc_one _
        case c4 => simp [maxLen]; omega
        case c5 => omega
        case c6 => first | exact HB2.out.size | (have h9 := HB2.out.size; simp at h9; omega)
        intro v' w5 hown hgrow _
        have HB5 := Lib.hid (HB2.out.grown hgrow HB2.out.size (by rintro k hk; exact (HO2.out.lt k hk).1))
        have HO5 := Lib.hid (lines_snoc hown)
        clear hown hgrow
        go_wp2_with fail
        go_roundw
        case rel => exact ⟨k + 1, by omega, by go_num, by rw [HS.out, List.length_append]; exact HO5.out, HB5.out⟩
        case measure => simp [intOf]; omega
    · have HE := Lib.hid (filter_done (f := f) hlt)
      have hlt1 : decide ((k : Int) < (Z.length : Int)) = false := decide_eq_false (by omega)
      rw [HE.out] at HO
      obtain ⟨va, vc, rfl⟩ := own_slice HO.out
      have HO := Lib.hid (own_mono HO.out HB0.out.size)
      have HB := Lib.hid (HB0.out.trans (HB.out.mono HB0.out.size))
      go_wp2_with fail
      go_ret
      exact givesLines_of rfl HO.out HB.out

theorem fxC_1 {ps : List L} {ts : List T} {i n : Int} (h : feL [vp ps, vts ts] ≠ 0) : fxC ps ts i n = feL [vp ps, vts ts] := by
  unfold fxC
  rw [feL]
  exact if_neg h
theorem fxC_2 {ps : List L} {ts : List T} {i n : Int} (h : feL [vp ps, vts ts] = 0) (hi : i < 0 ∨ (ps.length : Int) ≤ i) : fxC ps ts i n = 4 := by
  have h1 : plC ps i = 4 := by
    unfold plC
    rw [if_neg]
    intro hb
    have := btw_true.1 hb
    omega
  unfold fxC
  rw [feL, if_pos h, h1, feL]
  rfl
theorem fxC_3 {ps : List L} {ts : List T} {i n : Int} (h : feL [vp ps, vts ts] = 0) (h0 : 0 ≤ i) (h2 : i < (ps.length : Int)) : fxC ps ts i n = skC ps ts n := by
  have h1 : plC ps i = 0 := by
    unfold plC
    rw [if_pos (btw_true.2 ⟨h0, by omega⟩)]
  unfold fxC skC
  rw [feL, if_pos h, h1, feL, if_pos rfl]
  conv => rhs; rw [feL]
  rw [if_pos h]

set_option maxRecDepth 100000 in
set_option maxHeartbeats 2000000 in
theorem rFixes5_any (a h : Option Addr) (ca ch : Nat) (ps : List L) (ts : List T) (i n : Int) (w : World) (hp : LinesAt w a ps) (hts : TestsAt w h ts) :
    Calls Tryz.prog 18 #[.slice a ps.length ca, .slice h ts.length ch, .int .i64 i, .int .i64 n] w (GivesLinesE (fxR ps ts i n) (fxC ps ts i n) w) := by
  have H1 := Lib.hid (fun w h1 h2 => rtested5_any a h ca ch ps ts w h1 h2)
  have H2 := Lib.hid (fun w h1 h2 => rsought_any a h ca ch ps ts n w h1 h2)
  have HP := Lib.hid hp
  have HT := Lib.hid hts
  clear hp hts
  by_cases hz : feL [vp ps, vts ts] = 0
  · have hz' := hz
    rw [hz] at H1
    by_cases hn : i < 0
    · have d1 : decide (i < 0) = true := by simpa using hn
      have hE := fxC_2 (n := n) hz (.inl hn)
      rw [show fxR ps ts i n = [] by unfold fxR; rw [hE]; rfl, hE]
      clear hz hz' hE
      go_enter Tryz.func18, Tryz.ntmps18
      go_wp2_with fail
      refine (H1.out _ HP.out HT.out).mono ?_
      rintro e w1 ⟨rfl, hB⟩
      have HB1 := Lib.hid hB
      clear hB
      go_wp2_with fail
      go_ret2
      exact givesLinesE_nil HB1.out
    · have d1 : decide (i < 0) = false := by simpa using hn
      by_cases hn2 : (ps.length : Int) ≤ i
      · have d2 : decide ((ps.length : Int) ≤ i) = true := by simpa using hn2
        have hE := fxC_2 (n := n) hz (.inr hn2)
        rw [show fxR ps ts i n = [] by unfold fxR; rw [hE]; rfl, hE]
        clear hz hz' hE
        go_enter Tryz.func18, Tryz.ntmps18
        go_wp2_with fail
        refine (H1.out _ HP.out HT.out).mono ?_
        rintro e w1 ⟨rfl, hB⟩
        have HB1 := Lib.hid hB
        clear hB
        go_wp2_with fail
        go_ret2
        exact givesLinesE_nil HB1.out
      · have d2 : decide ((ps.length : Int) ≤ i) = false := by simpa using hn2
        have hE := fxC_3 (i := i) (n := n) hz (by omega) (by omega)
        by_cases hq : skC ps ts n = 0
        · rw [hq] at hE H2
          have hti : ((i.toNat : Nat) : Int) = i := by omega
          obtain ⟨v1, v2, v3, v4⟩ := skC_ok hq
          have H7 := Lib.hid (fun w h1 h2 => rfixes_any a h ca ch ps ts i.toNat n w h1 h2 v1 v2 (by omega) v3.1 v3.2)
          rw [hti] at H7
          rw [show fxR ps ts i n = fxL ps ts i.toNat n by unfold fxR; rw [hE]; rfl, hE]
          generalize fxL ps ts i.toNat n = R at *
          clear hz hz' hE v1 v2 v3 v4 hti hq
          go_enter Tryz.func18, Tryz.ntmps18
          go_wp2_with fail
          refine (H1.out _ HP.out HT.out).mono ?_
          rintro e w1 ⟨rfl, hB⟩
          have HB1 := Lib.hid hB
          clear hB
          go_wp2_with fail
          refine (H2.out _ (HP.out.below HB1.out (Nat.le_refl _)) (HT.out.below HB1.out (Nat.le_refl _))).mono ?_
          rintro e w2 ⟨rfl, hB⟩
          have HB2 := Lib.hid (HB1.out.trans (hB.mono HB1.out.size))
          clear hB
          go_wp2_with fail
          refine (H7.out _ (HP.out.below HB2.out (Nat.le_refl _)) (HT.out.below HB2.out (Nat.le_refl _))).mono ?_
          rintro e w3 ⟨aq, cq, rfl, hq, hB⟩
          have HO := Lib.hid (own_mono hq HB2.out.size)
          have HB3 := Lib.hid (HB2.out.trans (hB.mono HB2.out.size))
          clear hB hq
          go_wp2_with fail
          go_ret2
          exact ⟨_, _, rfl, HO.out, HB3.out⟩
        · rw [show fxR ps ts i n = [] by unfold fxR; rw [if_neg (by rw [hE]; exact hq)], hE]
          generalize skC ps ts n = d at *
          have hq1 : (d != 0) = true := by simpa using hq
          clear hz hz' hE hq
          go_enter Tryz.func18, Tryz.ntmps18
          go_wp2_with fail
          refine (H1.out _ HP.out HT.out).mono ?_
          rintro e w1 ⟨rfl, hB⟩
          have HB1 := Lib.hid hB
          clear hB
          go_wp2_with fail
          refine (H2.out _ (HP.out.below HB1.out (Nat.le_refl _)) (HT.out.below HB1.out (Nat.le_refl _))).mono ?_
          rintro e w2 ⟨rfl, hB⟩
          have HB2 := Lib.hid (HB1.out.trans (hB.mono HB1.out.size))
          clear hB
          go_wp2_with fail
          go_ret2
          exact givesLinesE_nil HB2.out
  · have hE := fxC_1 (i := i) (n := n) hz
    rw [show fxR ps ts i n = [] by unfold fxR; rw [if_neg (by rw [hE]; exact hz)], hE]
    generalize feL [vp ps, vts ts] = d at *
    have hz1 : (d != 0) = true := by simpa using hz
    clear hz hE
    go_enter Tryz.func18, Tryz.ntmps18
    go_wp2_with fail
    refine (H1.out _ HP.out HT.out).mono ?_
    rintro e w1 ⟨rfl, hB⟩
    have HB1 := Lib.hid hB
    clear hB
    go_wp2_with fail
    go_ret2
    exact givesLinesE_nil HB1.out

end Go.Proofs.YtjciojoeifekeaaGreat
