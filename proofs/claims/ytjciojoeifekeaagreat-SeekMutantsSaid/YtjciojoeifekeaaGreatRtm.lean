/- templates, Templates, Near of the document (package tinkerref05): contracts. -/
import Derived.Test.YtjciojoeifekeaaGreatCdM
import Derived.Test.YtjciojoeifekeaaGreatRcd
import Derived.Test.YtjciojoeifekeaaGreatSkC
import Derived.Test.YtjciojoeifekeaaGreatNear
import Derived.Test.YtjciojoeifekeaaGreatRefC
import Derived.Deep.RegionHeld
set_option linter.unusedVariables false
set_option linter.unusedSimpArgs false
namespace Go.Proofs.YtjciojoeifekeaaGreat
open Go.RowKit Go.Shelf Tinker

set_option maxRecDepth 100000 in
set_option maxHeartbeats 4000000 in
theorem rtemplates_any (l : L) (ww : World) (hl : isLn l = true) : Calls Tryz.prog 37 #[lv l] ww (GivesLines (tmpl l) ww) := by
  obtain ⟨i0, hI, hz0, hz1, hz2⟩ := info_parts info_line
  have HA := Lib.hid (fun w => rAll_any w)
  have HN := Lib.hid (fun m w hm => rnear_any l m w hl hm)
  have HAL := Lib.hid (fun m (h : m ∈ allL) => allL_mem.1 h)
  have HFF := Lib.hid (show ∀ m, nearB l m = nearB l m from fun _ => rfl)
  have hln := allL_len9
  obtain ⟨W0, hW0⟩ : ∃ W, W = ww.alloc (.cells (lV l) 23) := ⟨_, rfl⟩
  have hb : Below ww.heap.size ww W0 := by rw [hW0]; exact (Below.refl _ _).alloc (Nat.le_refl _) _
  have h1 : W0.heap[ww.heap.size]? = some (.cells (lV l) 23 (0, 0)) := by rw [hW0]; exact hp_new rfl
  have HBw := Lib.hid hb
  have HX1 := Lib.hid h1
  clear hb h1 hl
  unfold tmpl
  generalize nearB l = f at *
  generalize allL = T at *
  unfold lv at HN ⊢
  unfold lV at hW0
  go_enter Tryz.func37, Tryz.ntmps37
  go_wp2_with fail
  rw [← hW0]
  clear hW0
  refine (HA.out _).mono ?_
  rintro e w1 ⟨a1, k1, rfl, hq, hB⟩
  have HT := Lib.hid (lines_of_own hq).1
  have HX1 := Lib.hid (hp_below HX1.out hB (hp_lt HX1.out))
  have HB0 := Lib.hid (HBw.out.trans (hB.mono HBw.out.size))
  clear hq hB
  go_wp2_with fail
  go_loopw [4, 5] (fun s4 s5 wr => ∃ k : Nat, k ≤ T.length ∧ s5 = .int .i64 (k : Int) ∧ wr.ownsRow w1.heap.size 23 4 s4 ((T.take k).filter f).length (lc ((T.take k).filter f)) ∧ Below w1.heap.size w1 wr) (fun _ s5 _ => T.length - (intOf s5).toNat)
  case atStart => exact ⟨0, Nat.zero_le _, rfl, World.ownsRow_nil _ _ _ _, Below.refl _ _⟩
  case round =>
    obtain ⟨k, hk, rfl, hO, hB⟩ := hrel
    have HO := Lib.hid hO
    have HB := Lib.hid hB
    clear hO hB
    by_cases hlt : k < T.length
    · have hlt1 : decide ((k : Int) < (T.length : Int)) = true := decide_eq_true (by omega)
      obtain ⟨tb, toff, x, rfl, htl, hx, d0, d1, d2, d3⟩ := (HT.out.below HB.out (Nat.le_refl _)).at_ hlt
      have HXr := Lib.hid (hp_below HX1.out HB.out (hp_lt HX1.out))
      have hlx := hp_lt HXr.out
      obtain ⟨c0, c1, c2, c3⟩ := boxL_cells HXr.out
      have hfl := filter_len9 (T := T) (f := f) (k := k) hln
      have HY := Lib.hid (fun h => filter_hit (T := T) (f := f) (k := k) (x := x) hx h)
      have HN0 := Lib.hid (fun h => filter_miss (T := T) (f := f) (k := k) (x := x) hx h)
      have HNx := Lib.hid (fun w => HN.out x w (HAL.out x (mem_of_get hx)))
      clear hx HN HAL HFF
      obtain ⟨I, hI⟩ : ∃ I, f x = I := ⟨_, rfl⟩
      rw [hI] at HNx
      have HIx := Lib.hid hI
      clear hI
      generalize (T.take k).filter f = LS at *
      go_upto_region 7 with fail
      go_cut [18] (fun s18 wx => s18 = .bool I ∧ Below wr.heap.size wr wx)
      case first =>
        go_region_held3 (fun w' => w'.cell? ⟨ww.heap.size, 0, none⟩ = some (.int .i64 l.op) ∧ w'.cell? ⟨ww.heap.size, 1, none⟩ = some (.int .i64 l.to) ∧ w'.cell? ⟨ww.heap.size, 2, none⟩ = some (.int .i64 l.a) ∧ w'.cell? ⟨ww.heap.size, 3, none⟩ = some (.int .i64 l.b) ∧ w'.cell? ⟨tb, toff + k * 4, none⟩ = some (.int .i64 x.op) ∧ w'.cell? ⟨tb, toff + k * 4 + 1, none⟩ = some (.int .i64 x.to) ∧ w'.cell? ⟨tb, toff + k * 4 + 2, none⟩ = some (.int .i64 x.a) ∧ w'.cell? ⟨tb, toff + k * 4 + 3, none⟩ = some (.int .i64 x.b)) (first | exact ⟨c0, c1, c2, c3, d0, d1, d2, d3⟩ | exact ⟨(hBa.cell (p := ⟨ww.heap.size, _, none⟩) hlx).trans c0, (hBa.cell (p := ⟨ww.heap.size, _, none⟩) hlx).trans c1, (hBa.cell (p := ⟨ww.heap.size, _, none⟩) hlx).trans c2, (hBa.cell (p := ⟨ww.heap.size, _, none⟩) hlx).trans c3, (hBa.cell (p := ⟨tb, _, none⟩) htl).trans d0, (hBa.cell (p := ⟨tb, _, none⟩) htl).trans d1, (hBa.cell (p := ⟨tb, _, none⟩) htl).trans d2, (hBa.cell (p := ⟨tb, _, none⟩) htl).trans d3⟩ | go_keep) ((go_at_call 40; refine (HNx.out _).mono ?_; rintro e wa ⟨rfl, hBa⟩))
        all_goals go_wp2_with fail
        all_goals go_meet
        all_goals exact ⟨rfl, (Below.refl _ _).drew.trans (hBa.mono (Nat.le_refl _))⟩
      case rest =>
      obtain ⟨rfl, hbd⟩ := hcut
      have HO2 := Lib.hid (own_below HO.out hbd (Nat.le_refl _))
      have HB2 := Lib.hid (HB.out.trans (hbd.mono HB.out.size))
      have htl2 : tb < wc.heap.size := Nat.lt_of_lt_of_le htl hbd.size
      replace d0 := (hbd.cell (p := ⟨tb, _, none⟩) htl).trans d0
      replace d1 := (hbd.cell (p := ⟨tb, _, none⟩) htl).trans d1
      replace d2 := (hbd.cell (p := ⟨tb, _, none⟩) htl).trans d2
      replace d3 := (hbd.cell (p := ⟨tb, _, none⟩) htl).trans d3
      clear hbd HO HB c0 c1 c2 c3
      cases I
      · have HS := Lib.hid (HN0.out HIx.out)
        go_wp2_with fail
        go_roundw
        case rel => exact ⟨k + 1, by omega, by go_num, by rw [HS.out]; exact HO2.out, HB2.out⟩
        case measure => simp [intOf]; omega
      · have HS := Lib.hid (HY.out HIx.out)
        obtain ⟨va, vc, rfl⟩ := own_slice HO2.out
        have hal2 : Below wc.heap.size wc (wc.alloc (.cells (lV x) 23)) := (Below.refl _ _).alloc (Nat.le_refl _) _
        have HO3 := Lib.hid (own_below HO2.out hal2 (Nat.le_refl _))
        have HB3 := Lib.hid (HB2.out.trans (hal2.mono HB2.out.size))
        have HC := Lib.hid (cells_newL wc x)
        unfold lV at HO3 HB3 HC
        clear hal2 HO2 HB2
        go_wp2_with (at_builtin; (refine wpList_append_own _ rfl (.tmp 19) (.tmp 24) 24 rfl w1.heap.size 23 i0 (.agg #[.int .i64 0, .int .i64 0, .int .i64 0, .int .i64 0]) 4 32 Tryz.underlying24 hI hz0 hz1 hz2 rfl (by decide) (.slice va LS.length vc) LS.length (lc LS) rfl HO3.out ⟨wc.heap.size, 0, none⟩ 1 1 (lc [x]) rfl ?c1 ?c2 ?c3 ?c4 ?c5 ?c6 ?_))
        case c1 => rfl
        case c2 => first | exact HC.out | exact fun j u h => h
        case c3 => exact lc_one _
        case c4 => simp [maxLen]; omega
        case c5 => omega
        case c6 => first | exact HB3.out.size | (have h9 := HB3.out.size; simp at h9; omega)
        intro v' w5 hown hgrow _
        have HB5 := Lib.hid (HB3.out.grown hgrow HB3.out.size (by rintro k hk; exact (HO3.out.lt k hk).1))
        have HO5 := Lib.hid (lines_snoc hown)
        clear hown hgrow
        go_wp2_with fail
        go_roundw
        case rel => exact ⟨k + 1, by omega, by go_num, by rw [HS.out, List.length_append]; exact HO5.out, HB5.out⟩
        case measure => simp [intOf]; omega
    · have HE := Lib.hid (filter_done (f := f) hlt)
      have hlt1 : decide ((k : Int) < (T.length : Int)) = false := decide_eq_false (by omega)
      rw [HE.out] at HO
      obtain ⟨va, vc, rfl⟩ := own_slice HO.out
      have HO := Lib.hid (own_mono HO.out HB0.out.size)
      have HB := Lib.hid (HB0.out.trans (HB.out.mono HB0.out.size))
      go_wp2_with fail
      go_ret
      exact givesLines_of rfl HO.out HB.out

set_option maxRecDepth 100000 in
set_option maxHeartbeats 2000000 in
theorem rTemplates_any (l : L) (ww : World) : Calls Tryz.prog 9 #[lv l] ww (GivesLinesE (if isLn l = true then tmpl l else []) (vl l) ww) := by
  have HV := Lib.hid (fun w => rValidateLine_any l w)
  obtain ⟨W0, hW0⟩ : ∃ W, W = ww.alloc (.cells (lV l) 23) := ⟨_, rfl⟩
  have hb : Below ww.heap.size ww W0 := by rw [hW0]; exact (Below.refl _ _).alloc (Nat.le_refl _) _
  have h1 : W0.heap[ww.heap.size]? = some (.cells (lV l) 23 (0, 0)) := by rw [hW0]; exact hp_new rfl
  obtain ⟨x0, x1, x2, x3⟩ := boxL_cells h1
  have HBw := Lib.hid hb
  have HX1 := Lib.hid h1
  clear hb h1
  cases hv : isLn l
  · rw [show vl l = 1 by unfold vl; rw [hv]; rfl] at HV ⊢
    rw [if_neg (by decide)]
    unfold lv at HV ⊢
    unfold lV at hW0
    clear hv
    go_enter Tryz.func9, Tryz.ntmps9
    rw [hW0] at x0 x1 x2 x3
    go_wp2_with fail
    rw [← hW0]
    clear hW0 x0 x1 x2 x3
    refine (HV.out _).mono ?_
    rintro e w1 ⟨rfl, hB⟩
    have HB1 := Lib.hid (HBw.out.trans (hB.mono HBw.out.size))
    clear hB
    go_wp2_with fail
    go_ret2
    exact givesLinesE_nil HB1.out
  · have HT := Lib.hid (fun w => rtemplates_any l w hv)
    rw [show vl l = 0 by unfold vl; rw [hv]; rfl] at HV ⊢
    rw [if_pos rfl]
    unfold lv at HV HT ⊢
    unfold lV at hW0
    clear hv
    generalize tmpl l = T at *
    go_enter Tryz.func9, Tryz.ntmps9
    rw [hW0] at x0 x1 x2 x3
    go_wp2_with fail
    rw [← hW0]
    clear hW0 x0 x1 x2 x3
    refine (HV.out _).mono ?_
    rintro e w1 ⟨rfl, hB⟩
    have HX1 := Lib.hid (hp_below HX1.out hB (hp_lt HX1.out))
    have HB1 := Lib.hid (HBw.out.trans (hB.mono HBw.out.size))
    clear hB
    obtain ⟨x0, x1, x2, x3⟩ := boxL_cells HX1.out
    go_wp2_with fail
    refine (HT.out _).mono ?_
    rintro e w2 ⟨aq, cq, rfl, hq, hB⟩
    have HO := Lib.hid (own_mono hq HB1.out.size)
    have HB2 := Lib.hid (HB1.out.trans (hB.mono HB1.out.size))
    clear hB hq
    go_wp2_with fail
    go_ret2
    exact ⟨_, _, rfl, HO.out, HB2.out⟩

set_option maxRecDepth 100000 in
set_option maxHeartbeats 2000000 in
theorem rNear5_any (l m : L) (ww : World) : Calls Tryz.prog 11 #[lv l, lv m] ww fun e w' => e = .returned (.tuple #[.bool (nrB l m), .int .i64 (nrC l m)]) ∧ Below ww.heap.size ww w' := by
  have HV1 := Lib.hid (fun w => rValidateLine_any l w)
  have HV2 := Lib.hid (fun w => rValidateLine_any m w)
  obtain ⟨W0, hW0⟩ : ∃ W, W = (ww.alloc (.cells (lV l) 23)).alloc (.cells (lV m) 23) := ⟨_, rfl⟩
  have hb : Below ww.heap.size ww W0 := by rw [hW0]; exact ((Below.refl _ _).alloc (Nat.le_refl _) _).alloc (by simp) _
  have h1 : W0.heap[ww.heap.size]? = some (.cells (lV l) 23 (0, 0)) := by rw [hW0]; exact hp_alloc (hp_new rfl)
  have h2 : W0.heap[ww.heap.size + 1]? = some (.cells (lV m) 23 (0, 0)) := by rw [hW0]; exact hp_new (by simp)
  obtain ⟨x0, x1, x2, x3⟩ := boxL_cells h1
  obtain ⟨y0, y1, y2, y3⟩ := boxL_cells h2
  have HBw := Lib.hid hb
  have HX1 := Lib.hid h1
  have HX2 := Lib.hid h2
  clear hb h1 h2
  unfold lV at hW0
  cases hl : isLn l
  · have hvl : vl l = 1 := by unfold vl; rw [hl]; rfl
    rw [show nrB l m = false by unfold nrB; rw [hl]; rfl, show nrC l m = 1 by unfold nrC fe; rw [hvl]; rfl]
    rw [hvl] at HV1
    unfold lv at HV1 HV2 ⊢
    clear hl hvl
    go_enter Tryz.func11, Tryz.ntmps11
    rw [hW0] at x0 x1 x2 x3 y0 y1 y2 y3
    go_wp2_with fail
    rw [← hW0]
    clear hW0 x0 x1 x2 x3 y0 y1 y2 y3
    refine (HV1.out _).mono ?_
    rintro e w1 ⟨rfl, hB⟩
    have HX1 := Lib.hid (hp_below HX1.out hB (hp_lt HX1.out))
    have HX2 := Lib.hid (hp_below HX2.out hB (hp_lt HX2.out))
    have HB := Lib.hid (HBw.out.trans (hB.mono HBw.out.size))
    clear hB
    obtain ⟨x0, x1, x2, x3⟩ := boxL_cells HX1.out
    obtain ⟨y0, y1, y2, y3⟩ := boxL_cells HX2.out
    go_wp2_with fail
    go_ret2
    exact ⟨rfl, HB.out⟩
  · have hvl : vl l = 0 := by unfold vl; rw [hl]; rfl
    rw [hvl] at HV1
    cases hm : isLn m
    · have hvm : vl m = 1 := by unfold vl; rw [hm]; rfl
      rw [show nrB l m = false by unfold nrB; rw [hl, hm]; rfl, show nrC l m = 1 by unfold nrC fe; rw [hvl, hvm]; rfl]
      rw [hvm] at HV2
      unfold lv at HV1 HV2 ⊢
      clear hl hvl hm hvm
      go_enter Tryz.func11, Tryz.ntmps11
      rw [hW0] at x0 x1 x2 x3 y0 y1 y2 y3
      go_wp2_with fail
      rw [← hW0]
      clear hW0 x0 x1 x2 x3 y0 y1 y2 y3
      refine (HV1.out _).mono ?_
      rintro e w1 ⟨rfl, hB⟩
      have HX1 := Lib.hid (hp_below HX1.out hB (hp_lt HX1.out))
      have HX2 := Lib.hid (hp_below HX2.out hB (hp_lt HX2.out))
      have HB := Lib.hid (HBw.out.trans (hB.mono HBw.out.size))
      clear hB
      obtain ⟨x0, x1, x2, x3⟩ := boxL_cells HX1.out
      obtain ⟨y0, y1, y2, y3⟩ := boxL_cells HX2.out
      go_wp2_with fail
      refine (HV2.out _).mono ?_
      rintro e w2 ⟨rfl, hB⟩
      have HX1 := Lib.hid (hp_below HX1.out hB (hp_lt HX1.out))
      have HX2 := Lib.hid (hp_below HX2.out hB (hp_lt HX2.out))
      have HB := Lib.hid (HB.out.trans (hB.mono HB.out.size))
      clear hB x0 x1 x2 x3 y0 y1 y2 y3
      obtain ⟨x0, x1, x2, x3⟩ := boxL_cells HX1.out
      obtain ⟨y0, y1, y2, y3⟩ := boxL_cells HX2.out
      go_wp2_with fail
      go_ret2
      exact ⟨rfl, HB.out⟩
    · have hvm : vl m = 0 := by unfold vl; rw [hm]; rfl
      rw [show nrB l m = nearB l m by unfold nrB; rw [hl, hm]; rfl, show nrC l m = 0 by unfold nrC fe; rw [hvl, hvm]; rfl]
      rw [hvm] at HV2
      have HN := Lib.hid (fun w => rnear_any l m w hl hm)
      generalize nearB l m = r at *
      unfold lv at HV1 HV2 HN ⊢
      clear hl hvl hm hvm
      go_enter Tryz.func11, Tryz.ntmps11
      rw [hW0] at x0 x1 x2 x3 y0 y1 y2 y3
      go_wp2_with fail
      rw [← hW0]
      clear hW0 x0 x1 x2 x3 y0 y1 y2 y3
      refine (HV1.out _).mono ?_
      rintro e w1 ⟨rfl, hB⟩
      have HX1 := Lib.hid (hp_below HX1.out hB (hp_lt HX1.out))
      have HX2 := Lib.hid (hp_below HX2.out hB (hp_lt HX2.out))
      have HB := Lib.hid (HBw.out.trans (hB.mono HBw.out.size))
      clear hB
      obtain ⟨x0, x1, x2, x3⟩ := boxL_cells HX1.out
      obtain ⟨y0, y1, y2, y3⟩ := boxL_cells HX2.out
      go_wp2_with fail
      refine (HV2.out _).mono ?_
      rintro e w2 ⟨rfl, hB⟩
      have HX1 := Lib.hid (hp_below HX1.out hB (hp_lt HX1.out))
      have HX2 := Lib.hid (hp_below HX2.out hB (hp_lt HX2.out))
      have HB := Lib.hid (HB.out.trans (hB.mono HB.out.size))
      clear hB x0 x1 x2 x3 y0 y1 y2 y3
      obtain ⟨x0, x1, x2, x3⟩ := boxL_cells HX1.out
      obtain ⟨y0, y1, y2, y3⟩ := boxL_cells HX2.out
      go_wp2_with fail
      refine (HN.out _).mono ?_
      rintro e w3 ⟨rfl, hB⟩
      have HB := Lib.hid (HB.out.trans (hB.mono HB.out.size))
      clear hB
      go_wp2_with fail
      go_ret2
      exact ⟨rfl, HB.out⟩

end Go.Proofs.YtjciojoeifekeaaGreat
