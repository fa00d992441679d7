/- Several texts in one. -/
import Derived.Test.YtmpgaccpdglhkaaSpH
import Derived.Test.YtmpgaccpdglhkaaSpJ
/- end, After of span: contracts. -/
set_option linter.unusedVariables false
set_option linter.unusedSimpArgs false
namespace Go.Proofs.Ytmpgaccpdglhkaa
open Go.RowKit Tinker

set_option maxRecDepth 100000 in
set_option maxHeartbeats 2000000 in
theorem send_any (a : Option Addr) (ca : Nat) (ps : List L) (b : List Rg) (w : World) (hp : LinesAt w a ps) (hv : vp ps = 0) (hb : OkB b) :
    Calls Try.prog 41 #[.slice a ps.length ca, bx b] w fun e w' => e = .returned (bx (endB ps b)) ∧ Below w.heap.size w w' := by
  obtain ⟨h8, hvl⟩ := vp_ok hv
  have hend := end_some hvl hb
  have hok := end_ok hvl hb
  have HF := Lib.hid (fun w hp => sfollow_any a ca ps b w hp hv hb)
  have HL4 := Lib.hid (L4_of (okSt_at hvl hb ps.length))
  have HLN := Lib.hid (spAt_len ps b ps.length)
  replace HL4 : Hid (L4 (spL ps b)) := HL4
  replace HLN : Hid ((spL ps b).length = ps.length + 1) := HLN
  have HE := Lib.hid hend
  have HP := Lib.hid hp
  have k4 := hok.l4
  have h4 := hb.l4
  generalize endB ps b = y at *
  obtain ⟨y0, y1, y2, y3, rfl⟩ := rg_list4 k4
  obtain ⟨x0, x1, x2, x3, rfl⟩ := rg_list4 h4
  rw [bx_4] at HF ⊢
  rw [bx_4]
  clear hv hvl hp hb hend hok k4 h4
  go_enter Try.func41, Try.ntmps41
  go_wp2_with fail
  have HR := Lib.hid (hp_new (w := w.alloc (.cells #[.int .i64 x0.lo, .int .i64 x0.hi, .int .i64 x1.lo, .int .i64 x1.hi, .int .i64 x2.lo, .int .i64 x2.hi, .int .i64 x3.lo, .int .i64 x3.hi] 69 (0, 0))) (o := .cells #[.int .i64 0, .int .i64 0, .int .i64 0, .int .i64 0, .int .i64 0, .int .i64 0, .int .i64 0, .int .i64 0] 69 (0, 0)) (i := w.heap.size + 1) (by simp))
  have HB0 := Lib.hid (((Below.refl w.heap.size w).alloc (Nat.le_refl _) (.cells #[.int .i64 x0.lo, .int .i64 x0.hi, .int .i64 x1.lo, .int .i64 x1.hi, .int .i64 x2.lo, .int .i64 x2.hi, .int .i64 x3.lo, .int .i64 x3.hi] 69 (0, 0))).alloc (by simp) (.cells #[.int .i64 0, .int .i64 0, .int .i64 0, .int .i64 0, .int .i64 0, .int .i64 0, .int .i64 0, .int .i64 0] 69 (0, 0)))
  refine (HF.out _ (HP.out.below HB0.out (Nat.le_refl _))).mono ?_
  rintro e w1 ⟨g, rfl, hg, hgw, hB⟩
  have HR1 := Lib.hid (hp_below HR.out hB (hp_lt HR.out))
  have HB1 := Lib.hid (HB0.out.trans (hB.mono HB0.out.size))
  have z0 : w1.cell? ⟨g, ps.length * 9 + 1, none⟩ = some (.int .i64 y0.lo) := hp_cell hg (sc_get (j := ps.length) (i := 1) (v := .int .i64 y0.lo) HL4.out (by rw [HLN.out]; omega) (by rw [HE.out]; rfl))
  have z1 : w1.cell? ⟨g, ps.length * 9 + 2, none⟩ = some (.int .i64 y0.hi) := hp_cell hg (sc_get (j := ps.length) (i := 2) (v := .int .i64 y0.hi) HL4.out (by rw [HLN.out]; omega) (by rw [HE.out]; rfl))
  have z2 : w1.cell? ⟨g, ps.length * 9 + 3, none⟩ = some (.int .i64 y1.lo) := hp_cell hg (sc_get (j := ps.length) (i := 3) (v := .int .i64 y1.lo) HL4.out (by rw [HLN.out]; omega) (by rw [HE.out]; rfl))
  have z3 : w1.cell? ⟨g, ps.length * 9 + 4, none⟩ = some (.int .i64 y1.hi) := hp_cell hg (sc_get (j := ps.length) (i := 4) (v := .int .i64 y1.hi) HL4.out (by rw [HLN.out]; omega) (by rw [HE.out]; rfl))
  have z4 : w1.cell? ⟨g, ps.length * 9 + 5, none⟩ = some (.int .i64 y2.lo) := hp_cell hg (sc_get (j := ps.length) (i := 5) (v := .int .i64 y2.lo) HL4.out (by rw [HLN.out]; omega) (by rw [HE.out]; rfl))
  have z5 : w1.cell? ⟨g, ps.length * 9 + 6, none⟩ = some (.int .i64 y2.hi) := hp_cell hg (sc_get (j := ps.length) (i := 6) (v := .int .i64 y2.hi) HL4.out (by rw [HLN.out]; omega) (by rw [HE.out]; rfl))
  have z6 : w1.cell? ⟨g, ps.length * 9 + 7, none⟩ = some (.int .i64 y3.lo) := hp_cell hg (sc_get (j := ps.length) (i := 7) (v := .int .i64 y3.lo) HL4.out (by rw [HLN.out]; omega) (by rw [HE.out]; rfl))
  have z7 : w1.cell? ⟨g, ps.length * 9 + 8, none⟩ = some (.int .i64 y3.hi) := hp_cell hg (sc_get (j := ps.length) (i := 8) (v := .int .i64 y3.hi) HL4.out (by rw [HLN.out]; omega) (by rw [HE.out]; rfl))
  clear hB hg HF HR HB0 hgw
  go_wp2_with (first | (refine wpList_store_row rfl 69 (.tmp 4) (.tmp 12) rfl (w.heap.size + 1) _ rfl rfl 69 _ HR1.out info_box rfl (one8 _ _ _ _ _ _ _ _) ?_))
  exact bodyPost_ret (results_cell_row (p := 4) (ty := 69) rfl _ _ (w.heap.size + 1) 69 #[.int .i64 y0.lo, .int .i64 y0.hi, .int .i64 y1.lo, .int .i64 y1.hi, .int .i64 y2.lo, .int .i64 y2.hi, .int .i64 y3.lo, .int .i64 y3.hi] (0, 0) _ (by rfl) (hp_row_same HR1.out _) Try.underlying69 rfl info_box) rfl ⟨rfl, below_setRow HB1.out (by omega) _⟩

/-- The code of After, and what it answers. -/
def afA (ps : List L) (b : List Rg) : List Rg := if fe (vp ps) (vb b) = 0 then endB ps b else []

set_option maxRecDepth 100000 in
set_option maxHeartbeats 1000000 in
theorem sValidateSpans_any (a a2 : Option Addr) (ca c2 : Nat) (ps : List L) (b : List Rg) (w : World) (hp : LinesAt w a ps) (hb : RangesAt w a2 b) :
    Calls Try.prog 40 #[.slice a ps.length ca, .slice a2 b.length c2] w fun e w' => e = .returned (.int .i64 (fe (vp ps) (vb b))) ∧ Below w.heap.size w w' := by
  have H1 := Lib.hid (fun w h => validate_any a ca ps w h)
  have H2 := Lib.hid (fun w h => sValidate_any a2 c2 b w h)
  have HP := Lib.hid hp
  have HR := Lib.hid hb
  generalize vp ps = v1 at *
  generalize vb b = v2 at *
  clear hp hb
  go_enter Try.func40, Try.ntmps40
  go_wp2_with fail
  refine (H1.out _ HP.out).mono ?_
  rintro e w1 ⟨rfl, hB⟩
  have HB0 := Lib.hid hB
  clear hB
  go_wp2_with fail
  refine (H2.out _ (HR.out.below HB0.out (Nat.le_refl _))).mono ?_
  rintro e w2 ⟨rfl, hB⟩
  have HB1 := Lib.hid (HB0.out.trans (hB.mono HB0.out.size))
  clear hB
  go_wp2_with fail
  refine (firstError_two _ _ _ _).mono ?_
  rintro e w9 ⟨rfl, hw9⟩
  have HB9 := Lib.hid (show Below w.heap.size w w9 by rw [← hw9]; exact HB1.out.alloc HB1.out.size _)
  clear hw9
  go_wp2_with fail
  go_ret
  exact ⟨rfl, HB9.out⟩

set_option maxRecDepth 100000 in
set_option maxHeartbeats 1000000 in
theorem sAfter_any (a a2 : Option Addr) (ca c2 : Nat) (ps : List L) (b : List Rg) (w : World) (hp : LinesAt w a ps) (hb : RangesAt w a2 b) :
    Calls Try.prog 11 #[.slice a ps.length ca, .slice a2 b.length c2] w (GivesRgE (afA ps b) (fe (vp ps) (vb b)) w) := by
  have HV := Lib.hid (fun w h1 h2 => sValidateSpans_any a a2 ca c2 ps b w h1 h2)
  have HP := Lib.hid hp
  have HR := Lib.hid hb
  by_cases hz : fe (vp ps) (vb b) = 0
  · obtain ⟨z1, z2⟩ := fe_zero hz
    have hok := vb_ok z2
    have h4 := hok.l4
    rw [show afA ps b = endB ps b by unfold afA; rw [if_pos hz], hz]
    have HBO := Lib.hid (fun w hb => boxOf_any a2 c2 b w hb h4)
    have HE := Lib.hid (fun w hp => send_any a ca ps b w hp z1 hok)
    have HG := Lib.hid (fun w => boxRanges_any (endB ps b) w (end_ok (vp_ok z1).2 hok).l4)
    rw [hz, h4] at HV
    rw [h4]
    generalize endB ps b = M at *
    clear hz z1 z2 hok h4 hb hp
    go_enter Try.func11, Try.ntmps11
    go_wp2_with fail
    refine (HV.out _ HP.out HR.out).mono ?_
    rintro e w1 ⟨rfl, hB⟩
    have HB0 := Lib.hid hB
    clear hB
    go_wp2_with fail
    refine (HBO.out _ (HR.out.below HB0.out (Nat.le_refl _))).mono ?_
    rintro e w2 ⟨rfl, hB⟩
    have HB1 := Lib.hid (HB0.out.trans (hB.mono HB0.out.size))
    clear hB
    go_wp2_with fail
    refine (HE.out _ (HP.out.below HB1.out (Nat.le_refl _))).mono ?_
    rintro e w3 ⟨rfl, hB⟩
    have HB2 := Lib.hid (HB1.out.trans (hB.mono HB1.out.size))
    clear hB
    go_wp2_with fail
    refine (HG.out _).mono ?_
    intro e w6 hG
    obtain ⟨a', c', rfl, hown, hB8⟩ := hG.wide HB2.out
    have HO := Lib.hid hown
    clear hown hG
    go_wp2_with fail
    go_ret2
    exact ⟨a', c', rfl, HO.out, hB8⟩
  · rw [show afA ps b = [] by unfold afA; rw [if_neg hz]]
    have hz1 : (fe (vp ps) (vb b) != 0) = true := by simpa using hz
    have hz2 : (fe (vp ps) (vb b) == 0) = false := by simpa using hz
    generalize fe (vp ps) (vb b) = c at *
    clear hz hp hb
    go_enter Try.func11, Try.ntmps11
    go_wp2_with fail
    refine (HV.out _ HP.out HR.out).mono ?_
    rintro e w1 ⟨rfl, hB⟩
    have HB0 := Lib.hid hB
    clear hB
    go_wp2_with fail
    go_ret2
    exact givesRgE_nil HB0.out

end Go.Proofs.Ytmpgaccpdglhkaa

/- Before of span: contract. -/
set_option linter.unusedVariables false
set_option linter.unusedSimpArgs false
namespace Go.Proofs.Ytmpgaccpdglhkaa
open Go.RowKit Tinker

/-- The code of Before, and what it answers. -/
def bfC (ps : List L) (b : List Rg) (n : Int) : Int := if fe (vp ps) (vb b) = 0 then (if btw n 0 ((ps.length : Int) - 1) = true then 0 else 4) else fe (vp ps) (vb b)
def bfX (ps : List L) (b : List Rg) (n : Int) : Option (List Rg) := if bfC ps b n = 0 then (spL ps b).getD n.toNat none else none

set_option maxRecDepth 100000 in
set_option maxHeartbeats 2000000 in
theorem sBefore_any (a a2 : Option Addr) (ca c2 : Nat) (ps : List L) (b : List Rg) (n : Int) (w : World) (hp : LinesAt w a ps) (hb : RangesAt w a2 b) (hm : ps.length ≤ 1000) :
    Calls Try.prog 13 #[.slice a ps.length ca, .slice a2 b.length c2, .int .i64 n] w (GivesRgB ((bfX ps b n).getD []) (bfX ps b n).isSome (bfC ps b n) w) := by
  have HV := Lib.hid (fun w h1 h2 => sValidateSpans_any a a2 ca c2 ps b w h1 h2)
  have HP := Lib.hid hp
  have HR := Lib.hid hb
  by_cases hz : fe (vp ps) (vb b) = 0
  · obtain ⟨z1, z2⟩ := fe_zero hz
    have hok := vb_ok z2
    have h4 := hok.l4
    have hvl := (vp_ok z1).2
    have HBO := Lib.hid (fun w hb => boxOf_any a2 c2 b w hb h4)
    have HF := Lib.hid (fun w hp => sfollow_any a ca ps b w hp z1 hok)
    rw [hz, h4] at HV
    cases hbt : btw n 0 ((ps.length : Int) - 1)
    · have HBT := Lib.hid hbt
      have hc : bfC ps b n = 4 := by unfold bfC; rw [if_pos hz, hbt]; rfl
      have hxx : bfX ps b n = none := by unfold bfX; rw [hc]; rfl
      rw [hc, hxx, h4]
      clear hz z1 z2 hok h4 hvl hb hp hbt hc hxx HBO HF
      go_enter Try.func13, Try.ntmps13
      go_wp2_with fail
      refine (HV.out _ HP.out HR.out).mono ?_
      rintro e w1 ⟨rfl, hB⟩
      have HB := Lib.hid hB
      clear hB
      go_wp2_with fail
      refine (isBetween_any _ _ _ _).mono ?_
      rintro e w0 ⟨rfl, rfl⟩
      rw [HBT.out]
      go_wp2_with fail
      go_ret3
      exact givesRgB_nil HB.out
    · have HBT := Lib.hid hbt
      have hbb := btw_true.1 hbt
      obtain ⟨k, rfl⟩ : ∃ k : Nat, n = (k : Int) := ⟨n.toNat, by omega⟩
      have hc : bfC ps b k = 0 := by unfold bfC; rw [if_pos hz, hbt]; rfl
      have hxx : bfX ps b k = (spL ps b).getD k none := by unfold bfX; rw [hc]; rfl
      rw [hc, hxx, h4]
      have HL4 := Lib.hid (L4_of (okSt_at hvl hok ps.length))
      have HLN := Lib.hid (spAt_len ps b ps.length)
      replace HL4 : Hid (L4 (spL ps b)) := HL4
      replace HLN : Hid ((spL ps b).length = ps.length + 1) := HLN
      have hlt : k < ps.length := by omega
      have hk1 : (k : Int) < (ps.length : Int) + 1 := by omega
      have HLX := Lib.hid (fun y (h : (spL ps b).getD k none = some y) => HL4.out k y h)
      generalize spL ps b = S at *
      clear hz z1 z2 hok h4 hvl hb hp hbt hc hxx
      cases hx : S.getD k none with
      | none =>
        go_enter Try.func13, Try.ntmps13
        go_wp2_with fail
        refine (HV.out _ HP.out HR.out).mono ?_
        rintro e w1 ⟨rfl, hB⟩
        have HB := Lib.hid hB
        clear hB
        go_wp2_with fail
        refine (isBetween_any _ _ _ _).mono ?_
        rintro e w0 ⟨rfl, rfl⟩
        rw [HBT.out]
        go_wp2_with fail
        refine (HBO.out _ (HR.out.below HB.out (Nat.le_refl _))).mono ?_
        rintro e w2 ⟨rfl, hB⟩
        have HB := Lib.hid (HB.out.trans (hB.mono HB.out.size))
        clear hB
        go_wp2_with fail
        refine (HF.out _ (HP.out.below HB.out (Nat.le_refl _))).mono ?_
        rintro e w3 ⟨g, rfl, hg, hgw, hB⟩
        have HB := Lib.hid (HB.out.trans (hB.mono HB.out.size))
        clear hB hgw
        have z0 : w3.cell? ⟨g, k * 9, none⟩ = some (.bool false) := hp_cell hg (sc_get (j := k) (i := 0) (v := .bool false) HL4.out (by rw [HLN.out]; omega) (by rw [hx]; rfl))
        have z1 : w3.cell? ⟨g, k * 9 + 1, none⟩ = some (.int .i64 0) := hp_cell hg (sc_get (j := k) (i := 1) (v := .int .i64 0) HL4.out (by rw [HLN.out]; omega) (by rw [hx]; rfl))
        have z2 : w3.cell? ⟨g, k * 9 + 2, none⟩ = some (.int .i64 0) := hp_cell hg (sc_get (j := k) (i := 2) (v := .int .i64 0) HL4.out (by rw [HLN.out]; omega) (by rw [hx]; rfl))
        have z3 : w3.cell? ⟨g, k * 9 + 3, none⟩ = some (.int .i64 0) := hp_cell hg (sc_get (j := k) (i := 3) (v := .int .i64 0) HL4.out (by rw [HLN.out]; omega) (by rw [hx]; rfl))
        have z4 : w3.cell? ⟨g, k * 9 + 4, none⟩ = some (.int .i64 0) := hp_cell hg (sc_get (j := k) (i := 4) (v := .int .i64 0) HL4.out (by rw [HLN.out]; omega) (by rw [hx]; rfl))
        have z5 : w3.cell? ⟨g, k * 9 + 5, none⟩ = some (.int .i64 0) := hp_cell hg (sc_get (j := k) (i := 5) (v := .int .i64 0) HL4.out (by rw [HLN.out]; omega) (by rw [hx]; rfl))
        have z6 : w3.cell? ⟨g, k * 9 + 6, none⟩ = some (.int .i64 0) := hp_cell hg (sc_get (j := k) (i := 6) (v := .int .i64 0) HL4.out (by rw [HLN.out]; omega) (by rw [hx]; rfl))
        have z7 : w3.cell? ⟨g, k * 9 + 7, none⟩ = some (.int .i64 0) := hp_cell hg (sc_get (j := k) (i := 7) (v := .int .i64 0) HL4.out (by rw [HLN.out]; omega) (by rw [hx]; rfl))
        have z8 : w3.cell? ⟨g, k * 9 + 8, none⟩ = some (.int .i64 0) := hp_cell hg (sc_get (j := k) (i := 8) (v := .int .i64 0) HL4.out (by rw [HLN.out]; omega) (by rw [hx]; rfl))
        clear hg hx
        go_wp2_with fail
        go_ret3
        exact givesRgB_nil (HB.out.alloc HB.out.size _)
      | some y =>
        have hy4 := HLX.out y hx
        have HG := Lib.hid (fun w => boxRanges_any y w hy4)
        obtain ⟨y0, y1, y2, y3, rfl⟩ := rg_list4 hy4
        rw [bx_4] at HG
        go_enter Try.func13, Try.ntmps13
        go_wp2_with fail
        refine (HV.out _ HP.out HR.out).mono ?_
        rintro e w1 ⟨rfl, hB⟩
        have HB := Lib.hid hB
        clear hB
        go_wp2_with fail
        refine (isBetween_any _ _ _ _).mono ?_
        rintro e w0 ⟨rfl, rfl⟩
        rw [HBT.out]
        go_wp2_with fail
        refine (HBO.out _ (HR.out.below HB.out (Nat.le_refl _))).mono ?_
        rintro e w2 ⟨rfl, hB⟩
        have HB := Lib.hid (HB.out.trans (hB.mono HB.out.size))
        clear hB
        go_wp2_with fail
        refine (HF.out _ (HP.out.below HB.out (Nat.le_refl _))).mono ?_
        rintro e w3 ⟨g, rfl, hg, hgw, hB⟩
        have HB := Lib.hid (HB.out.trans (hB.mono HB.out.size))
        clear hB hgw
        have z0 : w3.cell? ⟨g, k * 9, none⟩ = some (.bool true) := hp_cell hg (sc_get (j := k) (i := 0) (v := .bool true) HL4.out (by rw [HLN.out]; omega) (by rw [hx]; rfl))
        have z1 : w3.cell? ⟨g, k * 9 + 1, none⟩ = some (.int .i64 y0.lo) := hp_cell hg (sc_get (j := k) (i := 1) (v := .int .i64 y0.lo) HL4.out (by rw [HLN.out]; omega) (by rw [hx]; rfl))
        have z2 : w3.cell? ⟨g, k * 9 + 2, none⟩ = some (.int .i64 y0.hi) := hp_cell hg (sc_get (j := k) (i := 2) (v := .int .i64 y0.hi) HL4.out (by rw [HLN.out]; omega) (by rw [hx]; rfl))
        have z3 : w3.cell? ⟨g, k * 9 + 3, none⟩ = some (.int .i64 y1.lo) := hp_cell hg (sc_get (j := k) (i := 3) (v := .int .i64 y1.lo) HL4.out (by rw [HLN.out]; omega) (by rw [hx]; rfl))
        have z4 : w3.cell? ⟨g, k * 9 + 4, none⟩ = some (.int .i64 y1.hi) := hp_cell hg (sc_get (j := k) (i := 4) (v := .int .i64 y1.hi) HL4.out (by rw [HLN.out]; omega) (by rw [hx]; rfl))
        have z5 : w3.cell? ⟨g, k * 9 + 5, none⟩ = some (.int .i64 y2.lo) := hp_cell hg (sc_get (j := k) (i := 5) (v := .int .i64 y2.lo) HL4.out (by rw [HLN.out]; omega) (by rw [hx]; rfl))
        have z6 : w3.cell? ⟨g, k * 9 + 6, none⟩ = some (.int .i64 y2.hi) := hp_cell hg (sc_get (j := k) (i := 6) (v := .int .i64 y2.hi) HL4.out (by rw [HLN.out]; omega) (by rw [hx]; rfl))
        have z7 : w3.cell? ⟨g, k * 9 + 7, none⟩ = some (.int .i64 y3.lo) := hp_cell hg (sc_get (j := k) (i := 7) (v := .int .i64 y3.lo) HL4.out (by rw [HLN.out]; omega) (by rw [hx]; rfl))
        have z8 : w3.cell? ⟨g, k * 9 + 8, none⟩ = some (.int .i64 y3.hi) := hp_cell hg (sc_get (j := k) (i := 8) (v := .int .i64 y3.hi) HL4.out (by rw [HLN.out]; omega) (by rw [hx]; rfl))
        clear hg hx
        go_wp2_with fail
        refine (HG.out _).mono ?_
        intro e w6 hG
        obtain ⟨a', c', rfl, hown, hB8⟩ := hG.wide (HB.out.alloc HB.out.size _)
        have HO := Lib.hid hown
        clear hown hG
        go_wp2_with fail
        go_ret3
        exact ⟨a', c', rfl, HO.out, hB8⟩
  · have hc : bfC ps b n = fe (vp ps) (vb b) := by unfold bfC; rw [if_neg hz]
    have hxx : bfX ps b n = none := by unfold bfX; rw [if_neg (by rw [hc]; exact hz)]
    rw [hc, hxx]
    have hz1 : (fe (vp ps) (vb b) != 0) = true := by simpa using hz
    have hz2 : (fe (vp ps) (vb b) == 0) = false := by simpa using hz
    generalize fe (vp ps) (vb b) = c at *
    clear hz hb hp hc hxx
    go_enter Try.func13, Try.ntmps13
    go_wp2_with fail
    refine (HV.out _ HP.out HR.out).mono ?_
    rintro e w1 ⟨rfl, hB⟩
    have HB := Lib.hid hB
    clear hB
    go_wp2_with fail
    go_ret3
    exact givesRgB_nil HB.out

end Go.Proofs.Ytmpgaccpdglhkaa
