/- Before of span: contract. -/
import Derived.Test.YtmpghapfldjfeaaSpL
set_option linter.unusedVariables false
set_option linter.unusedSimpArgs false
namespace Go.Proofs.Ytmpghapfldjfeaa
open Go.RowKit Tinker

/-- The code of Before, and what it answers. -/
def bfC (ps : List L) (b : List Rg) (n : Int) : Int := if fe (vp ps) (vb b) = 0 then (if btw n 0 ((ps.length : Int) - 1) = true then 0 else 4) else fe (vp ps) (vb b)
def bfX (ps : List L) (b : List Rg) (n : Int) : Option (List Rg) := if bfC ps b n = 0 then (spL ps b).getD n.toNat none else none

set_option maxRecDepth 100000 in
set_option maxHeartbeats 2000000 in
theorem sBefore_any (a a2 : Option Addr) (ca c2 : Nat) (ps : List L) (b : List Rg) (n : Int) (w : World) (hp : LinesAt w a ps) (hb : RangesAt w a2 b) (hm : ps.length ≤ 1000) :
    Calls Try.prog 41 #[.slice a ps.length ca, .slice a2 b.length c2, .int .i64 n] w (GivesRgB ((bfX ps b n).getD []) (bfX ps b n).isSome (bfC ps b n) w) := by
  have HV := Lib.hid (fun w h1 h2 => sValidateSpans_any a a2 ca c2 ps b w h1 h2)
  have HP := Lib.hid hp
  have HR := Lib.hid hb
  by_cases hz : fe (vp ps) (vb b) = 0
  · obtain ⟨z1, z2⟩ := fe_zero hz
    have hok := vb_ok z2
    have h4 := hok.l4
    have hvl := (vp_ok z1).2
    have HBO := Lib.hid (fun w hb => boxOf_any a2 c2 b w hb h4)
    have HF := Lib.hid (fun w hp => sfollow_any a ca ps b w hp z1 hok)
    rw [hz, h4] at HV
    cases hbt : btw n 0 ((ps.length : Int) - 1)
    · have HBT := Lib.hid hbt
      have hc : bfC ps b n = 4 := by unfold bfC; rw [if_pos hz, hbt]; rfl
      have hxx : bfX ps b n = none := by unfold bfX; rw [hc]; rfl
      rw [hc, hxx, h4]
      clear hz z1 z2 hok h4 hvl hb hp hbt hc hxx HBO HF
      go_enter Try.func41, Try.ntmps41
      go_wp2_with fail
      refine (HV.out _ HP.out HR.out).mono ?_
      rintro e w1 ⟨rfl, hB⟩
      have HB := Lib.hid hB
      clear hB
      go_wp2_with fail
      refine (isBetween_any _ _ _ _).mono ?_
      rintro e w0 ⟨rfl, rfl⟩
      rw [HBT.out]
      go_wp2_with fail
      go_ret3
      exact givesRgB_nil HB.out
    · have HBT := Lib.hid hbt
      have hbb := btw_true.1 hbt
      obtain ⟨k, rfl⟩ : ∃ k : Nat, n = (k : Int) := ⟨n.toNat, by omega⟩
      have hc : bfC ps b k = 0 := by unfold bfC; rw [if_pos hz, hbt]; rfl
      have hxx : bfX ps b k = (spL ps b).getD k none := by unfold bfX; rw [hc]; rfl
      rw [hc, hxx, h4]
      have HL4 := Lib.hid (L4_of (okSt_at hvl hok ps.length))
      have HLN := Lib.hid (spAt_len ps b ps.length)
      replace HL4 : Hid (L4 (spL ps b)) := HL4
      replace HLN : Hid ((spL ps b).length = ps.length + 1) := HLN
      have hlt : k < ps.length := by omega
      have hk1 : (k : Int) < (ps.length : Int) + 1 := by omega
      have HLX := Lib.hid (fun y (h : (spL ps b).getD k none = some y) => HL4.out k y h)
      generalize spL ps b = S at *
      clear hz z1 z2 hok h4 hvl hb hp hbt hc hxx
      cases hx : S.getD k none with
      | none =>
        go_enter Try.func41, Try.ntmps41
        go_wp2_with fail
        refine (HV.out _ HP.out HR.out).mono ?_
        rintro e w1 ⟨rfl, hB⟩
        have HB := Lib.hid hB
        clear hB
        go_wp2_with fail
        refine (isBetween_any _ _ _ _).mono ?_
        rintro e w0 ⟨rfl, rfl⟩
        rw [HBT.out]
        go_wp2_with fail
        refine (HBO.out _ (HR.out.below HB.out (Nat.le_refl _))).mono ?_
        rintro e w2 ⟨rfl, hB⟩
        have HB := Lib.hid (HB.out.trans (hB.mono HB.out.size))
        clear hB
        go_wp2_with fail
        refine (HF.out _ (HP.out.below HB.out (Nat.le_refl _))).mono ?_
        rintro e w3 ⟨g, rfl, hg, hgw, hB⟩
        have HB := Lib.hid (HB.out.trans (hB.mono HB.out.size))
        clear hB hgw
        have z0 : w3.cell? ⟨g, k * 9, none⟩ = some (.bool false) := hp_cell hg (sc_get (j := k) (i := 0) (v := .bool false) HL4.out (by rw [HLN.out]; omega) (by rw [hx]; rfl))
        have z1 : w3.cell? ⟨g, k * 9 + 1, none⟩ = some (.int .i64 0) := hp_cell hg (sc_get (j := k) (i := 1) (v := .int .i64 0) HL4.out (by rw [HLN.out]; omega) (by rw [hx]; rfl))
        have z2 : w3.cell? ⟨g, k * 9 + 2, none⟩ = some (.int .i64 0) := hp_cell hg (sc_get (j := k) (i := 2) (v := .int .i64 0) HL4.out (by rw [HLN.out]; omega) (by rw [hx]; rfl))
        have z3 : w3.cell? ⟨g, k * 9 + 3, none⟩ = some (.int .i64 0) := hp_cell hg (sc_get (j := k) (i := 3) (v := .int .i64 0) HL4.out (by rw [HLN.out]; omega) (by rw [hx]; rfl))
        have z4 : w3.cell? ⟨g, k * 9 + 4, none⟩ = some (.int .i64 0) := hp_cell hg (sc_get (j := k) (i := 4) (v := .int .i64 0) HL4.out (by rw [HLN.out]; omega) (by rw [hx]; rfl))
        have z5 : w3.cell? ⟨g, k * 9 + 5, none⟩ = some (.int .i64 0) := hp_cell hg (sc_get (j := k) (i := 5) (v := .int .i64 0) HL4.out (by rw [HLN.out]; omega) (by rw [hx]; rfl))
        have z6 : w3.cell? ⟨g, k * 9 + 6, none⟩ = some (.int .i64 0) := hp_cell hg (sc_get (j := k) (i := 6) (v := .int .i64 0) HL4.out (by rw [HLN.out]; omega) (by rw [hx]; rfl))
        have z7 : w3.cell? ⟨g, k * 9 + 7, none⟩ = some (.int .i64 0) := hp_cell hg (sc_get (j := k) (i := 7) (v := .int .i64 0) HL4.out (by rw [HLN.out]; omega) (by rw [hx]; rfl))
        have z8 : w3.cell? ⟨g, k * 9 + 8, none⟩ = some (.int .i64 0) := hp_cell hg (sc_get (j := k) (i := 8) (v := .int .i64 0) HL4.out (by rw [HLN.out]; omega) (by rw [hx]; rfl))
        clear hg hx
        go_wp2_with fail
        go_ret3
        exact givesRgB_nil (HB.out.alloc HB.out.size _)
      | some y =>
        have hy4 := HLX.out y hx
        have HG := Lib.hid (fun w => boxRanges_any y w hy4)
        obtain ⟨y0, y1, y2, y3, rfl⟩ := rg_list4 hy4
        rw [bx_4] at HG
        go_enter Try.func41, Try.ntmps41
        go_wp2_with fail
        refine (HV.out _ HP.out HR.out).mono ?_
        rintro e w1 ⟨rfl, hB⟩
        have HB := Lib.hid hB
        clear hB
        go_wp2_with fail
        refine (isBetween_any _ _ _ _).mono ?_
        rintro e w0 ⟨rfl, rfl⟩
        rw [HBT.out]
        go_wp2_with fail
        refine (HBO.out _ (HR.out.below HB.out (Nat.le_refl _))).mono ?_
        rintro e w2 ⟨rfl, hB⟩
        have HB := Lib.hid (HB.out.trans (hB.mono HB.out.size))
        clear hB
        go_wp2_with fail
        refine (HF.out _ (HP.out.below HB.out (Nat.le_refl _))).mono ?_
        rintro e w3 ⟨g, rfl, hg, hgw, hB⟩
        have HB := Lib.hid (HB.out.trans (hB.mono HB.out.size))
        clear hB hgw
        have z0 : w3.cell? ⟨g, k * 9, none⟩ = some (.bool true) := hp_cell hg (sc_get (j := k) (i := 0) (v := .bool true) HL4.out (by rw [HLN.out]; omega) (by rw [hx]; rfl))
        have z1 : w3.cell? ⟨g, k * 9 + 1, none⟩ = some (.int .i64 y0.lo) := hp_cell hg (sc_get (j := k) (i := 1) (v := .int .i64 y0.lo) HL4.out (by rw [HLN.out]; omega) (by rw [hx]; rfl))
        have z2 : w3.cell? ⟨g, k * 9 + 2, none⟩ = some (.int .i64 y0.hi) := hp_cell hg (sc_get (j := k) (i := 2) (v := .int .i64 y0.hi) HL4.out (by rw [HLN.out]; omega) (by rw [hx]; rfl))
        have z3 : w3.cell? ⟨g, k * 9 + 3, none⟩ = some (.int .i64 y1.lo) := hp_cell hg (sc_get (j := k) (i := 3) (v := .int .i64 y1.lo) HL4.out (by rw [HLN.out]; omega) (by rw [hx]; rfl))
        have z4 : w3.cell? ⟨g, k * 9 + 4, none⟩ = some (.int .i64 y1.hi) := hp_cell hg (sc_get (j := k) (i := 4) (v := .int .i64 y1.hi) HL4.out (by rw [HLN.out]; omega) (by rw [hx]; rfl))
        have z5 : w3.cell? ⟨g, k * 9 + 5, none⟩ = some (.int .i64 y2.lo) := hp_cell hg (sc_get (j := k) (i := 5) (v := .int .i64 y2.lo) HL4.out (by rw [HLN.out]; omega) (by rw [hx]; rfl))
        have z6 : w3.cell? ⟨g, k * 9 + 6, none⟩ = some (.int .i64 y2.hi) := hp_cell hg (sc_get (j := k) (i := 6) (v := .int .i64 y2.hi) HL4.out (by rw [HLN.out]; omega) (by rw [hx]; rfl))
        have z7 : w3.cell? ⟨g, k * 9 + 7, none⟩ = some (.int .i64 y3.lo) := hp_cell hg (sc_get (j := k) (i := 7) (v := .int .i64 y3.lo) HL4.out (by rw [HLN.out]; omega) (by rw [hx]; rfl))
        have z8 : w3.cell? ⟨g, k * 9 + 8, none⟩ = some (.int .i64 y3.hi) := hp_cell hg (sc_get (j := k) (i := 8) (v := .int .i64 y3.hi) HL4.out (by rw [HLN.out]; omega) (by rw [hx]; rfl))
        clear hg hx
        go_wp2_with fail
        refine (HG.out _).mono ?_
        intro e w6 hG
        obtain ⟨a', c', rfl, hown, hB8⟩ := hG.wide (HB.out.alloc HB.out.size _)
        have HO := Lib.hid hown
        clear hown hG
        go_wp2_with fail
        go_ret3
        exact ⟨a', c', rfl, HO.out, hB8⟩
  · have hc : bfC ps b n = fe (vp ps) (vb b) := by unfold bfC; rw [if_neg hz]
    have hxx : bfX ps b n = none := by unfold bfX; rw [if_neg (by rw [hc]; exact hz)]
    rw [hc, hxx]
    have hz1 : (fe (vp ps) (vb b) != 0) = true := by simpa using hz
    have hz2 : (fe (vp ps) (vb b) == 0) = false := by simpa using hz
    generalize fe (vp ps) (vb b) = c at *
    clear hz hb hp hc hxx
    go_enter Try.func41, Try.ntmps41
    go_wp2_with fail
    refine (HV.out _ HP.out HR.out).mono ?_
    rintro e w1 ⟨rfl, hB⟩
    have HB := Lib.hid hB
    clear hB
    go_wp2_with fail
    go_ret3
    exact givesRgB_nil HB.out

end Go.Proofs.Ytmpghapfldjfeaa
