/- linesThat, Reached, Dead of span: contracts. -/
import Derived.Test.YtmpgaccpdglhkaaSpN
import Derived.Test.YtmpgaccpdglhkaaRcA
import Derived.Test.YtmpgaccpdglhkaaRSl
set_option linter.unusedVariables false
set_option linter.unusedSimpArgs false
namespace Go.Proofs.Ytmpgaccpdglhkaa
open Go.RowKit Tinker

theorem set_toG {α : Type} {l : List α} {z v : α} {k m : Nat} (h : l[k]? = some v) (hm : l.length = m) : (l.take k ++ List.replicate (m - k) z).set k v = l.take (k + 1) ++ List.replicate (m - (k + 1)) z := by
  have hk : k < l.length := (List.getElem?_eq_some_iff.1 h).1
  rw [show m - k = (m - (k + 1)) + 1 by omega, List.replicate_succ, List.set_append_right _ _ (by rw [List.length_take]; omega), List.length_take, show k - min k l.length = 0 by omega, List.set_cons_zero, take_snoc h, List.append_assoc]
  rfl
theorem bools_atG {W : World} {g : Nat} {bs : List Bool} {t : TypeId} (h : W.heap[g]? = some (.cells (bv bs) t (0, 0))) : BoolsAt W g 0 bs := fun j n hj => by
  rw [Nat.zero_add]
  have hj' := (List.getElem?_eq_some_iff.1 hj).1
  have := hp_cell h (bv_get bs j hj')
  rw [getD_of_get hj] at this
  exact this
/-- Which lines are reached, or not, as bools. -/
def hsR (S : List (Option (List Rg))) (r : Bool) (n : Nat) : List Bool := (List.range n).map fun i => (S.getD i none).isSome == r
theorem hsR_len (S : List (Option (List Rg))) (r : Bool) (n : Nat) : (hsR S r n).length = n := by simp [hsR]
theorem hsR_get {S : List (Option (List Rg))} {r : Bool} {n k : Nat} (h : k < n) : (hsR S r n)[k]? = some ((S.getD k none).isSome == r) := by
  unfold hsR; rw [List.getElem?_map, List.getElem?_range h]; rfl
theorem plc_hsR (ps : List L) (b : List Rg) (r : Bool) (n : Nat) : ∀ k, k ≤ n → plcTo (hsR (spL ps b) r n) k = rcL ps b r k
  | 0, _ => rfl
  | k + 1, hk => by
    have hg := hsR_get (S := spL ps b) (r := r) (show k < n by omega)
    rw [rcL_succ]
    cases hq : (((spL ps b).getD k none).isSome == r)
    · rw [hq] at hg
      rw [plcTo_no hg, if_neg (by simp)]
      exact plc_hsR ps b r n k (by omega)
    · rw [hq] at hg
      rw [plcTo_yes hg, if_pos rfl, plc_hsR ps b r n k (by omega)]

set_option maxRecDepth 100000 in
set_option maxHeartbeats 4000000 in
theorem slinesThat_any (a a2 : Option Addr) (ca c2 : Nat) (ps : List L) (b : List Rg) (r : Bool) (w : World) (hp : LinesAt w a ps) (hb : RangesAt w a2 b) :
    Calls Try.prog 51 #[.slice a ps.length ca, .slice a2 b.length c2, .bool r] w (GivesIntsE (rcA ps b r) (fe (vp ps) (vb b)) w) := by
  have HV := Lib.hid (fun w h1 h2 => sValidateSpans_any a a2 ca c2 ps b w h1 h2)
  have HP := Lib.hid hp
  have HR := Lib.hid hb
  by_cases hz : fe (vp ps) (vb b) = 0
  · obtain ⟨z1, z2⟩ := fe_zero hz
    have hok := vb_ok z2
    have h4 := hok.l4
    have hvl := (vp_ok z1).2
    have h8 := (vp_ok z1).1
    have HBO := Lib.hid (fun w hb => boxOf_any a2 c2 b w hb h4)
    have HF := Lib.hid (fun w hp => sfollow_any a ca ps b w hp z1 hok)
    have hpl : plc (hsR (spL ps b) r ps.length) = rcL ps b r ps.length := by
      have := plc_hsR ps b r ps.length ps.length (Nat.le_refl _)
      unfold plc; rw [hsR_len]; exact this
    rw [show rcA ps b r = plc (hsR (spL ps b) r ps.length) by unfold rcA; rw [if_pos hz, hpl], hz]
    have HL4 := Lib.hid (L4_of (okSt_at hvl hok ps.length))
    have HLN := Lib.hid (spAt_len ps b ps.length)
    replace HL4 : Hid (L4 (spL ps b)) := HL4
    replace HLN : Hid ((spL ps b).length = ps.length + 1) := HLN
    have HLX := Lib.hid (fun k y (h : (spL ps b).getD k none = some y) => HL4.out k y h)
    have hmk := mkBools ps.length h8
    rw [hz, h4] at HV
    rw [h4]
    generalize spL ps b = S at *
    have HHL := Lib.hid (hsR_len S r ps.length)
    have hs1 : (0 : Int) ≤ (ps.length : Int) := by omega
    have hs2 : (ps.length : Int) ≤ (ps.length : Int) + 1 := by omega
    clear hz z1 z2 hok h4 hvl hb hp hpl
    go_enter Try.func51, Try.ntmps51
    go_wp2_with fail
    refine (HV.out _ HP.out HR.out).mono ?_
    rintro e w1 ⟨rfl, hB⟩
    have HB := Lib.hid hB
    clear hB
    go_wp2_with fail
    have HG0 := Lib.hid (hp_new (w := w1) (o := .cells (bv (List.replicate ps.length false)) 4 (0, 0)) rfl)
    have HBA := Lib.hid (HB.out.alloc HB.out.size (.cells (bv (List.replicate ps.length false)) 4 (0, 0)))
    have HBA1 := Lib.hid ((Below.refl w1.heap.size w1).alloc (Nat.le_refl _) (.cells (bv (List.replicate ps.length false)) 4 (0, 0)))
    refine (HBO.out _ (HR.out.below HBA.out (Nat.le_refl _))).mono ?_
    rintro e w2 ⟨rfl, hB⟩
    have HG1 := Lib.hid (hp_below HG0.out hB (hp_lt HG0.out))
    have HB2 := Lib.hid (HBA.out.trans (hB.mono HBA.out.size))
    have HB12 := Lib.hid (HBA1.out.trans (hB.mono HBA1.out.size))
    clear hB HG0 HBA HBA1
    go_wp2_with fail
    refine (HF.out _ (HP.out.below HB2.out (Nat.le_refl _))).mono ?_
    rintro e w3 ⟨g, rfl, hg, hgw, hB⟩
    have HG2 := Lib.hid (hp_below HG1.out hB (hp_lt HG1.out))
    have HGS := Lib.hid hg
    have HB3 := Lib.hid (HB12.out.trans (hB.mono HB12.out.size))
    have hgne : g ≠ w1.heap.size := by have := hp_lt HG1.out; omega
    clear hB hg hgw HG1 HB12 HB2
    go_wp2_with fail
    go_loopw [29] (fun s29 wr => ∃ k : Nat, k ≤ ps.length ∧ s29 = .int .i64 (k : Int) ∧ wr.heap[w1.heap.size]? = some (.cells (bv ((hsR S r ps.length).take k ++ List.replicate (ps.length - k) false)) 4 (0, 0)) ∧ wr.heap[g]? = some (.cells (sc S).toArray 78 (0, 0)) ∧ Below w1.heap.size w1 wr) (fun s29 _ => ps.length - (intOf s29).toNat)
    case atStart => exact ⟨0, Nat.zero_le _, rfl, HG2.out, HGS.out, HB3.out⟩
    case round =>
      clear HG2 HGS HB3
      obtain ⟨k, hk, rfl, hG, hg, hB⟩ := hrel
      by_cases hlt : k < ps.length
      · have hk1 : (k : Int) < (ps.length : Int) + 1 := by omega
        cases hx : S.getD k none with
        | none =>
          have z0 : wr.cell? ⟨g, k * 9, none⟩ = some (.bool false) := hp_cell hg (sc_get (j := k) (i := 0) (v := .bool false) HL4.out (by rw [HLN.out]; omega) (by rw [hx]; rfl))
          have z1 : wr.cell? ⟨g, k * 9 + 1, none⟩ = some (.int .i64 0) := hp_cell hg (sc_get (j := k) (i := 1) (v := .int .i64 0) HL4.out (by rw [HLN.out]; omega) (by rw [hx]; rfl))
          have z2 : wr.cell? ⟨g, k * 9 + 2, none⟩ = some (.int .i64 0) := hp_cell hg (sc_get (j := k) (i := 2) (v := .int .i64 0) HL4.out (by rw [HLN.out]; omega) (by rw [hx]; rfl))
          have z3 : wr.cell? ⟨g, k * 9 + 3, none⟩ = some (.int .i64 0) := hp_cell hg (sc_get (j := k) (i := 3) (v := .int .i64 0) HL4.out (by rw [HLN.out]; omega) (by rw [hx]; rfl))
          have z4 : wr.cell? ⟨g, k * 9 + 4, none⟩ = some (.int .i64 0) := hp_cell hg (sc_get (j := k) (i := 4) (v := .int .i64 0) HL4.out (by rw [HLN.out]; omega) (by rw [hx]; rfl))
          have z5 : wr.cell? ⟨g, k * 9 + 5, none⟩ = some (.int .i64 0) := hp_cell hg (sc_get (j := k) (i := 5) (v := .int .i64 0) HL4.out (by rw [HLN.out]; omega) (by rw [hx]; rfl))
          have z6 : wr.cell? ⟨g, k * 9 + 6, none⟩ = some (.int .i64 0) := hp_cell hg (sc_get (j := k) (i := 6) (v := .int .i64 0) HL4.out (by rw [HLN.out]; omega) (by rw [hx]; rfl))
          have z7 : wr.cell? ⟨g, k * 9 + 7, none⟩ = some (.int .i64 0) := hp_cell hg (sc_get (j := k) (i := 7) (v := .int .i64 0) HL4.out (by rw [HLN.out]; omega) (by rw [hx]; rfl))
          have z8 : wr.cell? ⟨g, k * 9 + 8, none⟩ = some (.int .i64 0) := hp_cell hg (sc_get (j := k) (i := 8) (v := .int .i64 0) HL4.out (by rw [HLN.out]; omega) (by rw [hx]; rfl))
          have hge : (hsR S r ps.length)[k]? = some (!r) := by rw [hsR_get hlt, hx]; cases r <;> rfl
          have HST := Lib.hid (set_toG (z := false) hge (HHL.out))
          have hbl : k < ((hsR S r ps.length).take k ++ List.replicate (ps.length - k) false).length := by rw [List.length_append, List.length_take, List.length_replicate, HHL.out]; omega
          generalize ((hsR S r ps.length).take k ++ List.replicate (ps.length - k) false) = bs at *
          have m1 := fun o => cell_alloc_keep (o := o) (hp_cell hG (bv_get bs k hbl))
          have m2 := fun o => hp_free ((hp_alloc hG : (wr.alloc o).heap[w1.heap.size]? = _)) k
          have HG := Lib.hid (fun o => (hp_alloc hG : (wr.alloc o).heap[w1.heap.size]? = _))
          have HGG := Lib.hid (fun o => (hp_alloc hg : (wr.alloc o).heap[g]? = _))
          have HBr := Lib.hid hB
          clear hG hg hB hx hge 
          go_wp2_with fail
          go_roundw
          case rel => exact ⟨k + 1, by omega, by go_num, by rw [← HST.out, ← bv_set]; exact hp_put (HG.out _) k _, hp_set (HGG.out _) (by show g ≠ w1.heap.size; exact hgne) _, (HBr.out.alloc HBr.out.size _).setCell (p := ⟨w1.heap.size, k, none⟩) (Nat.le_refl _) _⟩
          case measure => simp [intOf]; omega
        | some y =>
          have hy4 := HLX.out k y hx
          obtain ⟨y0, y1, y2, y3, rfl⟩ := rg_list4 hy4
          have z0 : wr.cell? ⟨g, k * 9, none⟩ = some (.bool true) := hp_cell hg (sc_get (j := k) (i := 0) (v := .bool true) HL4.out (by rw [HLN.out]; omega) (by rw [hx]; rfl))
          have z1 : wr.cell? ⟨g, k * 9 + 1, none⟩ = some (.int .i64 y0.lo) := hp_cell hg (sc_get (j := k) (i := 1) (v := .int .i64 y0.lo) HL4.out (by rw [HLN.out]; omega) (by rw [hx]; rfl))
          have z2 : wr.cell? ⟨g, k * 9 + 2, none⟩ = some (.int .i64 y0.hi) := hp_cell hg (sc_get (j := k) (i := 2) (v := .int .i64 y0.hi) HL4.out (by rw [HLN.out]; omega) (by rw [hx]; rfl))
          have z3 : wr.cell? ⟨g, k * 9 + 3, none⟩ = some (.int .i64 y1.lo) := hp_cell hg (sc_get (j := k) (i := 3) (v := .int .i64 y1.lo) HL4.out (by rw [HLN.out]; omega) (by rw [hx]; rfl))
          have z4 : wr.cell? ⟨g, k * 9 + 4, none⟩ = some (.int .i64 y1.hi) := hp_cell hg (sc_get (j := k) (i := 4) (v := .int .i64 y1.hi) HL4.out (by rw [HLN.out]; omega) (by rw [hx]; rfl))
          have z5 : wr.cell? ⟨g, k * 9 + 5, none⟩ = some (.int .i64 y2.lo) := hp_cell hg (sc_get (j := k) (i := 5) (v := .int .i64 y2.lo) HL4.out (by rw [HLN.out]; omega) (by rw [hx]; rfl))
          have z6 : wr.cell? ⟨g, k * 9 + 6, none⟩ = some (.int .i64 y2.hi) := hp_cell hg (sc_get (j := k) (i := 6) (v := .int .i64 y2.hi) HL4.out (by rw [HLN.out]; omega) (by rw [hx]; rfl))
          have z7 : wr.cell? ⟨g, k * 9 + 7, none⟩ = some (.int .i64 y3.lo) := hp_cell hg (sc_get (j := k) (i := 7) (v := .int .i64 y3.lo) HL4.out (by rw [HLN.out]; omega) (by rw [hx]; rfl))
          have z8 : wr.cell? ⟨g, k * 9 + 8, none⟩ = some (.int .i64 y3.hi) := hp_cell hg (sc_get (j := k) (i := 8) (v := .int .i64 y3.hi) HL4.out (by rw [HLN.out]; omega) (by rw [hx]; rfl))
          have hge : (hsR S r ps.length)[k]? = some r := by rw [hsR_get hlt, hx]; cases r <;> rfl
          have HST := Lib.hid (set_toG (z := false) hge (HHL.out))
          have hbl : k < ((hsR S r ps.length).take k ++ List.replicate (ps.length - k) false).length := by rw [List.length_append, List.length_take, List.length_replicate, HHL.out]; omega
          generalize ((hsR S r ps.length).take k ++ List.replicate (ps.length - k) false) = bs at *
          have m1 := fun o => cell_alloc_keep (o := o) (hp_cell hG (bv_get bs k hbl))
          have m2 := fun o => hp_free ((hp_alloc hG : (wr.alloc o).heap[w1.heap.size]? = _)) k
          have HG := Lib.hid (fun o => (hp_alloc hG : (wr.alloc o).heap[w1.heap.size]? = _))
          have HGG := Lib.hid (fun o => (hp_alloc hg : (wr.alloc o).heap[g]? = _))
          have HBr := Lib.hid hB
          clear hG hg hB hx hge hy4
          go_wp2_with fail
          go_roundw
          case rel => exact ⟨k + 1, by omega, by go_num, by rw [← HST.out, ← bv_set]; exact hp_put (HG.out _) k _, hp_set (HGG.out _) (by show g ≠ w1.heap.size; exact hgne) _, (HBr.out.alloc HBr.out.size _).setCell (p := ⟨w1.heap.size, k, none⟩) (Nat.le_refl _) _⟩
          case measure => simp [intOf]; omega
      · obtain rfl : k = ps.length := by omega
        rw [Nat.sub_self, List.replicate_zero, List.append_nil, List.take_of_length_le (by rw [HHL.out]; exact Nat.le_refl _)] at hG
        have HBL := Lib.hid (bools_atG hG)
        have hlw := hp_lt hG
        have HBr := Lib.hid (HB.out.trans (hB.mono HB.out.size))
        have H6 := Lib.hid (fun cap => places_any w1.heap.size 0 cap (hsR S r ps.length) wr HBL.out hlw (by rw [HHL.out]; omega))
        rw [HHL.out] at H6
        clear hG hg hB
        go_wp2_with fail
        refine (H6.out _).mono ?_
        rintro e w4 ⟨aq, cq, rfl, hq, hB⟩
        have HO := Lib.hid (own_mono hq HBr.out.size)
        have HB4 := Lib.hid (HBr.out.trans (hB.mono HBr.out.size))
        clear hB hq
        go_wp2_with fail
        go_ret2
        exact ⟨_, _, rfl, HO.out, HB4.out⟩
  · rw [show rcA ps b r = [] by unfold rcA; rw [if_neg hz]]
    have hz1 : (fe (vp ps) (vb b) != 0) = true := by simpa using hz
    have hz2 : (fe (vp ps) (vb b) == 0) = false := by simpa using hz
    generalize fe (vp ps) (vb b) = c at *
    clear hz hb hp
    go_enter Try.func51, Try.ntmps51
    go_wp2_with fail
    refine (HV.out _ HP.out HR.out).mono ?_
    rintro e w1 ⟨rfl, hB⟩
    have HB := Lib.hid hB
    clear hB
    go_wp2_with fail
    go_ret2
    exact givesIntsE_nil HB.out

set_option maxRecDepth 100000 in
set_option maxHeartbeats 1000000 in
theorem sReached_any (a a2 : Option Addr) (ca c2 : Nat) (ps : List L) (b : List Rg) (w : World) (hp : LinesAt w a ps) (hr : RangesAt w a2 b) :
    Calls Try.prog 16 #[.slice a ps.length ca, .slice a2 b.length c2] w (GivesIntsE (rcA ps b true) (fe (vp ps) (vb b)) w) := by
  have H := Lib.hid (slinesThat_any a a2 ca c2 ps b true w hp hr)
  generalize rcA ps b true = Z at *
  generalize fe (vp ps) (vb b) = c at *
  clear hp hr
  go_enter Try.func16, Try.ntmps16
  go_wp2_with fail
  refine H.out.mono ?_
  rintro e w1 ⟨a', c', rfl, hown, hB⟩
  have HO := Lib.hid hown
  have HB := Lib.hid hB
  clear hown hB
  go_wp2_with fail
  go_ret2
  exact ⟨a', c', rfl, HO.out, HB.out⟩

set_option maxRecDepth 100000 in
set_option maxHeartbeats 1000000 in
theorem sDead_any (a a2 : Option Addr) (ca c2 : Nat) (ps : List L) (b : List Rg) (w : World) (hp : LinesAt w a ps) (hr : RangesAt w a2 b) :
    Calls Try.prog 18 #[.slice a ps.length ca, .slice a2 b.length c2] w (GivesIntsE (rcA ps b false) (fe (vp ps) (vb b)) w) := by
  have H := Lib.hid (slinesThat_any a a2 ca c2 ps b false w hp hr)
  generalize rcA ps b false = Z at *
  generalize fe (vp ps) (vb b) = c at *
  clear hp hr
  go_enter Try.func18, Try.ntmps18
  go_wp2_with fail
  refine H.out.mono ?_
  rintro e w1 ⟨a', c', rfl, hown, hB⟩
  have HO := Lib.hid hown
  have HB := Lib.hid hB
  clear hown hB
  go_wp2_with fail
  go_ret2
  exact ⟨a', c', rfl, HO.out, HB.out⟩

end Go.Proofs.Ytmpgaccpdglhkaa
